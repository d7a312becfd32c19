/- Chapter 7's model: NewStore. -/
import Derived.Test.YtbbdchlabdilcaaM2
namespace Go.Proofs.Ytbbdchlabdilcaa
set_option maxRecDepth 100000
open Go.RowKit Go.Proofs Go.Own
open Go Go.BigFrame
set_option linter.unusedVariables false
set_option linter.unusedSimpArgs false
theorem spec_l1All (v : Value) (xs : List Int) (a b : Int) (w : World) (h : Ints w v xs) :
    Calls Try.prog 33 #[v, .int .i64 a, .int .i64 b] w fun e w' => e = .returned (.bool (allIn xs a b 0)) ∧ w = w' := by
  obtain ⟨ad, cap, rfl, hl, hm, hc⟩ := h.open
  have hlen : xs.length ≤ 9223372036854775807 := by omega
  go_enter Try.func33, Try.ntmps33
  go_wp2
  go_loop [7] (fun i => ∃ k : Nat, k ≤ xs.length ∧ i = .int .i64 k ∧ Same (allIn xs a b 0) (allIn xs a b k)) (fun i => xs.length - (intOf i).toNat)
  case atStart => exact ⟨0, by omega, rfl, .rfl⟩
  case round =>
    obtain ⟨k, hk, rfl, hall⟩ := hrel
    by_cases hlt : k < xs.length
    · obtain ⟨bb, off, rfl, hbs, hcell⟩ := hc k hlt
      have hst := hid (allIn_step xs a b k hlt)
      clear hc
      go_wp2_with (go_at_call 32; refine (spec_l1In _ _ _ _).mono ?_; rintro e w' ⟨rfl, rfl⟩)
      · have hf : (!inB xs[k] a b) = true := by assumption
        go_ret
        exact ⟨ret_bool (by rw [hall.out, hst.out]; simp at hf; simp [hf]), rfl⟩
      · have hf : (!inB xs[k] a b) = false := by assumption
        go_round
        case rel => exact ⟨k+1, by omega, by go_num, .mk (by rw [hall.out, hst.out]; simp at hf; simp [hf])⟩
        case measure => simp [intOf]; omega
    · have hst := hid (allIn_end xs a b k hlt)
      go_wp2
      go_ret
      exact ⟨ret_bool (by rw [hall.out, hst.out]), rfl⟩

theorem BoxF.lower {X w : World} {b M : Nat} {cs : List Value} (h : BoxF X b cs) (hb : Below M X w) (hM : b < M) : BoxF w b cs :=
  ⟨⟨Nat.lt_of_lt_of_le h.1.1 hb.size, fun j hj => (hb.cell (p := ⟨b, j, none⟩) hM).trans (h.1.2 j hj)⟩, fun j hj => (hb.frozen (p := ⟨b, j, none⟩) hM).trans (h.2 j hj)⟩
theorem enc_mk (xs : List Int) (k : Nat) (h : k < xs.length) : ((xs.take (k+1)).map mkHd).flatMap Head.enc = ((xs.take k).map mkHd).flatMap Head.enc ++ Head.enc (mkHd xs[k]) := by
  rw [← List.take_append_getElem h, List.map_append, List.flatMap_append]; simp
end Go.Proofs.Ytbbdchlabdilcaa
