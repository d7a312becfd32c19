import Derived.Test.YtfhkngmankmehaaProg
import Derived.Test.YtfhkngmankmehaaB
namespace Go.Proofs.Ytfhkngmankmehaa
open Go.RowKit Go.Proofs Go.Own

theorem info3 : (Try.prog.info? 3).map (fun i => (i.zero, i.size, i.bytes)) = some (some (.int .i64 0), 1, 8) := by kernel_rfl

theorem toIntS_c (v : Value) (xs : List Int) (w : World) (hx : xs.length ≤ 1048576) (h : Ints w v xs) :
    Calls Try.prog 10 #[v] w fun e w' => ∃ v', e = .returned v' ∧ w'.ownsRow w.heap.size 3 1 v' xs.length (xs.map (Value.int .i64)) ∧ Below w.heap.size w w' := by
  obtain ⟨ad, cap, rfl, hl, hm, hc⟩ := h.open
  clear h
  have hlen : xs.length ≤ 9223372036854775807 := by omega
  obtain ⟨i0, hi, hz0, hz1, hz2⟩ := info_parts info3
  have hL : (xs.map (Value.int .i64)).length = xs.length * 1 := by simp
  generalize hG : xs.map (Value.int .i64) = L at *
  have HL := hid hL
  have hlk : ∀ k, (hk : k < xs.length) → Hid (∃ h : k < L.length, L[k] = .int .i64 xs[k]) := fun k hk => ⟨by omega, by subst hG; simp⟩
  clear hL hG
  go_enter Try.func10, Try.ntmps10
  go_wp2_with (at_make; refine wpList_make_full _ rfl _ _ 22 rfl (w.heap.size) 3 i0 (.int .i64 0) 1 Try.underlying22 hi hz0 hz1 _ _ _ _ xs.length rfl rfl rfl rfl (by rw [hz2]; omega) (by unfold maxLen; omega) (Nat.le_refl _) ?_)
  intro w1 hown hgrow
  have hB := (Below.refl w.heap.size w).grown hgrow (Nat.le_refl _) (by simp)
  have hF : Filling w1 w.heap.size 3 1 xs.length L 0 := .start hown HL.out
  clear hown hgrow
  go_wp2
  go_loopw [4] (fun i wr => ∃ k : Nat, k ≤ xs.length ∧ i = .int .i64 k ∧ Filling wr w.heap.size 3 1 xs.length L k ∧ Below w.heap.size w wr) (fun i _ => xs.length - (intOf i).toNat)
  case atStart => exact ⟨0, by omega, rfl, hF, hB⟩
  case round =>
    clear hF hB
    obtain ⟨k, hk, rfl, hF, hB⟩ := hrel
    by_cases hlt : k < xs.length
    · obtain ⟨bb, off, rfl, hbs, hcell⟩ := hc k hlt
      have hcell1 : wr.cell? ⟨bb, off + k, none⟩ = some (.int .i64 xs[k]) := by rw [hB.cell (p := ⟨bb, off + k, none⟩) hbs]; exact hcell
      obtain ⟨hkL, hLk⟩ := (hlk k hlt).out
      obtain ⟨⟨u, hu⟩, hfr⟩ := hF.cell HL.out k hkL
      have hF2 := hF.store _ hkL hLk
      have hB2 := hB.setCell (p := ⟨w.heap.size, k, none⟩) (Nat.le_refl _) (.int .i64 xs[k])
      clear hc hcell hLk
      go_wp2
      go_roundw
      case rel => exact ⟨k+1, by omega, by go_num, hF2, hB2⟩
      case measure => simp [intOf]; omega
    · go_wp2
      go_ret
      exact ⟨_, rfl, hF.done (by have := HL.out; omega), hB⟩
end Go.Proofs.Ytfhkngmankmehaa
