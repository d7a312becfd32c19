/- Chapter 3's program: watchers. -/
import Derived.Test.YtdnfphpeleakcaaI3b
import Derived.Test.YtdnfphpeleakcaaBox
import Derived.Laws.LoneSync
import Derived.Laws.Pointers
namespace Go.Proofs.Ytdnfphpeleakcaa
set_option maxRecDepth 100000
open Go.RowKit Go.Proofs Go.Own
open Go
set_option linter.unusedVariables false
set_option linter.unusedSimpArgs false

def watchB (p x : Int) : Bool := x != -1 && decide (x ≤ p)
def watchN (ps : List Int) (p : Int) (k : Nat) : Int := ((ps.take k).countP (watchB p) : Nat)
theorem watchN_succ (ps : List Int) (p : Int) (k : Nat) (hk : k < ps.length) (x : Int) (hx : ps[k] = x) : watchN ps p (k + 1) = watchN ps p k + if watchB p x = true then 1 else 0 := by
  simp only [watchN, countP_take_succ _ _ _ hk, hx]; split <;> simp
theorem watchN_le (ps : List Int) (p : Int) (k : Nat) : 0 ≤ watchN ps p k ∧ watchN ps p k ≤ k := by
  have : (ps.take k).countP (watchB p) ≤ k := Nat.le_trans List.countP_le_length (List.length_take_le _ _)
  simp only [watchN]; omega

theorem impl_add (b : Nat) (x y : Int) (w : World) (hc : w.cell? ⟨b, 0, none⟩ = some (.int .i64 x)) (hf : w.frozen? ⟨b, 0, none⟩ = false) (hs : IntKind.i64.wrap (x + y) = x + y) :
    Calls Try.prog 82 #[.pointer (some ⟨b, 0, none⟩), .int .i64 y] w fun e w' => e = .returned (.int .i64 (x + y)) ∧ w' = w.setCell ⟨b, 0, none⟩ (.int .i64 (x + y)) := by
  have h := run_call_add (P := Try.prog) Try.func99 (by kernel_rfl) (by kernel_rfl) (by kernel_rfl) .i64 (by kernel_rfl) (x := x) (y := y) (s := x + y) hc hf (by simp [Op.intArith, hs])
  go_enter Try.func82, Try.ntmps82
  go_wp2
  go_ret
  exact ⟨rfl, rfl⟩
theorem impl_load (b : Nat) (x : Int) (w : World) (hc : w.cell? ⟨b, 0, none⟩ = some (.int .i64 x)) :
    Calls Try.prog 83 #[.pointer (some ⟨b, 0, none⟩)] w fun e w' => e = .returned (.int .i64 x) ∧ w = w' := by
  have h := run_call_load (P := Try.prog) Try.func100 (by kernel_rfl) (by kernel_rfl) (by kernel_rfl) .i64 (by kernel_rfl) hc
  go_enter Try.func83, Try.ntmps83
  go_wp2
  go_ret
  exact ⟨rfl, rfl⟩

set_option maxRecDepth 100000 in set_option maxHeartbeats 2000000 in
theorem impl_watchers (v : Value) (ps : List Int) (p : Int) (w : World) (h : Ints w v ps) (hl6 : ps.length ≤ 1000) :
    Calls Try.prog 46 #[v, .int .i64 p] w fun e w' => e = .returned (.int .i64 (watchN ps p ps.length)) ∧ Below w.heap.size w w' := by
  obtain ⟨a, cap, rfl, hl, hm⟩ := h.form
  obtain ⟨W1, hW1⟩ : ∃ X, (w.alloc (.cells #[.int .i64 0] 104)) = X := ⟨_, rfl⟩
  have hB1 : Below w.heap.size w W1 := by rw [← hW1]; exact (Below.refl _ _).alloc (Nat.le_refl _) _
  have hN1 : w.heap.size + 1 = W1.heap.size := by rw [← hW1]; simp
  have cb : BoxF W1 w.heap.size [.int .i64 0] := by rw [← hW1]; exact BoxF.alloc _ _ _
  go_enter Try.func46, Try.ntmps46
  go_wp2
  clear hW1
  go_loopw [10] (fun i wr => ∃ k : Nat, k ≤ ps.length ∧ i = .int .i64 k ∧ BoxF wr w.heap.size [.int .i64 (watchN ps p k)] ∧ Below w.heap.size w wr) (fun i _ => ps.length - (intOf i).toNat)
  case atStart => exact ⟨0, by omega, rfl, cb, hB1⟩
  case round =>
    clear cb hB1
    obtain ⟨k, hk, rfl, cb, hB⟩ := hrel
    obtain ⟨c, hc⟩ : ∃ c, Hid (watchN ps p k = c) := ⟨_, hid rfl⟩
    have hle := watchN_le ps p k
    rw [hc.out] at cb hle
    obtain ⟨hle0, hle1⟩ := hle
    have cc := cb.1.2 0 (by simp); have cf := cb.2 0 (by simp)
    simp only [List.getElem?_cons_zero] at cc
    by_cases hlt : k < ps.length
    · obtain ⟨x, hx⟩ : ∃ x, Hid (ps[k] = x) := ⟨_, hid rfl⟩
      have hst := hid (watchN_succ ps p k hlt x hx.out)
      rw [hc.out] at hst
      obtain ⟨bb, off, rfl, hbs, c0⟩ := Ints.at (Ints.below h hB) k hlt
      rw [hx.out] at c0
      cases h1 : (x != -1)
      case false =>
        have hw := hid (show watchB p x = false by simp [watchB, h1])
        have HB := hid hB
        have HC := hid cb
        go_wp2
        go_roundw
        case rel => exact ⟨k+1, by omega, by go_num, by rw [hst.out, hw.out]; simpa using HC.out, HB.out⟩
        case measure => simp [intOf]; omega
      cases h2 : decide (x ≤ p)
      case false =>
        have hw := hid (show watchB p x = false by simp only [watchB, h1, h2]; rfl)
        have HB := hid hB
        have HC := hid cb
        go_wp2
        go_roundw
        case rel => exact ⟨k+1, by omega, by go_num, by rw [hst.out, hw.out]; simpa using HC.out, HB.out⟩
        case measure => simp [intOf]; omega
      case true =>
        have hw := hid (show watchB p x = true by simp only [watchB, h1, h2]; rfl)
        have S0 := hid (cb.set 0 (by simp) (.int .i64 (c + 1)))
        have S1 := hid (hB.setCell (p := ⟨w.heap.size, 0, none⟩) (Nat.le_refl _) (.int .i64 (c + 1)))
        have hws : IntKind.i64.wrap (c + 1) = c + 1 := by rw [IntKind.wrap_i64]; omega
        go_wp2_with (first | (go_at_call 82; refine (impl_add _ c 1 _ cc cf hws).mono ?_; rintro e w' ⟨rfl, rfl⟩))
        go_roundw
        case rel => exact ⟨k+1, by omega, by go_num, by rw [hst.out, hw.out]; simpa using S0.out, S1.out⟩
        case measure => simp [intOf]; omega
    · obtain rfl : k = ps.length := by omega
      have HB := hid hB
      go_wp2_with (first | (go_at_call 83; refine (impl_load _ c _ cc).mono ?_; rintro e w' ⟨rfl, rfl⟩))
      go_ret
      exact ⟨ret_int hc.out.symm, HB.out⟩
end Go.Proofs.Ytdnfphpeleakcaa
