/- Chapter 3's program: pinsOk, retiredOk, YardOk. -/
import Derived.Test.YtdnfphpeleakcaaS3b
import Derived.Test.YtdnfphpeleakcaaI2d
namespace Go.Proofs.Ytdnfphpeleakcaa
set_option maxRecDepth 100000
open Go.RowKit Go.Proofs Go.Own
open Go Go.BigFrame
set_option linter.unusedVariables false
set_option linter.unusedSimpArgs false

def pinIn (n x : Int) : Bool := !(decide (x < -1) || decide (n < x))
theorem pinIn_eq (n x : Int) : pinIn n x = inB x (-1) n := by simp only [pinIn, inB]; rw [Bool.eq_iff_iff]; simp
def pinsPre (ps : List Int) (n : Int) (k : Nat) : Prop := ∀ j, (h : j < ps.length) → j < k → inB ps[j] (-1) n = true
theorem pinsPre_succ {ps : List Int} {n : Int} {k : Nat} (h : pinsPre ps n k) (hk : k < ps.length) (hb : inB ps[k] (-1) n = true) : pinsPre ps n (k+1) := by
  intro j hj hjk
  by_cases e : j = k
  · subst e; exact hb
  · exact h j hj (by omega)
theorem pins_end {ps : List Int} {n : Int} (h : pinsPre ps n ps.length) : allIn ps (-1) n 0 = true := by
  rw [allIn_all, List.all_eq_true]; intro x hx
  obtain ⟨j, hj, rfl⟩ := List.getElem_of_mem hx
  exact h j hj hj
theorem pins_no {ps : List Int} {n : Int} {k : Nat} (hk : k < ps.length) (h : inB ps[k] (-1) n = false) : allIn ps (-1) n 0 = false := by
  rw [allIn_all, List.all_eq_false]; exact ⟨ps[k], List.getElem_mem hk, by simp [h]⟩
def pinsOkF (ps : List Int) (n : Int) : Bool := inB ps.length 1 6 && allIn ps (-1) n 0

set_option maxRecDepth 100000 in set_option maxHeartbeats 2000000 in
theorem impl_pinsOk (v0 : Value) (bs : List Block) (v1 : Value) (ls : List Int) (v2 : Value) (ps : List Int) (v3 : Value) (gs : List Gone) (n : Int) (w : World) (h0 : Blocks w v0 bs) (h1 : Ints w v1 ls) (h2 : Ints w v2 ps) (h3 : Gones w v3 gs) :
    Calls Try.prog 60 #[.agg #[v0, v1, v2, v3, .int .i64 n]] w fun e w' => e = .returned (.bool (pinsOkF ps n)) ∧ Below w.heap.size w w' := by
  obtain ⟨a0, cap0, rfl, hl0, hm0⟩ := h0.form; obtain ⟨a1, cap1, rfl, hl1, hm1⟩ := h1.form; obtain ⟨a2, cap2, rfl, hl2, hm2⟩ := h2.form; obtain ⟨a3, cap3, rfl, hl3, hm3⟩ := h3.form; obtain ⟨W1, hW1⟩ : ∃ X, (w.alloc (.cells #[Value.slice a0 bs.length cap0, Value.slice a1 ls.length cap1, Value.slice a2 ps.length cap2, Value.slice a3 gs.length cap3, .int .i64 n] 30)) = X := ⟨_, rfl⟩; have hB1 : Below w.heap.size w W1 := by rw [← hW1]; exact Below.alloc (Below.refl _ _) (by simp) _
  have hN : w.heap.size + 1 = W1.heap.size := by rw [← hW1]; simp
  have k2 := Ext.cell (W := W1) (b := w.heap.size) (o := 2) (v := Value.slice a2 ps.length cap2) (by omega) (by rw [← hW1]; simp [go_sem])
  have k4 := Ext.cell (W := W1) (b := w.heap.size) (o := 4) (v := .int .i64 n) (by omega) (by rw [← hW1]; simp [go_sem])
  have h2w := Ints.below h2 hB1
  go_enter Try.func60, Try.ntmps60
  have k2' := Ext.now k2
  have k4' := Ext.now k4
  by_cases hl : inB ps.length 1 6 = true
  case neg =>
    have hn := hid (show pinsOkF ps n = false by simp [pinsOkF, hl])
    by_cases hs : (ps.length : Int) < 1
    · go_wp2
      go_ret
      exact ⟨ret_bool hn.out.symm, hB1⟩
    · have hg : (6 : Int) < ps.length := by simp [inB] at hl; omega
      go_wp2
      go_ret
      exact ⟨ret_bool hn.out.symm, hB1⟩
  have hs : ¬ (ps.length : Int) < 1 := by simp [inB] at hl; omega
  have hg : ¬ (6 : Int) < ps.length := by simp [inB] at hl; omega
  have hl' := hid hl
  clear hl
  go_wp2
  go_loop [18] (fun i => ∃ k : Nat, k ≤ ps.length ∧ i = .int .i64 k ∧ pinsPre ps n k) (fun i => ps.length - (intOf i).toNat)
  case atStart => exact ⟨0, by omega, rfl, (by intro j _ h; omega)⟩
  case round =>
    obtain ⟨k, hk, rfl, hpre⟩ := hrel
    by_cases hlt : k < ps.length
    · obtain ⟨x, hx⟩ : ∃ x, Hid (ps[k] = x) := ⟨_, hid rfl⟩
      obtain ⟨bb, off, rfl, hbs, c0⟩ := Ints.at h2w k hlt
      rw [hx.out] at c0
      cases hi : inB x (-1) n
      case false =>
        have hn := hid (show pinsOkF ps n = false by simp [pinsOkF, pins_no hlt (by rw [hx.out]; exact hi)])
        rw [← pinIn_eq] at hi
        by_cases h1 : x < -1
        · go_wp2
          go_ret
          exact ⟨ret_bool hn.out.symm, hB1⟩
        · have h2 : n < x := by simp [pinIn] at hi; omega
          go_wp2
          go_ret
          exact ⟨ret_bool hn.out.symm, hB1⟩
      case true =>
        have hp := hid (pinsPre_succ hpre hlt (by rw [hx.out]; exact hi))
        have h1 : ¬ x < -1 := by simp [inB] at hi; omega
        have h2 : ¬ n < x := by simp [inB] at hi; omega
        clear hi hpre
        go_wp2
        go_round
        case rel => exact ⟨k+1, by omega, by go_num, hp.out⟩
        case measure => simp [intOf]; omega
    · obtain rfl : k = ps.length := by omega
      have hy := hid (show pinsOkF ps n = true by simp only [pinsOkF, hl'.out, pins_end hpre]; rfl)
      go_wp2
      go_ret
      exact ⟨ret_bool hy.out.symm, hB1⟩
end Go.Proofs.Ytdnfphpeleakcaa
