/- Chapter 9's program: ProgOk, Straight. -/
import Derived.Test.YtikiaffgjpddeaaI9
import Derived.Test.YtikiaffgjpddeaaM4
import Derived.Shelf.Abstract
namespace Go.Proofs.Ytikiaffgjpddeaa
set_option maxRecDepth 100000
open Go.RowKit Go.Proofs Go.Own
open Go Go.BigFrame Go.Shelf
set_option linter.unusedVariables false
set_option linter.unusedSimpArgs false
set_option maxHeartbeats 2000000 in
theorem impl_ProgOk (v : Value) (xs : List Instr) (w : World) (h : Instrs w v xs) :
    Calls Try.prog 39 #[v] w fun e w' => e = .returned (.bool (progOk xs)) ∧ Below w.heap.size w w' := by
  have H0 := hid h
  obtain ⟨ad, cap, rfl, hl, hm, hc⟩ := h.open
  clear h
  have hlen : xs.length ≤ 9223372036854775807 := by omega
  have HC := hid hc
  clear hc
  by_cases h6 : (30 : Int) < (xs.length : Int)
  · have Hno := hid (show progOk xs = false by unfold progOk; rw [decide_eq_false (by omega), Bool.and_false])
    go_enter Try.func39, Try.ntmps39
    go_wp2
    go_ret
    exact ⟨ret_bool Hno.out.symm, Below.refl _ _⟩
  have Hy := hid (show progOk xs = progAt xs 0 by unfold progOk; rw [decide_eq_true (by omega), Bool.and_true])
  go_enter Try.func39, Try.ntmps39
  go_wp2
  go_loopw [10] (fun i wr => ∃ k : Nat, k ≤ xs.length ∧ i = .int .i64 k ∧ Same (progAt xs 0) (progAt xs k) ∧ Below w.heap.size w wr) (fun i _ => xs.length - (intOf i).toNat)
  case atStart => exact ⟨0, by omega, rfl, .rfl, Below.refl _ _⟩
  case round =>
    obtain ⟨k, hk, rfl, hS, hB⟩ := hrel
    by_cases hlt : k < xs.length
    · obtain ⟨bb, off, rfl, hbs, c0, c1, c2⟩ := HC.out k hlt
      obtain ⟨e0, e1, e2⟩ := cells3 hB hbs c0 c1 c2
      have hst := hid (progAt_step xs k hlt)
      clear c0 c1 c2
      obtain ⟨V, hV⟩ : ∃ X, wr.alloc (.cells #[.int .i64 xs[k].op_, .int .i64 xs[k].a_, .int .i64 xs[k].b_] 73) = X := ⟨_, rfl⟩
      have bV : Below wr.heap.size wr V := by rw [← hV]; exact (Below.refl _ _).alloc (Nat.le_refl _) _
      have k0 : V.cell? ⟨wr.heap.size, 0, none⟩ = some (.int .i64 xs[k].op_) := by rw [← hV]; simp [go_sem]
      have k1 : V.cell? ⟨wr.heap.size, 1, none⟩ = some (.int .i64 xs[k].a_) := by rw [← hV]; simp [go_sem]
      have k2 : V.cell? ⟨wr.heap.size, 2, none⟩ = some (.int .i64 xs[k].b_) := by rw [← hV]; simp [go_sem]
      have HBV := hid (show Below w.heap.size w V from hB.trans (bV.mono hB.size))
      have HV := hid hV
      clear hV bV HC H0
      cases hE : instrOk xs[k] xs.length with
      | false =>
        have Hn := hid (show progOk xs = false by rw [Hy.out, hS.out, hst.out, hE]; rfl)
        go_wp2_with fail
        rw [HV.out]
        clear e0 e1 e2
        go_wp2_with fail
        refine (impl_instrOk xs[k] _ _).mono ?_
        rintro e w2 ⟨rfl, b2⟩
        rw [hE]
        have hB2 := HBV.out.trans (b2.mono HBV.out.size)
        go_wp2
        go_ret
        exact ⟨ret_bool Hn.out.symm, hB2⟩
      | true =>
        go_wp2_with fail
        rw [HV.out]
        clear e0 e1 e2
        go_wp2_with fail
        refine (impl_instrOk xs[k] _ _).mono ?_
        rintro e w2 ⟨rfl, b2⟩
        rw [hE]
        have hB2 := HBV.out.trans (b2.mono HBV.out.size)
        go_wp2
        go_roundw
        case rel => exact ⟨k+1, by omega, by go_num, Same.mk (by rw [hS.out, hst.out, hE, Bool.true_and]), hB2⟩
        case measure => simp [intOf]; omega
    · have Hn := hid (show progOk xs = true by rw [Hy.out, hS.out, progAt_end xs k hlt])
      go_wp2
      go_ret
      exact ⟨ret_bool Hn.out.symm, hB⟩
end Go.Proofs.Ytikiaffgjpddeaa
