/- Chapter 9's program: ProgOk, Straight. -/
import Derived.Test.YtjcaagkppalndaaI9
import Derived.Test.YtjcaagkppalndaaS9
import Derived.Shelf.Abstract
namespace Go.Proofs.Ytjcaagkppalndaa
set_option maxRecDepth 100000
open Go.RowKit Go.Proofs Go.Own
open Go Go.BigFrame Go.Shelf
set_option linter.unusedVariables false
set_option linter.unusedSimpArgs false
set_option maxHeartbeats 2000000 in
theorem impl_ProgOk (v : Value) (xs : List Instr) (w : World) (h : Instrs w v xs) :
    Calls Try.prog 9 #[v] w fun e w' => e = .returned (.bool (progOk xs)) ∧ Below w.heap.size w w' := by
  have H0 := hid h
  obtain ⟨ad, cap, rfl, hl, hm, hc⟩ := h.open
  clear h
  have hlen : xs.length ≤ 9223372036854775807 := by omega
  have HC := hid hc
  clear hc
  by_cases h6 : (30 : Int) < (xs.length : Int)
  · have Hno := hid (show progOk xs = false by unfold progOk; rw [decide_eq_false (by omega), Bool.and_false])
    go_enter Try.func9, Try.ntmps9
    go_wp2
    go_ret
    exact ⟨ret_bool Hno.out.symm, Below.refl _ _⟩
  have Hy := hid (show progOk xs = progAt xs 0 by unfold progOk; rw [decide_eq_true (by omega), Bool.and_true])
  go_enter Try.func9, Try.ntmps9
  go_wp2
  go_loopw [10] (fun i wr => ∃ k : Nat, k ≤ xs.length ∧ i = .int .i64 k ∧ Same (progAt xs 0) (progAt xs k) ∧ Below w.heap.size w wr) (fun i _ => xs.length - (intOf i).toNat)
  case atStart => exact ⟨0, by omega, rfl, .rfl, Below.refl _ _⟩
  case round =>
    obtain ⟨k, hk, rfl, hS, hB⟩ := hrel
    by_cases hlt : k < xs.length
    · obtain ⟨bb, off, rfl, hbs, c0, c1, c2⟩ := HC.out k hlt
      obtain ⟨e0, e1, e2⟩ := cells3 hB hbs c0 c1 c2
      have hst := hid (progAt_step xs k hlt)
      clear c0 c1 c2
      obtain ⟨V, hV⟩ : ∃ X, wr.alloc (.cells #[.int .i64 xs[k].op_, .int .i64 xs[k].a_, .int .i64 xs[k].b_] 37) = X := ⟨_, rfl⟩
      have bV : Below wr.heap.size wr V := by rw [← hV]; exact (Below.refl _ _).alloc (Nat.le_refl _) _
      have k0 : V.cell? ⟨wr.heap.size, 0, none⟩ = some (.int .i64 xs[k].op_) := by rw [← hV]; simp [go_sem]
      have k1 : V.cell? ⟨wr.heap.size, 1, none⟩ = some (.int .i64 xs[k].a_) := by rw [← hV]; simp [go_sem]
      have k2 : V.cell? ⟨wr.heap.size, 2, none⟩ = some (.int .i64 xs[k].b_) := by rw [← hV]; simp [go_sem]
      have HBV := hid (show Below w.heap.size w V from hB.trans (bV.mono hB.size))
      have HV := hid hV
      clear hV bV HC H0
      cases hE : instrOk xs[k] xs.length with
      | false =>
        have Hn := hid (show progOk xs = false by rw [Hy.out, hS.out, hst.out, hE]; rfl)
        go_wp2_with fail
        rw [HV.out]
        clear e0 e1 e2
        go_wp2_with fail
        refine (impl_instrOk xs[k] _ _).mono ?_
        rintro e w2 ⟨rfl, b2⟩
        rw [hE]
        have hB2 := HBV.out.trans (b2.mono HBV.out.size)
        go_wp2
        go_ret
        exact ⟨ret_bool Hn.out.symm, hB2⟩
      | true =>
        go_wp2_with fail
        rw [HV.out]
        clear e0 e1 e2
        go_wp2_with fail
        refine (impl_instrOk xs[k] _ _).mono ?_
        rintro e w2 ⟨rfl, b2⟩
        rw [hE]
        have hB2 := HBV.out.trans (b2.mono HBV.out.size)
        go_wp2
        go_roundw
        case rel => exact ⟨k+1, by omega, by go_num, Same.mk (by rw [hS.out, hst.out, hE, Bool.true_and]), hB2⟩
        case measure => simp [intOf]; omega
    · have Hn := hid (show progOk xs = true by rw [Hy.out, hS.out, progAt_end xs k hlt])
      go_wp2
      go_ret
      exact ⟨ret_bool Hn.out.symm, hB⟩
theorem impl_isJump (e : Instr) (w : World) :
    Calls Try.prog 25 #[.agg #[.int .i64 e.op_, .int .i64 e.a_, .int .i64 e.b_]] w fun r w' => r = .returned (.bool (isJump e)) ∧ Below w.heap.size w w' := by
  go_enter Try.func25, Try.ntmps25
  go_wp2
  all_goals go_ret
  all_goals refine ⟨ret_bool (by simp [isJump, *]), (Below.refl _ _).alloc (Nat.le_refl _) _⟩
theorem impl_isJumpIs (e : Instr) (r : Bool) (w : World) (hr : isJump e = r) :
    Calls Try.prog 25 #[.agg #[.int .i64 e.op_, .int .i64 e.a_, .int .i64 e.b_]] w fun e w' => e = .returned (.bool r) ∧ Below w.heap.size w w' := by
  subst hr; exact impl_isJump e w
set_option maxHeartbeats 2000000 in
theorem impl_IndexFunc9 (v : Value) (xs : List Instr) (w : World) (h : Instrs w v xs) :
    Calls Try.prog 31 #[v, .func (.func 25) #[] #[]] w fun e w' => ∃ r : Int, e = .returned (.int .i64 r) ∧ decide (0 ≤ r) = jumpAt xs 0 ∧ Below w.heap.size w w' := by
  have eg : ∀ args w, (callFunc 25 args).run Try.prog w = .ok (.enter 25 args) w := enters_of Try.func25 (by kernel_rfl) rfl
  obtain ⟨ad, cap, rfl, hl, hm, hc0⟩ := h.open
  clear h
  have hlen : xs.length ≤ 9223372036854775807 := by omega
  have HC := hid hc0
  clear hc0
  go_enter Try.func31, Try.ntmps31
  go_wp2
  go_loopw [8] (fun i wr => ∃ k : Nat, k ≤ xs.length ∧ i = .int .i64 k ∧ Same (jumpAt xs 0) (jumpAt xs k) ∧ Below w.heap.size w wr) (fun i _ => xs.length - (intOf i).toNat)
  case atStart => exact ⟨0, by omega, rfl, .rfl, Below.refl _ _⟩
  case round =>
    obtain ⟨k, hk, rfl, hS, hW⟩ := hrel
    by_cases hlt : k < xs.length
    · obtain ⟨bb, off, rfl, hbs, c0, c1, c2⟩ := HC.out k hlt
      obtain ⟨e0, e1, e2⟩ := cells3 hW hbs c0 c1 c2
      have hst := hid (jumpAt_step xs k hlt)
      clear c0 c1 c2 HC
      cases hq : isJump xs[k] with
      | true =>
        have Hq := hid hq
        clear hq
        go_wp2_with (go_at_fn 25; refine (impl_isJumpIs xs[k] _ _ Hq.out).mono ?_; rintro e w2 ⟨rfl, b2⟩)
        have hW2 := hW.trans (b2.mono hW.size)
        go_ret
        exact ⟨(k : Int), rfl, by rw [hS.out, hst.out, Hq.out, Bool.true_or]; exact decide_eq_true (by omega), hW2⟩
      | false =>
        have Hq := hid hq
        clear hq
        go_wp2_with (go_at_fn 25; refine (impl_isJumpIs xs[k] _ _ Hq.out).mono ?_; rintro e w2 ⟨rfl, b2⟩)
        have hW2 := hW.trans (b2.mono hW.size)
        go_roundw
        case rel => exact ⟨k+1, by omega, by go_num, Same.mk (by rw [hS.out, hst.out, Hq.out, Bool.false_or]), hW2⟩
        case measure => simp [intOf]; omega
    · have He := hid (jumpAt_end xs k hlt)
      go_wp2
      go_ret
      exact ⟨-1, rfl, by rw [hS.out, He.out]; rfl, hW⟩
theorem impl_ContainsFunc9 (v : Value) (xs : List Instr) (w : World) (h : Instrs w v xs) :
    Calls Try.prog 24 #[v, .func (.func 25) #[] #[]] w fun e w' => e = .returned (.bool (jumpAt xs 0)) ∧ Below w.heap.size w w' := by
  have h1 := hid h
  go_enter Try.func24, Try.ntmps24
  go_wp2_with fail
  refine (impl_IndexFunc9 v xs _ h1.out).mono ?_
  rintro e w2 ⟨r, rfl, hr, b2⟩
  go_wp2
  go_ret
  exact ⟨ret_bool (by rw [← hr]), b2⟩
set_option maxHeartbeats 2000000 in
theorem impl_Straight0 (v : Value) (xs : List Instr) (w : World) (h : Instrs w v xs) :
    Calls Try.prog 18 #[v] w fun e w' => e = .returned (.bool (straightC xs)) ∧ Below w.heap.size w w' := by
  have h1 := hid h
  cases hP : progOk xs with
  | false =>
    have Hn := hid (show straightC xs = false by unfold straightC; rw [hP]; rfl)
    go_enter Try.func18, Try.ntmps18
    go_wp2_with fail
    refine (impl_ProgOk v xs _ h1.out).mono ?_
    rintro e w2 ⟨rfl, b2⟩
    rw [hP]
    go_wp2
    go_ret
    exact ⟨ret_bool Hn.out.symm, b2⟩
  | true =>
    have Hn := hid (show straightC xs = !jumpAt xs 0 by unfold straightC; rw [hP]; rfl)
    go_enter Try.func18, Try.ntmps18
    go_wp2_with fail
    refine (impl_ProgOk v xs _ h1.out).mono ?_
    rintro e w2 ⟨rfl, b2⟩
    rw [hP]
    have h2 := hid (Flat.below h1.out b2)
    go_wp2_with fail
    refine (impl_ContainsFunc9 v xs _ h2.out).mono ?_
    rintro e w3 ⟨rfl, b3⟩
    have b4 := b2.trans (b3.mono b2.size)
    go_wp2
    go_ret
    exact ⟨ret_bool Hn.out.symm, b4⟩
end Go.Proofs.Ytjcaagkppalndaa
