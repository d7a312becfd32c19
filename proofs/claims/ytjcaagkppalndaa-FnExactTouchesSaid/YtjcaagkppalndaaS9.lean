/- Chapter 9's model: an instruction that is so, ProgOk, Straight. -/
import Derived.Test.YtjcaagkppalndaaF0
import Derived.Test.YtjcaagkppalndaaProg
import Derived.Test.YtjcaagkppalndaaF9
import Derived.Test.YtjcaagkppalndaaBx
/- The contracts of the model's small functions. -/
namespace Go.Proofs.Ytjcaagkppalndaa
set_option maxRecDepth 100000
open Go.RowKit Go.Proofs Go.Own

theorem spec_l1In (x a b : Int) (w : World) :
    Calls Try.prog 29 #[.int .i64 x, .int .i64 a, .int .i64 b] w fun e w' => e = .returned (.bool (inB x a b)) ∧ w = w' := by
  go_enter Try.func29, Try.ntmps29
  go_wp2
  all_goals go_ret
  all_goals (simp [inB, *]; try omega)

theorem spec_l1Value (x : Int) (w : World) :
    Calls Try.prog 28 #[.int .i64 x] w fun e w' => e = .returned (.bool (isVal x)) ∧ w = w' := by
  go_enter Try.func28, Try.ntmps28
  go_wp2_with (go_at_call 29; refine (spec_l1In _ _ _ _).mono ?_; rintro e w' ⟨rfl, rfl⟩)
  go_ret
  exact ⟨rfl, rfl⟩

theorem infoInt0 : (Try.prog.info? 3).map (fun i => (i.zero, i.size, i.bytes)) = some (some (.int .i64 0), 1, 8) := by kernel_rfl


theorem quiet_eq {P : Program} {f : FuncId} {args : Array Value} {w : World} {n : Nat} {v : Value}
    (h : Calls P f args (w.drewN n) fun e w' => e = .returned v ∧ w.drewN n = w') : Calls P f args (w.drewN n) fun e w'' => e = .returned v ∧ ∃ m, w'' = w.drewN m :=
  h.mono fun _ _ ⟨he, hm⟩ => ⟨he, n, hm.symm⟩


/-- A slice cut at k from its beginning. -/
theorem Ints.cut {w : World} {v : Value} {xs : List Int} {b off cap : Nat} (h : Ints w v xs) (hv : v = .slice (some ⟨b, off, none⟩) xs.length cap) (k : Nat) (hk : k ≤ xs.length) : Ints w (.slice (some ⟨b, off, none⟩) k cap) (xs.take k) := by
  obtain ⟨_, a, c, e, h1, h2, _, h3⟩ := h
  rw [hv] at e
  obtain ⟨rfl, rfl⟩ : a = some ⟨b, off, none⟩ ∧ c = cap := by simp at e; exact ⟨e.1.symm, e.2.symm⟩
  have hl : (xs.take k).length = k := by simp; omega
  refine ⟨flatMap_len encI 1 (fun _ => rfl) _, _, _, by rw [hl], by omega, h2, (by intro e; cases e), ?_⟩
  by_cases h0 : k = 0
  · exact .inl (by omega)
  · rcases h3 with h3 | ⟨b', off', ha, hs, hc⟩
    · omega
    · simp only [Option.some.injEq, Addr.mk.injEq, and_true] at ha
      obtain ⟨rfl, rfl⟩ := ha
      refine .inr ⟨b, off, rfl, hs, fun j hj => ?_⟩
      have hj' : j < k := by rw [flatMap_len encI 1 (fun _ => rfl)] at hj; omega
      have hjx : j < (xs.flatMap encI).length := by rw [flatMap_len encI 1 (fun _ => rfl)]; omega
      rw [hc j hjx]
      congr 1
      simp only [encI_map, List.getElem_map, List.getElem_take]

end Go.Proofs.Ytjcaagkppalndaa
namespace Go.Proofs.Ytjcaagkppalndaa
set_option maxRecDepth 100000
open Go.RowKit Go.Proofs Go.Own
set_option linter.unusedVariables false
set_option linter.unusedSimpArgs false
theorem spec_l9Reg (x : Int) (w : World) :
    Calls Try.prog 26 #[.int .i64 x] w fun e w' => e = .returned (.bool (inB x 0 3)) ∧ w = w' := by
  go_enter Try.func26, Try.ntmps26
  go_wp2_with (go_at_call 29; refine (spec_l1In _ _ _ _).mono ?_; rintro e w' ⟨rfl, rfl⟩)
  go_ret
  exact ⟨rfl, rfl⟩
theorem spec_l9Object (x : Int) (w : World) :
    Calls Try.prog 27 #[.int .i64 x] w fun e w' => e = .returned (.bool (inB x 0 7)) ∧ w = w' := by
  go_enter Try.func27, Try.ntmps27
  go_wp2_with (go_at_call 29; refine (spec_l1In _ _ _ _).mono ?_; rintro e w' ⟨rfl, rfl⟩)
  go_ret
  exact ⟨rfl, rfl⟩
set_option maxHeartbeats 2000000 in
theorem spec_l9Instr (i : Instr) (n : Int) (w : World) :
    Calls Try.prog 19 #[.agg #[.int .i64 i.op_, .int .i64 i.a_, .int .i64 i.b_], .int .i64 n] w fun e w' => e = .returned (.bool (instrOk i n)) ∧ Below w.heap.size w w' := by
  obtain ⟨a0, a1, a2⟩ := i
  have hE := hid (show instrOk ⟨a0, a1, a2⟩ n = (if a0 = 1 then inB a1 0 3 && inB a2 0 7 else
  if a0 = 2 then inB a1 0 7 && inB a2 0 3 else
  if a0 = 3 then inB a1 0 3 && isVal a2 else
  if a0 = 4 then inB a1 0 3 && inB a2 0 3 else
  if a0 = 5 then inB a1 0 3 && inB a2 0 n else
  if a0 = 6 then a1 == 0 && a2 == 0 else
  if a0 = 7 then a1 == 0 && a2 == 0 else
  if a0 = 8 then inB a1 0 n && a2 == 0 else false) from rfl)
  dsimp only
  go_enter Try.func19, Try.ntmps19
  go_wp2_with (first | (go_at_call 26; refine (spec_l9Reg _ _).mono ?_; rintro e w' ⟨rfl, rfl⟩) | (go_at_call 27; refine (spec_l9Object _ _).mono ?_; rintro e w' ⟨rfl, rfl⟩) | (go_at_call 29; refine (spec_l1In _ _ _ _).mono ?_; rintro e w' ⟨rfl, rfl⟩) | (go_at_call 28; refine (spec_l1Value _ _).mono ?_; rintro e w' ⟨rfl, rfl⟩))
  all_goals go_ret
  all_goals refine ⟨ret_bool (by rw [hE.out]; simp_all), (Below.refl _ _).alloc (Nat.le_refl _) _⟩
/-- The cells of an instruction behind a step. -/
theorem cells3 {w wr : World} {b o : Nat} {v0 v1 v2 : Value} (hB : Below w.heap.size w wr) (hb : b < w.heap.size) (c0 : w.cell? ⟨b, o, none⟩ = some v0) (c1 : w.cell? ⟨b, o + 1, none⟩ = some v1) (c2 : w.cell? ⟨b, o + 2, none⟩ = some v2) :
    wr.cell? ⟨b, o, none⟩ = some v0 ∧ wr.cell? ⟨b, o + 1, none⟩ = some v1 ∧ wr.cell? ⟨b, o + 2, none⟩ = some v2 :=
  ⟨(hB.cell (p := ⟨b, o, none⟩) hb).trans c0, (hB.cell (p := ⟨b, o + 1, none⟩) hb).trans c1, (hB.cell (p := ⟨b, o + 2, none⟩) hb).trans c2⟩
set_option maxHeartbeats 2000000 in
theorem spec_ProgOk (v : Value) (xs : List Instr) (w : World) (h : Instrs w v xs) :
    Calls Try.prog 7 #[v] w fun e w' => e = .returned (.bool (progOk xs)) ∧ Below w.heap.size w w' := by
  obtain ⟨ad, cap, rfl, hl, hm, hc⟩ := h.open
  clear h
  have hlen : xs.length ≤ 9223372036854775807 := by omega
  have HC := hid hc
  clear hc
  go_enter Try.func7, Try.ntmps7
  go_wp2
  go_loopw [3] (fun i wr => ∃ k : Nat, k ≤ xs.length ∧ i = .int .i64 k ∧ Same (progAt xs 0) (progAt xs k) ∧ Below w.heap.size w wr) (fun i _ => xs.length - (intOf i).toNat)
  case atStart => exact ⟨0, by omega, rfl, .rfl, Below.refl _ _⟩
  case round =>
    obtain ⟨k, hk, rfl, hS, hB⟩ := hrel
    by_cases hlt : k < xs.length
    · obtain ⟨bb, off, rfl, hbs, c0, c1, c2⟩ := HC.out k hlt
      obtain ⟨e0, e1, e2⟩ := cells3 hB hbs c0 c1 c2
      have hst := hid (progAt_step xs k hlt)
      clear c0 c1 c2
      cases hE : instrOk xs[k] xs.length with
      | false =>
        have Hn := hid (show progOk xs = false by unfold progOk; rw [hS.out, hst.out, hE]; rfl)
        go_wp2_with fail
        refine (spec_l9Instr xs[k] _ _).mono ?_
        rintro e w2 ⟨rfl, hB1⟩
        rw [hE]
        have hB2 := hB.trans (hB1.mono hB.size)
        go_wp2
        go_ret
        exact ⟨ret_bool Hn.out.symm, hB2⟩
      | true =>
        go_wp2_with fail
        refine (spec_l9Instr xs[k] _ _).mono ?_
        rintro e w2 ⟨rfl, hB1⟩
        rw [hE]
        have hB2 := hB.trans (hB1.mono hB.size)
        clear e0 e1 e2 hB1 hB
        go_wp2
        go_roundw
        case rel => exact ⟨k+1, by omega, by go_num, Same.mk (by rw [hS.out, hst.out, hE, Bool.true_and]), hB2⟩
        case measure => simp [intOf]; omega
    · have Hy := hid (show progOk xs = decide (xs.length ≤ 30) by unfold progOk; rw [hS.out, progAt_end xs k hlt, Bool.true_and])
      by_cases h6 : (xs.length : Int) ≤ 30
      · go_wp2
        go_ret
        exact ⟨ret_bool (by rw [Hy.out, decide_eq_true (by omega : xs.length ≤ 30)]), hB⟩
      · go_wp2
        go_ret
        exact ⟨ret_bool (by rw [Hy.out, decide_eq_false (by omega : ¬ xs.length ≤ 30)]), hB⟩
set_option maxHeartbeats 2000000 in
theorem spec_Straight0 (v : Value) (xs : List Instr) (w : World) (h : Instrs w v xs) :
    Calls Try.prog 17 #[v] w fun e w' => e = .returned (.bool (straightC xs)) ∧ Below w.heap.size w w' := by
  have h0 := h
  obtain ⟨ad, cap, rfl, hl, hm, hc⟩ := h.open
  clear h
  have hlen : xs.length ≤ 9223372036854775807 := by omega
  have HC := hid hc
  clear hc
  go_enter Try.func17, Try.ntmps17
  go_wp2
  go_loopw [3] (fun i wr => ∃ k : Nat, k ≤ xs.length ∧ i = .int .i64 k ∧ Same (jumpAt xs 0) (jumpAt xs k) ∧ Below w.heap.size w wr) (fun i _ => xs.length - (intOf i).toNat)
  case atStart => exact ⟨0, by omega, rfl, .rfl, Below.refl _ _⟩
  case round =>
    obtain ⟨k, hk, rfl, hS, hB⟩ := hrel
    by_cases hlt : k < xs.length
    · obtain ⟨bb, off, rfl, hbs, c0, c1, c2⟩ := HC.out k hlt
      obtain ⟨e0, e1, e2⟩ := cells3 hB hbs c0 c1 c2
      have hst := hid (jumpAt_step xs k hlt)
      clear c0 c1 c2
      cases hJ : (xs[k].op_ == 5 || xs[k].op_ == 8) with
      | true =>
        have Hn := hid (show straightC xs = false by unfold straightC; rw [hS.out, hst.out, isJump, hJ]; simp)
        go_wp2
        all_goals go_ret
        all_goals exact ⟨ret_bool Hn.out.symm, hB⟩
      | false =>
        have Hn := hid (show isJump xs[k] = false from hJ)
        have h5 : (xs[k].op_ == 5) = false := by simp at hJ; simp [hJ.1]
        have h8 : (xs[k].op_ == 8) = false := by simp at hJ; simp [hJ.2]
        go_wp2
        go_roundw
        case rel => exact ⟨k+1, by omega, by go_num, Same.mk (by rw [hS.out, hst.out, Hn.out, Bool.false_or]), hB⟩
        case measure => simp [intOf]; omega
    · have Hy := hid (show straightC xs = progOk xs by unfold straightC; rw [hS.out, jumpAt_end xs k hlt]; simp)
      have h1 := Flat.below h0 hB
      go_wp2_with fail
      refine (spec_ProgOk _ xs _ h1).mono ?_
      rintro e w2 ⟨rfl, hB1⟩
      have hB2 := hB.trans (hB1.mono hB.size)
      go_wp2
      go_ret
      exact ⟨ret_bool Hy.out.symm, hB2⟩
end Go.Proofs.Ytjcaagkppalndaa
