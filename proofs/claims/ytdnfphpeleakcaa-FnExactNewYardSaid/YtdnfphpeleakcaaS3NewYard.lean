/- Chapter 3's model: NewYard. -/
import Derived.Test.YtdnfphpeleakcaaY3
import Derived.Test.YtdnfphpeleakcaaS2newO
namespace Go.Proofs.Ytdnfphpeleakcaa
set_option maxRecDepth 100000
open Go.RowKit Go.Proofs Go.Own
open Go
set_option linter.unusedVariables false
set_option linter.unusedSimpArgs false

theorem neg_snoc (k : Nat) : (List.replicate k (-1 : Int)).flatMap encI ++ [Value.int .i64 (-1)] = (List.replicate (k + 1) (-1 : Int)).flatMap encI := by
  rw [List.replicate_succ', List.flatMap_append]; rfl
theorem newYard_no {b t : Int} (h : ((newArenaF b).2 && inB t 1 6) = false) : newYardF b t = (⟨⟨[], []⟩, [], [], 0⟩, false) := by simp only [newYardF, h]; rfl
theorem newYard_yes {b : Int} {q : Nat} (h1 : (newArenaF b).2 = true) (h2 : inB q 1 6 = true) : newYardF b q = (⟨(newArenaF b).1, List.replicate q (-1), [], 0⟩, true) := by simp [newYardF, h1, h2]
theorem flat_nil {α : Type} (w : World) (f : α → List Value) (sz : Nat) : Flat w (.slice none 0 0) ([] : List α).length sz (([] : List α).flatMap f) := Flat.of_owns (base := 0) (e := 0) (World.ownsRow_nil _ _ _ _)

set_option maxRecDepth 100000 in set_option maxHeartbeats 2000000 in
theorem spec_NewYard (b t : Int) (w : World) :
    Calls Try.prog 24 #[.int .i64 b, .int .i64 t] w fun e w' => ∃ u0 u1 u2 u3, e = .returned (.tuple #[.agg #[u0, u1, u2, u3, .int .i64 (newYardF b t).1.passes], .bool (newYardF b t).2]) ∧ Blocks w' u0 (newYardF b t).1.arena.blocks ∧ Ints w' u1 (newYardF b t).1.arena.list ∧ Ints w' u2 (newYardF b t).1.pins ∧ Gones w' u3 (newYardF b t).1.retired ∧ Below w.heap.size w w' := by
  obtain ⟨W1, hW1⟩ : ∃ X, (w.alloc (.cells #[.slice none 0 0, .slice none 0 0, .slice none 0 0, .slice none 0 0, .int .i64 0] 30)) = X := ⟨_, rfl⟩
  have hB1 : Below w.heap.size w W1 := by rw [← hW1]; exact (Below.refl _ _).alloc (Nat.le_refl _) _
  have hN1 : w.heap.size + 1 = W1.heap.size := by rw [← hW1]; simp
  have rb : BoxF W1 w.heap.size [.slice none 0 0, .slice none 0 0, .slice none 0 0, .slice none 0 0, .int .i64 0] := by rw [← hW1]; exact BoxF.alloc _ _ _
  go_enter Try.func24, Try.ntmps24
  go_wp2_with fail
  clear hW1
  refine (spec_NewArenaO b W1).mono ?_
  rintro e w2 ⟨u0, u1, rfl, r0, r1, b2⟩
  obtain ⟨p0, m0, c0, rfl⟩ := owns_form3 r0
  obtain ⟨p1, m1, c1, rfl⟩ := owns_form3 r1
  obtain ⟨W3, hW3⟩ : ∃ X, (w2.alloc (.cells #[.slice p0 m0 c0, .slice p1 m1 c1] 27)) = X := ⟨_, rfl⟩
  have hB3 : Below w2.heap.size w2 W3 := by rw [← hW3]; exact (Below.refl _ _).alloc (Nat.le_refl _) _
  have hN3 : w2.heap.size + 1 = W3.heap.size := by rw [← hW3]; simp
  have hz2 := b2.size
  have ab : BoxF W3 w2.heap.size [.slice p0 m0 c0, .slice p1 m1 c1] := by rw [← hW3]; exact BoxF.alloc _ _ _
  have rb3 := (rb.below b2).below hB3
  have hBw3 : Below w.heap.size w W3 := (hB1.trans (b2.mono (by omega))).trans (hB3.mono (by omega))
  have R0 := hid (owns_below r0 hB3)
  have R1 := hid (owns_below r1 hB3)
  have rc0 := rb3.1.2 0 (by simp); have rc1 := rb3.1.2 1 (by simp); have rc2 := rb3.1.2 2 (by simp); have rc3 := rb3.1.2 3 (by simp); have rc4 := rb3.1.2 4 (by simp)
  have rf0 := rb3.2 0 (by simp); have rf1 := rb3.2 1 (by simp); have rf2 := rb3.2 2 (by simp); have rf3 := rb3.2 3 (by simp); have rf4 := rb3.2 4 (by simp)
  simp only [List.getElem?_cons_zero, List.getElem?_cons_succ] at rc0 rc1 rc2 rc3 rc4
  have ac0 := ab.1.2 0 (by simp); have ac1 := ab.1.2 1 (by simp)
  have af0 := ab.2 0 (by simp); have af1 := ab.2 1 (by simp)
  simp only [List.getElem?_cons_zero, List.getElem?_cons_succ] at ac0 ac1
  cases hOk : ((newArenaF b).2 && inB t 1 6)
  case false =>
    have HN := hid (newYard_no hOk)
    have hfin : Hid (∀ X, Below w.heap.size w X → ∃ u0 u1 u2 u3, Ending.returned (.tuple #[.agg #[.slice none 0 0, .slice none 0 0, .slice none 0 0, .slice none 0 0, .int .i64 0], .bool false]) = .returned (.tuple #[.agg #[u0, u1, u2, u3, .int .i64 (newYardF b t).1.passes], .bool (newYardF b t).2]) ∧ Blocks X u0 (newYardF b t).1.arena.blocks ∧ Ints X u1 (newYardF b t).1.arena.list ∧ Ints X u2 (newYardF b t).1.pins ∧ Gones X u3 (newYardF b t).1.retired ∧ Below w.heap.size w X) := hid fun X hX => by
      rw [HN.out]
      exact ⟨_, _, _, _, rfl, flat_nil _ _ _, flat_nil _ _ _, flat_nil _ _ _, flat_nil _ _ _, hX⟩
    cases h1 : (newArenaF b).2
    case' true => have h2 : inB t 1 6 = false := by simpa [h1] using hOk
    all_goals
      clear hOk
      go_wp2_with (first | (go_at_call 53; refine (spec_l1In _ _ _ _).mono ?_; rintro e w' ⟨rfl, rfl⟩))
      refine bodyPost_ret (v := .tuple #[.agg #[.slice none 0 0, .slice none 0 0, .slice none 0 0, .slice none 0 0, .int .i64 0], .bool false]) ?_ rfl (hfin.out _ ?_)
      · simp [results, Try.results24, go_sem, rc0, rc1, rc2, rc3, rc4]
      · exact below_set5 hBw3 (Nat.le_refl _) _ _ _ _ _
  obtain ⟨hA, hT⟩ : (newArenaF b).2 = true ∧ inB t 1 6 = true := by simpa using hOk
  obtain ⟨q, rfl⟩ : ∃ q : Nat, t = q := ⟨t.toNat, by simp [inB] at hT; omega⟩
  have hq6 : q ≤ 6 := by simp [inB] at hT; omega
  have HY := hid (newYard_yes hA hT)
  clear hOk
  rw [hA]
  obtain ⟨W4, hW4⟩ : ∃ X, (W3.alloc (.cells #[.slice p0 m0 c0, .slice p1 m1 c1, .slice none 0 0, .slice none 0 0, .int .i64 0] 30)) = X := ⟨_, rfl⟩
  have hB4 : Below W3.heap.size W3 W4 := by rw [← hW4]; exact (Below.refl _ _).alloc (Nat.le_refl _) _
  have hN4 : W3.heap.size + 1 = W4.heap.size := by rw [← hW4]; simp
  have yb : BoxF W4 W3.heap.size [.slice p0 m0 c0, .slice p1 m1 c1, .slice none 0 0, .slice none 0 0, .int .i64 0] := by rw [← hW4]; exact BoxF.alloc _ _ _
  have rb4 := rb3.below hB4
  have hBw4 : Below w.heap.size w W4 := hBw3.trans (hB4.mono (by omega))
  obtain ⟨j0, hj, hy0, hy1, hy2⟩ := info_parts infoInt
  have hBE := hid hB4
  have HS := hid (show w.heap.size + 1 = W1.heap.size ∧ W1.heap.size ≤ w2.heap.size ∧ w2.heap.size + 1 = W3.heap.size ∧ W3.heap.size + 1 = W4.heap.size from ⟨hN1, hz2, hN3, hN4⟩)
  have hW4' := hid hW4
  clear hW4
  go_wp2_with (first | (go_at_call 53; refine (spec_l1In _ _ _ _).mono ?_; rintro e w' ⟨rfl, rfl⟩))
  rw [hW4'.out]
  clear hW3 hW4' rc0 rc1 rc2 rc3 rc4 rf0 rf1 rf2 rf3 rf4 ac0 ac1 af0 af1 ab rb rb3 hB1 hB3 b2 hN1 hz2 hN3 hN4 hBw3 hB4
  go_loopw [9] (fun i wr => ∃ (k : Nat) (pv : Value), k ≤ q ∧ i = .int .i64 k ∧ BoxF wr W3.heap.size [.slice p0 m0 c0, .slice p1 m1 c1, pv, .slice none 0 0, .int .i64 0] ∧ BoxF wr w.heap.size [.slice none 0 0, .slice none 0 0, .slice none 0 0, .slice none 0 0, .int .i64 0] ∧ wr.ownsRow W4.heap.size 3 1 pv k ((List.replicate k (-1 : Int)).flatMap encI) ∧ Below W3.heap.size W3 wr ∧ Below w.heap.size w wr ∧ W4.heap.size ≤ wr.heap.size) (fun i _ => q - (intOf i).toNat)
  case atStart => exact ⟨0, _, by omega, rfl, yb, rb4, World.ownsRow_nil _ _ _ _, hBE.out, hBw4, Nat.le_refl _⟩
  case round =>
    clear yb rb4 hBw4
    obtain ⟨k, pv, hk, rfl, yb, rb, op, hB, hBw, hsz⟩ := hrel
    obtain ⟨pp, cp, rfl, hnp, hmp⟩ := owns_form op
    by_cases hlt : k < q
    · obtain ⟨X, hX⟩ : ∃ X, (wr.alloc (.cells #[.int .i64 (-1)] 3)) = X := ⟨_, rfl⟩
      have bX : Below wr.heap.size wr X := by rw [← hX]; exact (Below.refl _ _).alloc (Nat.le_refl _) _
      have ol : X.ownsRow wr.heap.size 3 1 (.slice (some ⟨wr.heap.size, 0, none⟩) 1 1) 1 [Value.int .i64 (-1)] := by rw [← hX]; exact owns_litN _ _ _ _ _ _ (Nat.le_refl _) rfl (by decide)
      have ybX := yb.below bX
      have rbX := rb.below bX
      have opX := owns_below op bX
      have ltX := hid (World.ownsRow.lt opX)
      have hzX := bX.size
      have yc0 := ybX.1.2 0 (by simp); have yc1 := ybX.1.2 1 (by simp); have yc2 := ybX.1.2 2 (by simp); have yc3 := ybX.1.2 3 (by simp); have yc4 := ybX.1.2 4 (by simp)
      have yf0 := ybX.2 0 (by simp); have yf1 := ybX.2 1 (by simp); have yf2 := ybX.2 2 (by simp); have yf3 := ybX.2 3 (by simp); have yf4 := ybX.2 4 (by simp)
      simp only [List.getElem?_cons_zero, List.getElem?_cons_succ] at yc0 yc1 yc2 yc3 yc4
      have yw := yb.1.2 2 (by simp)
      simp only [List.getElem?_cons_zero, List.getElem?_cons_succ] at yw
      go_wp2_with (at_builtin; refine wpList_append_flat rfl _ _ 25 rfl W4.heap.size 3 j0 (.int .i64 0) 1 8 Try.underlying25 hj hy0 hy1 hy2 rfl (by decide) _ k _ rfl opX _ 1 [Value.int .i64 (-1)] rfl (Flat.of_owns ol) (by intro c hc; simp at hc; subst hc; rfl) (by unfold maxLen; omega) (by omega) (by have := bX.size; omega) ?_)
      intro v6 w6 o6 g6
      clear hX yc0 yc1 yc2 yc3 yc4 yf0 yf1 yf2 yf3 yf4 yw
      rw [neg_snoc] at o6
      have hz6 := g6.size
      have yb6 := ybX.grown g6 (fun e => by have := (ltX.out _ e).1; have := HS.out; omega)
      have rb6 := rbX.grown g6 (fun e => by have := (ltX.out _ e).1; have := HS.out; omega)
      have hB6 : Below W3.heap.size W3 w6 := (hB.trans (bX.mono hB.size)).trans (below_grown g6 (by have := hB.size; omega) (fun k e => by have := (ltX.out k e).1; have := HS.out; omega))
      have hBw6 : Below w.heap.size w w6 := (hBw.trans (bX.mono hBw.size)).trans (below_grown g6 (by have := hBw.size; omega) (fun k e => by have := (ltX.out k e).1; have := HS.out; omega))
      obtain ⟨p6, c6, rfl, hn6, hq6'⟩ := owns_form o6
      have yc0 := yb6.1.2 0 (by simp); have yc1 := yb6.1.2 1 (by simp); have yc2 := yb6.1.2 2 (by simp); have yc3 := yb6.1.2 3 (by simp); have yc4 := yb6.1.2 4 (by simp)
      have yf0 := yb6.2 0 (by simp); have yf1 := yb6.2 1 (by simp); have yf2 := yb6.2 2 (by simp); have yf3 := yb6.2 3 (by simp); have yf4 := yb6.2 4 (by simp)
      simp only [List.getElem?_cons_zero, List.getElem?_cons_succ] at yc0 yc1 yc2 yc3 yc4
      have S0 := hid (yb6.set 2 (by simp) (.slice p6 (k + 1) c6))
      have S1 := hid (rb6.other ⟨W3.heap.size, 2, none⟩ (.slice p6 (k + 1) c6) (by show W3.heap.size ≠ w.heap.size; have := HS.out; omega))
      have S2 := hid (owns_setCell o6 ⟨W3.heap.size, 2, none⟩ (.slice p6 (k + 1) c6) (by show W3.heap.size < W4.heap.size; have := HS.out; omega))
      have S3 := hid (hB6.setCell (p := ⟨W3.heap.size, 2, none⟩) (by show W3.heap.size ≤ W3.heap.size; omega) (.slice p6 (k + 1) c6))
      have S4 := hid (hBw6.setCell (p := ⟨W3.heap.size, 2, none⟩) (by show w.heap.size ≤ W3.heap.size; have := HS.out; omega) (.slice p6 (k + 1) c6))
      have S5 := hid (show W4.heap.size ≤ w6.heap.size by omega)
      clear yb rb op hB hBw yb6 rb6 ybX rbX opX hB6 hBw6 o6
      go_wp2
      go_roundw
      case rel => exact ⟨k+1, _, by omega, by go_num, S0.out, S1.out, S2.out, S3.out, S4.out, by have := S5.out; simp [World.setCell]; omega⟩
      case measure => simp [intOf]; omega
    · obtain rfl : k = q := by omega
      have yc0 := yb.1.2 0 (by simp); have yc1 := yb.1.2 1 (by simp); have yc2 := yb.1.2 2 (by simp); have yc3 := yb.1.2 3 (by simp); have yc4 := yb.1.2 4 (by simp)
      have yf0 := yb.2 0 (by simp); have yf1 := yb.2 1 (by simp); have yf2 := yb.2 2 (by simp); have yf3 := yb.2 3 (by simp); have yf4 := yb.2 4 (by simp)
      simp only [List.getElem?_cons_zero, List.getElem?_cons_succ] at yc0 yc1 yc2 yc3 yc4
      have rc0 := rb.1.2 0 (by simp); have rc1 := rb.1.2 1 (by simp); have rc2 := rb.1.2 2 (by simp); have rc3 := rb.1.2 3 (by simp); have rc4 := rb.1.2 4 (by simp)
      have rf0 := rb.2 0 (by simp); have rf1 := rb.2 1 (by simp); have rf2 := rb.2 2 (by simp); have rf3 := rb.2 3 (by simp); have rf4 := rb.2 4 (by simp)
      simp only [List.getElem?_cons_zero, List.getElem?_cons_succ] at rc0 rc1 rc2 rc3 rc4
      have Hp := hid op
      have HB := hid hB
      have HBw := hid hBw
      clear op
      go_wp2
      refine bodyPost_ret (v := .tuple #[.agg #[.slice p0 m0 c0, .slice p1 m1 c1, .slice pp k cp, .slice none 0 0, .int .i64 0], .bool true]) ?_ rfl ⟨_, _, _, _, by rw [HY.out], ?_⟩
      · simp [results, Try.results24, go_sem, rc0, rc1, rc2, rc3, rc4]
      · rw [HY.out]
        dsimp only
        have hlt0 : w.heap.size < W4.heap.size := by have := HS.out; omega
        refine ⟨?_, ?_, ?_, flat_nil _ _ _, below_set5 HBw.out (Nat.le_refl _) _ _ _ _ _⟩
        · exact Flat.of_owns (owns_set5 (owns_below R0.out HB.out) (by have := HS.out; omega) _ _ _ _ _)
        · exact Flat.of_owns (owns_set5 (owns_below R1.out HB.out) (by have := HS.out; omega) _ _ _ _ _)
        · unfold Ints
          rw [List.length_replicate]
          exact Flat.of_owns (owns_set5 Hp.out hlt0 _ _ _ _ _)
end Go.Proofs.Ytdnfphpeleakcaa
