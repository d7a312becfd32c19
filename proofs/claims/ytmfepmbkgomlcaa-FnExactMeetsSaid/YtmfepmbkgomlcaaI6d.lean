/- Chapter 6's program: SetNew, AddRead. -/
import Derived.Test.YtmfepmbkgomlcaaI6c
import Derived.Test.YtmfepmbkgomlcaaS6d
namespace Go.Proofs.Ytmfepmbkgomlcaa
set_option maxRecDepth 100000
open Go.RowKit Go.Proofs Go.Own
set_option linter.unusedVariables false
set_option linter.unusedSimpArgs false
theorem oneCells_E (xs : List Entry) : ∀ c ∈ xs.flatMap Entry.enc, c.oneCell' = true := oneCell_enc oneCell_E xs
set_option maxHeartbeats 4000000 in
theorem impl_SetNew0 (v : Value) (xs : List Entry) (o x : Int) (w : World) (h : Entrys w v xs) (hx : xs.length ≤ 1048576) :
    Calls Try.prog 22 #[v, .int .i64 o, .int .i64 x] w fun e w' => ∃ v' : Value, e = .returned (.tuple #[v', .bool (setOkC xs o x)]) ∧ w'.ownsRow w.heap.size 53 5 v' (setL xs o x).length ((setL xs o x).flatMap Entry.enc) ∧ Below w.heap.size w w' := by
  have hge := openedC_ge xs o
  have hlt := openedC_lt xs o
  have H0 := hid h
  obtain ⟨i0, hi, hz0, hz1, hz2⟩ := info_parts infoEntry
  have hone := hid (oneCells_E xs)
  obtain ⟨ad, cap, rfl, hl, hm⟩ := Flat.form h
  clear h
  go_enter Try.func22, Try.ntmps22
  go_wp2_with (at_builtin; refine wpList_append_flat rfl _ _ 25 rfl w.heap.size 53 i0 (.agg #[.int .i64 0, .int .i64 0, .int .i64 0, .int .i64 0, .bool false]) 5 40 Try.underlying25 hi hz0 hz1 hz2 rfl (by decide) _ _ _ rfl (World.ownsRow_nil w w.heap.size 53 5) _ _ _ rfl H0.out hone.out (by unfold maxLen; omega) (by omega) (Nat.le_refl _) ?_)
  intro u w2 o2 g2
  have b2 := below_of_mark (World.ownsRow_nil w w.heap.size 53 5) g2 (Nat.le_refl _) (Nat.le_refl _)
  have h2 := hid (Flat.of_owns o2)
  go_wp2_with fail
  refine (impl_Opened u xs o _ h2.out).mono ?_
  rintro e w3 ⟨rfl, b3⟩
  have o3 := owns_below o2 b3
  have b4 := b2.trans (b3.mono b2.size)
  clear H0 h2
  by_cases hk : openedC xs o < 0
  · have Hn := hid (show setOkC xs o x = false by unfold setOkC; rw [decide_eq_false (by omega)]; rfl)
    clear o2
    go_wp2
    go_ret2
    exact ⟨_, by rw [Hn.out]; rfl, by rw [setL, Hn.out, if_neg (by simp)]; exact o3, b4⟩
  · cases hv : isVal x with
    | false =>
      have Hn := hid (show setOkC xs o x = false by unfold setOkC; rw [hv, Bool.and_false])
      go_wp2_with (go_at_call 42; refine (impl_isValue _ _).mono ?_; rintro e w' ⟨rfl, rfl⟩)
      go_ret2
      exact ⟨_, by rw [Hn.out]; rfl, by rw [setL, Hn.out, if_neg (by simp)]; exact o3, b4⟩
    | true =>
      have Hy := hid (show setOkC xs o x = true by unfold setOkC; rw [hv, decide_eq_true (by omega)]; rfl)
      have HL := hid (show setL xs o x = setAt xs (openedC xs o).toNat x by rw [setL, if_pos Hy.out])
      generalize openedC xs o = K at *
      obtain ⟨k, rfl⟩ := Int.eq_ofNat_of_zero_le (by omega : 0 ≤ K)
      have hkl : k < xs.length := by omega
      have hkl2 : (k : Int) < (xs.length : Int) := by omega
      have hk0 : (0 : Int) ≤ (k : Int) := by omega
      rw [Int.toNat_natCast] at HL
      clear o2 hge hlt
      obtain ⟨a, cap, rfl, hc1, hc2⟩ := owns_form o3
      obtain ⟨g, rfl⟩ : ∃ g, a = some ⟨g, 0, none⟩ := by
        rcases o3.2 with ⟨e1, e2⟩ | ⟨g, c2, cur, e1, _⟩
        · omega
        · simp only [Value.slice.injEq, true_and] at e1; exact ⟨g, e1.1⟩
      have g3 := o3.cellAt (k * 5 + 3) (by omega)
      have g4 := o3.cellAt (k * 5 + 4) (by omega)
      rw [flatMap_get Entry.enc 5 (fun _ => rfl) xs k hkl 3 (by omega)] at g3
      rw [flatMap_get Entry.enc 5 (fun _ => rfl) xs k hkl 4 (by omega)] at g4
      have f3 := World.ownsRow.frozenAt o3 (k * 5 + 3)
      have f4 := World.ownsRow.frozenAt o3 (k * 5 + 4)
      have hg := (owns_lt o3).1
      simp only [Entry.enc, List.getElem?_cons_succ, List.getElem?_cons_zero] at g3 g4
      have o4 := hid (owns_wr6 o3 k hkl x)
      have b5 := hid ((b4.setCell (p := ⟨g, k * 5 + 3, none⟩) hg (.int .i64 x)).setCell (p := ⟨g, k * 5 + 4, none⟩) hg (.bool true))
      go_wp2_with (go_at_call 42; refine (impl_isValue _ _).mono ?_; rintro e w' ⟨rfl, rfl⟩)
      go_ret2
      exact ⟨_, by rw [Hy.out]; rfl, by rw [HL.out]; exact o4.out, b5.out⟩
set_option maxHeartbeats 4000000 in
theorem impl_AddRead0 (v : Value) (xs : List Entry) (o n x : Int) (w : World) (h : Entrys w v xs) (hx : xs.length ≤ 1048576) :
    Calls Try.prog 18 #[v, .int .i64 o, .int .i64 n, .int .i64 x] w fun e w' => ∃ v' : Value, e = .returned (.tuple #[v', .int .i64 (addC xs o n x)]) ∧ w'.ownsRow w.heap.size 53 5 v' (addL xs o n x).length ((addL xs o n x).flatMap Entry.enc) ∧ Below w.heap.size w w' := by
  have H0 := hid h
  obtain ⟨i0, hi, hz0, hz1, hz2⟩ := info_parts infoEntry
  have hone := hid (oneCells_E xs)
  obtain ⟨ad, cap, rfl, hl, hm⟩ := Flat.form h
  clear h
  go_enter Try.func18, Try.ntmps18
  go_wp2_with (at_builtin; refine wpList_append_flat rfl _ _ 25 rfl w.heap.size 53 i0 (.agg #[.int .i64 0, .int .i64 0, .int .i64 0, .int .i64 0, .bool false]) 5 40 Try.underlying25 hi hz0 hz1 hz2 rfl (by decide) _ _ _ rfl (World.ownsRow_nil w w.heap.size 53 5) _ _ _ rfl H0.out hone.out (by unfold maxLen; omega) (by omega) (Nat.le_refl _) ?_)
  intro u w2 o2 g2
  have b2 := below_of_mark (World.ownsRow_nil w w.heap.size 53 5) g2 (Nat.le_refl _) (Nat.le_refl _)
  obtain ⟨p2, c2, rfl, hc2, hc3⟩ := owns_form o2
  clear H0 g2 hone
  go_wp2_with fail
  refine (impl_readEntry o n x _).mono ?_
  rintro e w3 ⟨rfl, b3⟩
  have o3 := owns_below o2 b3
  have B3 := b2.trans (b3.mono b2.size)
  clear o2 b2 b3
  obtain ⟨W1, hW1⟩ : ∃ X, w3.alloc (.cells #[.int .i64 o, .int .i64 n, .int .i64 x, .int .i64 x, .bool false] 53) = X := ⟨_, rfl⟩
  have b4 : Below w3.heap.size w3 W1 := by rw [← hW1]; exact (Below.refl _ _).alloc (Nat.le_refl _) _
  have hN : w3.heap.size < W1.heap.size := by rw [← hW1]; simp
  have k0 : W1.cell? ⟨w3.heap.size, 0, none⟩ = some (.int .i64 o) := by rw [← hW1]; simp [go_sem]
  have k1 : W1.cell? ⟨w3.heap.size, 1, none⟩ = some (.int .i64 n) := by rw [← hW1]; simp [go_sem]
  have k2 : W1.cell? ⟨w3.heap.size, 2, none⟩ = some (.int .i64 x) := by rw [← hW1]; simp [go_sem]
  have k3 : W1.cell? ⟨w3.heap.size, 3, none⟩ = some (.int .i64 x) := by rw [← hW1]; simp [go_sem]
  have k4 : W1.cell? ⟨w3.heap.size, 4, none⟩ = some (.bool false) := by rw [← hW1]; simp [go_sem]
  have o4 := owns_below o3 b4
  have h4 := hid (Flat.of_owns o4)
  have B4 := B3.trans (b4.mono B3.size)
  have HW1 := hid hW1
  clear hW1 o3 b4
  go_wp2_with fail
  rw [HW1.out]
  refine (impl_OpenOk _ xs _ h4.out).mono ?_
  rintro e w5 ⟨rfl, b5⟩
  have o5 := owns_below o4 b5
  have B5 := B4.trans (b5.mono B4.size)
  cases hO : openOk xs with
  | false =>
    have Hc := hid (show addC xs o n x = 1 by unfold addC addBad; rw [hO]; rfl)
    have Hl := hid (show addL xs o n x = xs by unfold addL; rw [Hc.out]; rfl)
    have o8 := hid o5
    clear o5 o4
    go_wp2
    go_ret2
    exact ⟨_, by rw [Hc.out]; rfl, by rw [Hl.out]; exact o8.out, B5⟩
  | true =>
  have l0 := (b5.cell (p := ⟨w3.heap.size, 0, none⟩) hN).trans k0
  have l1 := (b5.cell (p := ⟨w3.heap.size, 1, none⟩) hN).trans k1
  have l2 := (b5.cell (p := ⟨w3.heap.size, 2, none⟩) hN).trans k2
  have l3 := (b5.cell (p := ⟨w3.heap.size, 3, none⟩) hN).trans k3
  have l4 := (b5.cell (p := ⟨w3.heap.size, 4, none⟩) hN).trans k4
  have hN2 := Nat.lt_of_lt_of_le hN b5.size
  clear k0 k1 k2 k3 k4 h4 b5 hN o4 B4
  go_wp2_with fail
  refine (impl_entryOk (readE o n x) _).mono ?_
  rintro e w6 ⟨rfl, b6⟩
  have k0 := (b6.cell (p := ⟨w3.heap.size, 0, none⟩) hN2).trans l0
  have k1 := (b6.cell (p := ⟨w3.heap.size, 1, none⟩) hN2).trans l1
  have k2 := (b6.cell (p := ⟨w3.heap.size, 2, none⟩) hN2).trans l2
  have k3 := (b6.cell (p := ⟨w3.heap.size, 3, none⟩) hN2).trans l3
  have k4 := (b6.cell (p := ⟨w3.heap.size, 4, none⟩) hN2).trans l4
  have o6 := owns_below o5 b6
  have B6 := B5.trans (b6.mono B5.size)
  have hN3 := Nat.lt_of_lt_of_le hN2 b6.size
  clear l0 l1 l2 l3 l4 b6 hN2 o5 B5
  cases hE : entryOk (readE o n x) with
  | false =>
    have Hc := hid (show addC xs o n x = 1 by unfold addC addBad; rw [hO, hE]; rfl)
    have Hl := hid (show addL xs o n x = xs by unfold addL; rw [Hc.out]; rfl)
    have o8 := hid o6
    clear o6
    go_wp2
    go_ret2
    exact ⟨_, by rw [Hc.out]; rfl, by rw [Hl.out]; exact o8.out, B6⟩
  | true =>
  have h6 := hid (Flat.of_owns o6)
  go_wp2_with fail
  refine (impl_placeOf _ xs o _ h6.out).mono ?_
  rintro e w7 ⟨rfl, b7⟩
  have l0 := (b7.cell (p := ⟨w3.heap.size, 0, none⟩) hN3).trans k0
  have l1 := (b7.cell (p := ⟨w3.heap.size, 1, none⟩) hN3).trans k1
  have l2 := (b7.cell (p := ⟨w3.heap.size, 2, none⟩) hN3).trans k2
  have l3 := (b7.cell (p := ⟨w3.heap.size, 3, none⟩) hN3).trans k3
  have l4 := (b7.cell (p := ⟨w3.heap.size, 4, none⟩) hN3).trans k4
  have o7 := owns_below o6 b7
  have B7 := B6.trans (b7.mono B6.size)
  clear k0 k1 k2 k3 k4 b7 hN3 o6 B6 h6
  by_cases hp : 0 ≤ placeC xs o
  · have Hc := hid (show addC xs o n x = 1 by unfold addC addBad; rw [hO, hE, decide_eq_true hp]; rfl)
    have Hl := hid (show addL xs o n x = xs by unfold addL; rw [Hc.out]; rfl)
    have o8 := hid o7
    clear o7
    go_wp2
    go_ret2
    exact ⟨_, by rw [Hc.out]; rfl, by rw [Hl.out]; exact o8.out, B7⟩
  have HF := hid (show addC xs o n x = if xs.length = 6 then 2 else 0 by unfold addC addBad; rw [hO, hE, decide_eq_false hp]; rfl)
  by_cases h6 : (xs.length : Int) = 6
  · have Hc := hid (show addC xs o n x = 2 by rw [HF.out, if_pos (by omega)])
    have Hl := hid (show addL xs o n x = xs by unfold addL; rw [Hc.out]; rfl)
    have o8 := hid o7
    clear o7
    go_wp2
    go_ret2
    exact ⟨_, by rw [Hc.out]; rfl, by rw [Hl.out]; exact o8.out, B7⟩
  have Hc := hid (show addC xs o n x = 0 by rw [HF.out, if_neg (by omega)])
  have Hl := hid (show addL xs o n x = xs ++ [readE o n x] by unfold addL; rw [Hc.out]; rfl)
  have hone := hid (oneCell_E (readE o n x))
  have oA := World.ownsRow.alloc o7 (.cells #[.int .i64 o, .int .i64 n, .int .i64 x, .int .i64 x, .bool false] 53)
  have hs7 := B7.size
  go_wp2_with (at_builtin; refine wpList_append_flat rfl _ _ 25 rfl w.heap.size 53 i0 (.agg #[.int .i64 0, .int .i64 0, .int .i64 0, .int .i64 0, .bool false]) 5 40 Try.underlying25 hi hz0 hz1 hz2 rfl (by decide) _ _ _ rfl oA _ 1 (Entry.enc (readE o n x)) rfl (Flat.of_owns (owns_litN w7 53 5 1 #[.int .i64 o, .int .i64 n, .int .i64 x, .int .i64 x, .bool false] 0 (Nat.zero_le _) rfl (by decide))) hone.out (by unfold maxLen; omega) (by omega) (by simp; omega) ?_)
  intro v9 w9 o9 g9
  have b9 := Below.trans (B7.alloc hs7 (.cells #[.int .i64 o, .int .i64 n, .int .i64 x, .int .i64 x, .bool false] 53)) (below_of_mark oA g9 (Nat.le_refl _) (by simp; omega))
  have O9 := hid o9
  clear o9 oA o7 g9 l0 l1 l2 l3 l4
  go_wp2
  go_ret2
  exact ⟨_, by rw [Hc.out]; rfl, by rw [Hl.out, enc_snoc, List.length_append]; exact O9.out, b9⟩
end Go.Proofs.Ytmfepmbkgomlcaa
