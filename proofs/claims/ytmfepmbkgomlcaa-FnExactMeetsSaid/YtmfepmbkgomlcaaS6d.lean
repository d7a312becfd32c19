/- Chapter 6's model: AddRead. -/
import Derived.Test.YtmfepmbkgomlcaaS6b
import Derived.Deep.RegionWith
namespace Go.Proofs.Ytmfepmbkgomlcaa
set_option maxRecDepth 100000
open Go.RowKit Go.Proofs Go.Own
set_option linter.unusedVariables false
set_option linter.unusedSimpArgs false
theorem enc_snoc (xs : List Entry) (e : Entry) : (xs ++ [e]).flatMap Entry.enc = xs.flatMap Entry.enc ++ Entry.enc e := by simp
set_option maxHeartbeats 8000000 in
theorem spec_AddRead0 (v : Value) (xs : List Entry) (o n x : Int) (w : World) (h : Entrys w v xs) (hx : xs.length ≤ 1048576) :
    Calls Try.prog 17 #[v, .int .i64 o, .int .i64 n, .int .i64 x] w fun e w' => ∃ v' : Value, e = .returned (.tuple #[v', .int .i64 (addC xs o n x)]) ∧ w'.ownsRow w.heap.size 53 5 v' (addL xs o n x).length ((addL xs o n x).flatMap Entry.enc) ∧ Below w.heap.size w w' := by
  have H0 := hid h
  obtain ⟨i0, hi, hz0, hz1, hz2⟩ := info_parts infoEntry
  obtain ⟨ad, cap, rfl, hl, hm⟩ := Flat.form h
  clear h
  obtain ⟨W1, hW1⟩ : ∃ X, w.alloc (.cells #[.int .i64 o, .int .i64 n, .int .i64 x, .int .i64 x, .bool false] 53) = X := ⟨_, rfl⟩
  have hB1 : Below w.heap.size w W1 := by rw [← hW1]; exact (Below.refl _ _).alloc (Nat.le_refl _) _
  have hN : w.heap.size < W1.heap.size := by rw [← hW1]; simp
  have k0 : W1.cell? ⟨w.heap.size, 0, none⟩ = some (.int .i64 o) := by rw [← hW1]; simp [go_sem]
  have k1 : W1.cell? ⟨w.heap.size, 1, none⟩ = some (.int .i64 n) := by rw [← hW1]; simp [go_sem]
  have k2 : W1.cell? ⟨w.heap.size, 2, none⟩ = some (.int .i64 x) := by rw [← hW1]; simp [go_sem]
  have k3 : W1.cell? ⟨w.heap.size, 3, none⟩ = some (.int .i64 x) := by rw [← hW1]; simp [go_sem]
  have k4 : W1.cell? ⟨w.heap.size, 4, none⟩ = some (.bool false) := by rw [← hW1]; simp [go_sem]
  have h1 := hid (Entrys.below H0.out hB1)
  go_enter Try.func17, Try.ntmps17
  have HW1 := hid hW1
  clear hW1
  go_wp2_with fail
  rw [HW1.out]
  refine (spec_OpenOk _ xs _ h1.out).mono ?_
  rintro e w2 ⟨rfl, b2⟩
  cases hO : openOk xs with
  | false =>
    have Hc := hid (show addC xs o n x = 1 by unfold addC addBad; rw [hO]; rfl)
    have Hl := hid (show addL xs o n x = xs by unfold addL; rw [Hc.out]; rfl)
    have h2 := hid (Entrys.below h1.out b2)
    have hB2 := hB1.trans (b2.mono hB1.size)
    go_wp2_with fail
    refine (spec_l6Copy _ xs _ h2.out hx).mono ?_
    rintro e w9 ⟨u, rfl, o9, b9⟩
    have o8 := hid (owns_mono o9 hB2.size)
    have b8 := hB2.trans (b9.mono hB2.size)
    clear o9
    go_wp2
    go_ret2
    exact ⟨_, by rw [Hc.out]; rfl, by rw [Hl.out]; exact o8.out, b8⟩
  | true =>
  have l0 := (b2.cell (p := ⟨w.heap.size, 0, none⟩) hN).trans k0
  have l1 := (b2.cell (p := ⟨w.heap.size, 1, none⟩) hN).trans k1
  have l2 := (b2.cell (p := ⟨w.heap.size, 2, none⟩) hN).trans k2
  have l3 := (b2.cell (p := ⟨w.heap.size, 3, none⟩) hN).trans k3
  have l4 := (b2.cell (p := ⟨w.heap.size, 4, none⟩) hN).trans k4
  have h2 := hid (Entrys.below h1.out b2)
  have hB2 := hB1.trans (b2.mono hB1.size)
  have hN2 := Nat.lt_of_lt_of_le hN b2.size
  clear k0 k1 k2 k3 k4 h1 b2 hB1 hN
  go_wp2_with fail
  refine (spec_l6Entry (readE o n x) _).mono ?_
  rintro e w3 ⟨rfl, b3⟩
  have k0 := (b3.cell (p := ⟨w.heap.size, 0, none⟩) hN2).trans l0
  have k1 := (b3.cell (p := ⟨w.heap.size, 1, none⟩) hN2).trans l1
  have k2 := (b3.cell (p := ⟨w.heap.size, 2, none⟩) hN2).trans l2
  have k3 := (b3.cell (p := ⟨w.heap.size, 3, none⟩) hN2).trans l3
  have k4 := (b3.cell (p := ⟨w.heap.size, 4, none⟩) hN2).trans l4
  have h3 := hid (Entrys.below h2.out b3)
  have hB3 := hB2.trans (b3.mono hB2.size)
  have hN3 := Nat.lt_of_lt_of_le hN2 b3.size
  clear l0 l1 l2 l3 l4 h2 b3 hB2 hN2
  cases hE : entryOk (readE o n x) with
  | false =>
    have Hc := hid (show addC xs o n x = 1 by unfold addC addBad; rw [hO, hE]; rfl)
    have Hl := hid (show addL xs o n x = xs by unfold addL; rw [Hc.out]; rfl)
    go_wp2_with fail
    refine (spec_l6Copy _ xs _ h3.out hx).mono ?_
    rintro e w9 ⟨u, rfl, o9, b9⟩
    have o8 := hid (owns_mono o9 hB3.size)
    have b8 := hB3.trans (b9.mono hB3.size)
    clear o9
    go_wp2
    go_ret2
    exact ⟨_, by rw [Hc.out]; rfl, by rw [Hl.out]; exact o8.out, b8⟩
  | true =>
  go_wp2_with fail
  refine (spec_Opened0 _ xs o _ h3.out).mono ?_
  rintro e w4 ⟨rfl, b4⟩
  have l0 := (b4.cell (p := ⟨w.heap.size, 0, none⟩) hN3).trans k0
  have l1 := (b4.cell (p := ⟨w.heap.size, 1, none⟩) hN3).trans k1
  have l2 := (b4.cell (p := ⟨w.heap.size, 2, none⟩) hN3).trans k2
  have l3 := (b4.cell (p := ⟨w.heap.size, 3, none⟩) hN3).trans k3
  have l4 := (b4.cell (p := ⟨w.heap.size, 4, none⟩) hN3).trans k4
  have h4 := hid (Entrys.below h3.out b4)
  have hB4 := hB3.trans (b4.mono hB3.size)
  have hN4 := Nat.lt_of_lt_of_le hN3 b4.size
  clear k0 k1 k2 k3 k4 h3 b4 hB3 hN3
  have HP := hid (show openedC xs o = placeC xs o by unfold openedC; rw [hO]; rfl)
  by_cases hp : 0 ≤ openedC xs o
  · have Hc := hid (show addC xs o n x = 1 by unfold addC addBad; rw [hO, hE, decide_eq_true (by rw [← HP.out]; exact hp)]; rfl)
    have Hl := hid (show addL xs o n x = xs by unfold addL; rw [Hc.out]; rfl)
    go_wp2_with fail
    refine (spec_l6Copy _ xs _ h4.out hx).mono ?_
    rintro e w9 ⟨u, rfl, o9, b9⟩
    have o8 := hid (owns_mono o9 hB4.size)
    have b8 := hB4.trans (b9.mono hB4.size)
    clear o9
    go_wp2
    go_ret2
    exact ⟨_, by rw [Hc.out]; rfl, by rw [Hl.out]; exact o8.out, b8⟩
  have HF := hid (show addC xs o n x = if xs.length = 6 then 2 else 0 by unfold addC addBad; rw [hO, hE, decide_eq_false (by rw [← HP.out]; exact hp)]; rfl)
  by_cases h6 : (xs.length : Int) = 6
  · have Hc := hid (show addC xs o n x = 2 by rw [HF.out, if_pos (by omega)])
    have Hl := hid (show addL xs o n x = xs by unfold addL; rw [Hc.out]; rfl)
    go_wp2_with fail
    refine (spec_l6Copy _ xs _ h4.out hx).mono ?_
    rintro e w9 ⟨u, rfl, o9, b9⟩
    have o8 := hid (owns_mono o9 hB4.size)
    have b8 := hB4.trans (b9.mono hB4.size)
    clear o9
    go_wp2
    go_ret2
    exact ⟨_, by rw [Hc.out]; rfl, by rw [Hl.out]; exact o8.out, b8⟩
  have Hc := hid (show addC xs o n x = 0 by rw [HF.out, if_neg (by omega)])
  have Hl := hid (show addL xs o n x = xs ++ [readE o n x] by unfold addL; rw [Hc.out]; rfl)
  go_wp2_with fail
  have hone := hid (oneCell_E (readE o n x))
  have hs4 := hB4.size
  go_region_law (first
    | (go_simp; go_at_call 39; refine (spec_l6Copy _ xs _ (Flat.below h4.out (by repeat (first | exact Below.refl _ _ | refine Below.drew ?_ | refine Below.alloc ?_ (by simp) _))) hx).mono ?_; rintro e w5 ⟨u5, rfl, o5, b5⟩; have hb5 : Below w4.heap.size w4 w5 := Below.trans (by repeat (first | exact Below.refl _ _ | refine Below.drew ?_ | refine Below.alloc ?_ (by simp) _)) (b5.mono (by simp)); replace o5 := owns_mono (base' := w.heap.size) o5 (by simp; try omega); obtain ⟨p5, m5, c5, rfl⟩ := owns_form3 o5; have k0 := (hb5.cell (p := ⟨w.heap.size, 0, none⟩) hN4).trans l0; have k1 := (hb5.cell (p := ⟨w.heap.size, 1, none⟩) hN4).trans l1; have k2 := (hb5.cell (p := ⟨w.heap.size, 2, none⟩) hN4).trans l2; have k3 := (hb5.cell (p := ⟨w.heap.size, 3, none⟩) hN4).trans l3; have k4 := (hb5.cell (p := ⟨w.heap.size, 4, none⟩) hN4).trans l4)
    | (refine step_append_flat rfl (.tmp 40) (.tmp 42) 25 rfl w.heap.size 53 i0 (.agg #[.int .i64 0, .int .i64 0, .int .i64 0, .int .i64 0, .bool false]) 5 40 Try.underlying25 hi hz0 hz1 hz2 rfl (by decide) _ xs.length _ rfl (by first | exact o5 | exact World.ownsRow.alloc o5 _) _ 1 (Entry.enc (readE o n x)) rfl (by first | exact Flat.of_owns (owns_litN w5 53 5 1 _ 0 (Nat.zero_le _) rfl (by decide)) | exact Flat.below (Flat.of_owns (owns_litN w4.drew 53 5 1 _ 0 (Nat.zero_le _) rfl (by decide))) b5) hone.out (by unfold maxLen; omega) (by omega) (by have := hb5.size; first | omega | (simp; omega)) ?_; intro v6 w6 o6 g6 b6))
  all_goals have hb7 : Below w.heap.size w w5 := hB4.trans (hb5.mono hs4)
  all_goals have hb8 : Below w.heap.size w w6 := (by first | exact Below.trans hb7 b6 | exact Below.trans (hb7.alloc hb7.size _) b6)
  all_goals have o7 := hid o6
  all_goals clear o6 g6 b6 o5 b5 hb5 l0 l1 l2 l3 l4 k0 k1 k2 k3 k4
  all_goals go_wp2
  all_goals go_ret2
  all_goals exact ⟨_, by rw [Hc.out]; rfl, by rw [Hl.out, enc_snoc, List.length_append]; exact o7.out, hb8⟩
end Go.Proofs.Ytmfepmbkgomlcaa
