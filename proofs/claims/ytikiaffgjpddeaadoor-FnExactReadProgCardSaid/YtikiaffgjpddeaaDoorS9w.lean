/- Chapter 9's model: a line, WriteProg. -/
import Derived.Test.YtikiaffgjpddeaaDoorS9
import Derived.Test.YtikiaffgjpddeaaDoorF9t
import Derived.Test.YtikiaffgjpddeaaDoorTld6
import Derived.Deep.Cut
import Derived.Deep.CutRange
namespace Go.Proofs.YtikiaffgjpddeaaDoor
set_option maxRecDepth 100000
open Go.RowKit Go.Proofs Go.Own
set_option linter.unusedVariables false
set_option linter.unusedSimpArgs false
def namesV : Array Value := #[.string (BA []), .string (BA (nmL 1)), .string (BA (nmL 2)), .string (BA (nmL 3)), .string (BA (nmL 4)), .string (BA (nmL 5)), .string (BA (nmL 6)), .string (BA (nmL 7)), .string (BA (nmL 8))]
theorem spec_l9Names (w : World) :
    Calls Tryd.prog 22 #[] w fun e w' => e = .returned (.slice (some ⟨w.heap.size, 0, none⟩) 9 9) ∧ w' = w.alloc (.cells namesV 9) := by
  go_enter Tryd.func22, Tryd.ntmps22
  go_wp2
  go_ret
  exact ⟨rfl, rfl⟩
def manyW (k : Int) : Int := if k = 8 then 1 else if k = 6 ∨ k = 7 then 0 else 2
set_option maxHeartbeats 2000000 in
theorem spec_l9Words (k : Int) (w : World) (h : 1 ≤ k ∧ k ≤ 8) :
    Calls Tryd.prog 27 #[.int .i64 k] w fun e w' => e = .returned (.int .i64 (manyW k)) ∧ Below w.heap.size w w' := by
  have hk : k = 1 ∨ k = 2 ∨ k = 3 ∨ k = 4 ∨ k = 5 ∨ k = 6 ∨ k = 7 ∨ k = 8 := by omega
  rcases hk with rfl | rfl | rfl | rfl | rfl | rfl | rfl | rfl
  all_goals go_enter Tryd.func27, Tryd.ntmps27
  all_goals go_wp2
  all_goals go_ret
  all_goals exact ⟨rfl, (Below.refl _ _).alloc (Nat.le_refl _) _⟩
theorem itoaB_BA (x : Int) : itoaB x = BA (Lib.itoa x) := rfl
theorem names_cell (W : World) (k : Nat) (v : Value) (h : namesV.toList[k]? = some v) : (W.alloc (.cells namesV 9)).cell? ⟨W.heap.size, k, none⟩ = some v := by
  have h9 := Box.alloc W namesV 9
  have hk : k < namesV.toList.length := by
    rcases Nat.lt_or_ge k namesV.toList.length with h1 | h1
    · exact h1
    · rw [List.getElem?_eq_none h1] at h; cases h
  rw [h9.2 k hk]; exact h
set_option maxHeartbeats 8000000 in
theorem spec_l9Line (i : Instr) (w : World) (h : 1 ≤ i.op_ ∧ i.op_ ≤ 8) (ha : -1000000000 ≤ i.a_ ∧ i.a_ ≤ 1000000000) (hb : -1000000000 ≤ i.b_ ∧ i.b_ ≤ 1000000000) :
    Calls Tryd.prog 15 #[.agg #[.int .i64 i.op_, .int .i64 i.a_, .int .i64 i.b_]] w fun e w' => e = .returned (.string (BA (lineL i))) ∧ Below w.heap.size w w' := by
  obtain ⟨k, a, b⟩ := i
  dsimp only at h ha hb
  dsimp only
  obtain ⟨V, hV⟩ : ∃ X, w.alloc (.cells #[.int .i64 k, .int .i64 a, .int .i64 b] 37) = X := ⟨_, rfl⟩
  have hN : w.heap.size < V.heap.size := by rw [← hV]; simp
  have k0 : V.cell? ⟨w.heap.size, 0, none⟩ = some (.int .i64 k) := by rw [← hV]; simp [go_sem]
  have k1 : V.cell? ⟨w.heap.size, 1, none⟩ = some (.int .i64 a) := by rw [← hV]; simp [go_sem]
  have k2 : V.cell? ⟨w.heap.size, 2, none⟩ = some (.int .i64 b) := by rw [← hV]; simp [go_sem]
  have hB0 := hid (show Below w.heap.size w V by rw [← hV]; exact (Below.refl _ _).alloc (Nat.le_refl _) _)
  have HV := hid hV
  have bA := (Below.refl V.heap.size V).alloc (Nat.le_refl _) (.cells namesV 9)
  have a0 := (bA.cell (p := ⟨w.heap.size, 0, none⟩) hN).trans k0
  have HbA := hid bA
  clear hV bA
  have za := itoaB_size ha.1 ha.2
  have zb := itoaB_size hb.1 hb.2
  have sp : (⟨#[32]⟩ : ByteArray).size = 1 := rfl
  have hk : k = 1 ∨ k = 2 ∨ k = 3 ∨ k = 4 ∨ k = 5 ∨ k = 6 ∨ k = 7 ∨ k = 8 := by omega
  clear h
  rcases hk with rfl | rfl | rfl | rfl | rfl | rfl | rfl | rfl
  · have nc := names_cell V 1 _ rfl
    have hw : manyW 1 = 2 := rfl
    obtain ⟨N, hNm⟩ : ∃ X, BA (nmL 1) = X := ⟨_, rfl⟩
    rw [hNm] at nc
    have zN : N.size ≤ 6 := by rw [← hNm]; exact nmL_len 1
    have y1 : ¬ (9223372036854775807 < N.size + 1) := by omega
    have y2 : ¬ (9223372036854775807 < N.size + 1 + (itoaB a).size) := by omega
    have y3 : ¬ (9223372036854775807 < N.size + 1 + (itoaB a).size + 1) := by omega
    have y4 : ¬ (9223372036854775807 < N.size + 1 + (itoaB a).size + 1 + (itoaB b).size) := by omega
    have hE := hid (show BA (lineL ⟨1, a, b⟩) = N ++ ⟨#[32]⟩ ++ itoaB a ++ ⟨#[32]⟩ ++ itoaB b by
      rw [← hNm]; simp only [lineL, itoaB_BA]; rw [show (⟨#[32]⟩ : ByteArray) = BA [32] from rfl, BA_app, BA_app, BA_app, BA_app]; congr 1 <;> simp)
    clear zN
    go_enter Tryd.func15, Tryd.ntmps15
    go_upto_region 1 with fail
    rw [HV.out]
    go_cut [3] from 4 to 8 (fun s3 wx => s3 = .string N ∧ Below V.heap.size V wx)
    case first =>
      go_region_law (first | (go_simp; go_at_call 22; refine (spec_l9Names _).mono ?_; rintro e w9 ⟨rfl, rfl⟩))
      all_goals go_wp2_with fail
      all_goals go_meet
      all_goals exact ⟨rfl, by repeat (first | exact HbA.out | refine below_drewN ?_ _ | refine Below.drew ?_ | refine Below.alloc ?_ (by first | (simp; done) | exact HbA.out.size) _ | exact Below.refl _ _)⟩
    case rest =>
      obtain ⟨rfl, hBc⟩ := hcut
      clear a0 nc
      have hN9 := Nat.lt_of_lt_of_le hN hBc.size
      have HB := hid (hB0.out.trans (hBc.mono (Nat.le_of_lt hN)))
      have m0 := (hBc.cell (p := ⟨w.heap.size, 0, none⟩) hN).trans k0
      have m1 := (hBc.cell (p := ⟨w.heap.size, 1, none⟩) hN).trans k1
      have m2 := (hBc.cell (p := ⟨w.heap.size, 2, none⟩) hN).trans k2
      clear k0 k1 k2 hBc
      go_wp2_with fail
      refine (spec_l9Words 1 _ (by omega)).mono ?_
      rintro e w2 ⟨rfl, b2⟩
      rw [hw]
      have B2 := hid (HB.out.trans (b2.mono HB.out.size))
      have n0 := (b2.cell (p := ⟨w.heap.size, 0, none⟩) hN9).trans m0
      have n1 := (b2.cell (p := ⟨w.heap.size, 1, none⟩) hN9).trans m1
      have n2 := (b2.cell (p := ⟨w.heap.size, 2, none⟩) hN9).trans m2
      have hN2 := Nat.lt_of_lt_of_le hN9 b2.size
      clear m0 m1 m2 b2
      go_wp2_with fail
      refine (told6 a _ ha.1 ha.2).mono ?_
      rintro e w3 ⟨rfl, b3⟩
      have B3 := hid (B2.out.trans (b3.mono B2.out.size))
      replace n0 := (b3.cell (p := ⟨w.heap.size, 0, none⟩) hN2).trans n0
      replace n1 := (b3.cell (p := ⟨w.heap.size, 1, none⟩) hN2).trans n1
      replace n2 := (b3.cell (p := ⟨w.heap.size, 2, none⟩) hN2).trans n2
      have hN3 := Nat.lt_of_lt_of_le hN2 b3.size
      clear b3
      go_wp2_with fail
      refine (spec_l9Words 1 _ (by omega)).mono ?_
      rintro e w4 ⟨rfl, b4⟩
      rw [hw]
      have B4 := hid (B3.out.trans (b4.mono B3.out.size))
      replace n0 := (b4.cell (p := ⟨w.heap.size, 0, none⟩) hN3).trans n0
      replace n1 := (b4.cell (p := ⟨w.heap.size, 1, none⟩) hN3).trans n1
      replace n2 := (b4.cell (p := ⟨w.heap.size, 2, none⟩) hN3).trans n2
      have hN4 := Nat.lt_of_lt_of_le hN3 b4.size
      clear b4
      go_wp2_with fail
      refine (told6 b _ hb.1 hb.2).mono ?_
      rintro e w5 ⟨rfl, b5⟩
      have B5 := hid (B4.out.trans (b5.mono B4.out.size))
      replace n0 := (b5.cell (p := ⟨w.heap.size, 0, none⟩) hN4).trans n0
      replace n1 := (b5.cell (p := ⟨w.heap.size, 1, none⟩) hN4).trans n1
      replace n2 := (b5.cell (p := ⟨w.heap.size, 2, none⟩) hN4).trans n2
      have hN5 := Nat.lt_of_lt_of_le hN4 b5.size
      clear b5
      go_wp2
      go_ret
      exact ⟨ret_str (by rw [hE.out]), B5.out⟩
  · have nc := names_cell V 2 _ rfl
    have hw : manyW 2 = 2 := rfl
    obtain ⟨N, hNm⟩ : ∃ X, BA (nmL 2) = X := ⟨_, rfl⟩
    rw [hNm] at nc
    have zN : N.size ≤ 6 := by rw [← hNm]; exact nmL_len 2
    have y1 : ¬ (9223372036854775807 < N.size + 1) := by omega
    have y2 : ¬ (9223372036854775807 < N.size + 1 + (itoaB a).size) := by omega
    have y3 : ¬ (9223372036854775807 < N.size + 1 + (itoaB a).size + 1) := by omega
    have y4 : ¬ (9223372036854775807 < N.size + 1 + (itoaB a).size + 1 + (itoaB b).size) := by omega
    have hE := hid (show BA (lineL ⟨2, a, b⟩) = N ++ ⟨#[32]⟩ ++ itoaB a ++ ⟨#[32]⟩ ++ itoaB b by
      rw [← hNm]; simp only [lineL, itoaB_BA]; rw [show (⟨#[32]⟩ : ByteArray) = BA [32] from rfl, BA_app, BA_app, BA_app, BA_app]; congr 1 <;> simp)
    clear zN
    go_enter Tryd.func15, Tryd.ntmps15
    go_upto_region 1 with fail
    rw [HV.out]
    go_cut [3] from 4 to 8 (fun s3 wx => s3 = .string N ∧ Below V.heap.size V wx)
    case first =>
      go_region_law (first | (go_simp; go_at_call 22; refine (spec_l9Names _).mono ?_; rintro e w9 ⟨rfl, rfl⟩))
      all_goals go_wp2_with fail
      all_goals go_meet
      all_goals exact ⟨rfl, by repeat (first | exact HbA.out | refine below_drewN ?_ _ | refine Below.drew ?_ | refine Below.alloc ?_ (by first | (simp; done) | exact HbA.out.size) _ | exact Below.refl _ _)⟩
    case rest =>
      obtain ⟨rfl, hBc⟩ := hcut
      clear a0 nc
      have hN9 := Nat.lt_of_lt_of_le hN hBc.size
      have HB := hid (hB0.out.trans (hBc.mono (Nat.le_of_lt hN)))
      have m0 := (hBc.cell (p := ⟨w.heap.size, 0, none⟩) hN).trans k0
      have m1 := (hBc.cell (p := ⟨w.heap.size, 1, none⟩) hN).trans k1
      have m2 := (hBc.cell (p := ⟨w.heap.size, 2, none⟩) hN).trans k2
      clear k0 k1 k2 hBc
      go_wp2_with fail
      refine (spec_l9Words 2 _ (by omega)).mono ?_
      rintro e w2 ⟨rfl, b2⟩
      rw [hw]
      have B2 := hid (HB.out.trans (b2.mono HB.out.size))
      have n0 := (b2.cell (p := ⟨w.heap.size, 0, none⟩) hN9).trans m0
      have n1 := (b2.cell (p := ⟨w.heap.size, 1, none⟩) hN9).trans m1
      have n2 := (b2.cell (p := ⟨w.heap.size, 2, none⟩) hN9).trans m2
      have hN2 := Nat.lt_of_lt_of_le hN9 b2.size
      clear m0 m1 m2 b2
      go_wp2_with fail
      refine (told6 a _ ha.1 ha.2).mono ?_
      rintro e w3 ⟨rfl, b3⟩
      have B3 := hid (B2.out.trans (b3.mono B2.out.size))
      replace n0 := (b3.cell (p := ⟨w.heap.size, 0, none⟩) hN2).trans n0
      replace n1 := (b3.cell (p := ⟨w.heap.size, 1, none⟩) hN2).trans n1
      replace n2 := (b3.cell (p := ⟨w.heap.size, 2, none⟩) hN2).trans n2
      have hN3 := Nat.lt_of_lt_of_le hN2 b3.size
      clear b3
      go_wp2_with fail
      refine (spec_l9Words 2 _ (by omega)).mono ?_
      rintro e w4 ⟨rfl, b4⟩
      rw [hw]
      have B4 := hid (B3.out.trans (b4.mono B3.out.size))
      replace n0 := (b4.cell (p := ⟨w.heap.size, 0, none⟩) hN3).trans n0
      replace n1 := (b4.cell (p := ⟨w.heap.size, 1, none⟩) hN3).trans n1
      replace n2 := (b4.cell (p := ⟨w.heap.size, 2, none⟩) hN3).trans n2
      have hN4 := Nat.lt_of_lt_of_le hN3 b4.size
      clear b4
      go_wp2_with fail
      refine (told6 b _ hb.1 hb.2).mono ?_
      rintro e w5 ⟨rfl, b5⟩
      have B5 := hid (B4.out.trans (b5.mono B4.out.size))
      replace n0 := (b5.cell (p := ⟨w.heap.size, 0, none⟩) hN4).trans n0
      replace n1 := (b5.cell (p := ⟨w.heap.size, 1, none⟩) hN4).trans n1
      replace n2 := (b5.cell (p := ⟨w.heap.size, 2, none⟩) hN4).trans n2
      have hN5 := Nat.lt_of_lt_of_le hN4 b5.size
      clear b5
      go_wp2
      go_ret
      exact ⟨ret_str (by rw [hE.out]), B5.out⟩
  · have nc := names_cell V 3 _ rfl
    have hw : manyW 3 = 2 := rfl
    obtain ⟨N, hNm⟩ : ∃ X, BA (nmL 3) = X := ⟨_, rfl⟩
    rw [hNm] at nc
    have zN : N.size ≤ 6 := by rw [← hNm]; exact nmL_len 3
    have y1 : ¬ (9223372036854775807 < N.size + 1) := by omega
    have y2 : ¬ (9223372036854775807 < N.size + 1 + (itoaB a).size) := by omega
    have y3 : ¬ (9223372036854775807 < N.size + 1 + (itoaB a).size + 1) := by omega
    have y4 : ¬ (9223372036854775807 < N.size + 1 + (itoaB a).size + 1 + (itoaB b).size) := by omega
    have hE := hid (show BA (lineL ⟨3, a, b⟩) = N ++ ⟨#[32]⟩ ++ itoaB a ++ ⟨#[32]⟩ ++ itoaB b by
      rw [← hNm]; simp only [lineL, itoaB_BA]; rw [show (⟨#[32]⟩ : ByteArray) = BA [32] from rfl, BA_app, BA_app, BA_app, BA_app]; congr 1 <;> simp)
    clear zN
    go_enter Tryd.func15, Tryd.ntmps15
    go_upto_region 1 with fail
    rw [HV.out]
    go_cut [3] from 4 to 8 (fun s3 wx => s3 = .string N ∧ Below V.heap.size V wx)
    case first =>
      go_region_law (first | (go_simp; go_at_call 22; refine (spec_l9Names _).mono ?_; rintro e w9 ⟨rfl, rfl⟩))
      all_goals go_wp2_with fail
      all_goals go_meet
      all_goals exact ⟨rfl, by repeat (first | exact HbA.out | refine below_drewN ?_ _ | refine Below.drew ?_ | refine Below.alloc ?_ (by first | (simp; done) | exact HbA.out.size) _ | exact Below.refl _ _)⟩
    case rest =>
      obtain ⟨rfl, hBc⟩ := hcut
      clear a0 nc
      have hN9 := Nat.lt_of_lt_of_le hN hBc.size
      have HB := hid (hB0.out.trans (hBc.mono (Nat.le_of_lt hN)))
      have m0 := (hBc.cell (p := ⟨w.heap.size, 0, none⟩) hN).trans k0
      have m1 := (hBc.cell (p := ⟨w.heap.size, 1, none⟩) hN).trans k1
      have m2 := (hBc.cell (p := ⟨w.heap.size, 2, none⟩) hN).trans k2
      clear k0 k1 k2 hBc
      go_wp2_with fail
      refine (spec_l9Words 3 _ (by omega)).mono ?_
      rintro e w2 ⟨rfl, b2⟩
      rw [hw]
      have B2 := hid (HB.out.trans (b2.mono HB.out.size))
      have n0 := (b2.cell (p := ⟨w.heap.size, 0, none⟩) hN9).trans m0
      have n1 := (b2.cell (p := ⟨w.heap.size, 1, none⟩) hN9).trans m1
      have n2 := (b2.cell (p := ⟨w.heap.size, 2, none⟩) hN9).trans m2
      have hN2 := Nat.lt_of_lt_of_le hN9 b2.size
      clear m0 m1 m2 b2
      go_wp2_with fail
      refine (told6 a _ ha.1 ha.2).mono ?_
      rintro e w3 ⟨rfl, b3⟩
      have B3 := hid (B2.out.trans (b3.mono B2.out.size))
      replace n0 := (b3.cell (p := ⟨w.heap.size, 0, none⟩) hN2).trans n0
      replace n1 := (b3.cell (p := ⟨w.heap.size, 1, none⟩) hN2).trans n1
      replace n2 := (b3.cell (p := ⟨w.heap.size, 2, none⟩) hN2).trans n2
      have hN3 := Nat.lt_of_lt_of_le hN2 b3.size
      clear b3
      go_wp2_with fail
      refine (spec_l9Words 3 _ (by omega)).mono ?_
      rintro e w4 ⟨rfl, b4⟩
      rw [hw]
      have B4 := hid (B3.out.trans (b4.mono B3.out.size))
      replace n0 := (b4.cell (p := ⟨w.heap.size, 0, none⟩) hN3).trans n0
      replace n1 := (b4.cell (p := ⟨w.heap.size, 1, none⟩) hN3).trans n1
      replace n2 := (b4.cell (p := ⟨w.heap.size, 2, none⟩) hN3).trans n2
      have hN4 := Nat.lt_of_lt_of_le hN3 b4.size
      clear b4
      go_wp2_with fail
      refine (told6 b _ hb.1 hb.2).mono ?_
      rintro e w5 ⟨rfl, b5⟩
      have B5 := hid (B4.out.trans (b5.mono B4.out.size))
      replace n0 := (b5.cell (p := ⟨w.heap.size, 0, none⟩) hN4).trans n0
      replace n1 := (b5.cell (p := ⟨w.heap.size, 1, none⟩) hN4).trans n1
      replace n2 := (b5.cell (p := ⟨w.heap.size, 2, none⟩) hN4).trans n2
      have hN5 := Nat.lt_of_lt_of_le hN4 b5.size
      clear b5
      go_wp2
      go_ret
      exact ⟨ret_str (by rw [hE.out]), B5.out⟩
  · have nc := names_cell V 4 _ rfl
    have hw : manyW 4 = 2 := rfl
    obtain ⟨N, hNm⟩ : ∃ X, BA (nmL 4) = X := ⟨_, rfl⟩
    rw [hNm] at nc
    have zN : N.size ≤ 6 := by rw [← hNm]; exact nmL_len 4
    have y1 : ¬ (9223372036854775807 < N.size + 1) := by omega
    have y2 : ¬ (9223372036854775807 < N.size + 1 + (itoaB a).size) := by omega
    have y3 : ¬ (9223372036854775807 < N.size + 1 + (itoaB a).size + 1) := by omega
    have y4 : ¬ (9223372036854775807 < N.size + 1 + (itoaB a).size + 1 + (itoaB b).size) := by omega
    have hE := hid (show BA (lineL ⟨4, a, b⟩) = N ++ ⟨#[32]⟩ ++ itoaB a ++ ⟨#[32]⟩ ++ itoaB b by
      rw [← hNm]; simp only [lineL, itoaB_BA]; rw [show (⟨#[32]⟩ : ByteArray) = BA [32] from rfl, BA_app, BA_app, BA_app, BA_app]; congr 1 <;> simp)
    clear zN
    go_enter Tryd.func15, Tryd.ntmps15
    go_upto_region 1 with fail
    rw [HV.out]
    go_cut [3] from 4 to 8 (fun s3 wx => s3 = .string N ∧ Below V.heap.size V wx)
    case first =>
      go_region_law (first | (go_simp; go_at_call 22; refine (spec_l9Names _).mono ?_; rintro e w9 ⟨rfl, rfl⟩))
      all_goals go_wp2_with fail
      all_goals go_meet
      all_goals exact ⟨rfl, by repeat (first | exact HbA.out | refine below_drewN ?_ _ | refine Below.drew ?_ | refine Below.alloc ?_ (by first | (simp; done) | exact HbA.out.size) _ | exact Below.refl _ _)⟩
    case rest =>
      obtain ⟨rfl, hBc⟩ := hcut
      clear a0 nc
      have hN9 := Nat.lt_of_lt_of_le hN hBc.size
      have HB := hid (hB0.out.trans (hBc.mono (Nat.le_of_lt hN)))
      have m0 := (hBc.cell (p := ⟨w.heap.size, 0, none⟩) hN).trans k0
      have m1 := (hBc.cell (p := ⟨w.heap.size, 1, none⟩) hN).trans k1
      have m2 := (hBc.cell (p := ⟨w.heap.size, 2, none⟩) hN).trans k2
      clear k0 k1 k2 hBc
      go_wp2_with fail
      refine (spec_l9Words 4 _ (by omega)).mono ?_
      rintro e w2 ⟨rfl, b2⟩
      rw [hw]
      have B2 := hid (HB.out.trans (b2.mono HB.out.size))
      have n0 := (b2.cell (p := ⟨w.heap.size, 0, none⟩) hN9).trans m0
      have n1 := (b2.cell (p := ⟨w.heap.size, 1, none⟩) hN9).trans m1
      have n2 := (b2.cell (p := ⟨w.heap.size, 2, none⟩) hN9).trans m2
      have hN2 := Nat.lt_of_lt_of_le hN9 b2.size
      clear m0 m1 m2 b2
      go_wp2_with fail
      refine (told6 a _ ha.1 ha.2).mono ?_
      rintro e w3 ⟨rfl, b3⟩
      have B3 := hid (B2.out.trans (b3.mono B2.out.size))
      replace n0 := (b3.cell (p := ⟨w.heap.size, 0, none⟩) hN2).trans n0
      replace n1 := (b3.cell (p := ⟨w.heap.size, 1, none⟩) hN2).trans n1
      replace n2 := (b3.cell (p := ⟨w.heap.size, 2, none⟩) hN2).trans n2
      have hN3 := Nat.lt_of_lt_of_le hN2 b3.size
      clear b3
      go_wp2_with fail
      refine (spec_l9Words 4 _ (by omega)).mono ?_
      rintro e w4 ⟨rfl, b4⟩
      rw [hw]
      have B4 := hid (B3.out.trans (b4.mono B3.out.size))
      replace n0 := (b4.cell (p := ⟨w.heap.size, 0, none⟩) hN3).trans n0
      replace n1 := (b4.cell (p := ⟨w.heap.size, 1, none⟩) hN3).trans n1
      replace n2 := (b4.cell (p := ⟨w.heap.size, 2, none⟩) hN3).trans n2
      have hN4 := Nat.lt_of_lt_of_le hN3 b4.size
      clear b4
      go_wp2_with fail
      refine (told6 b _ hb.1 hb.2).mono ?_
      rintro e w5 ⟨rfl, b5⟩
      have B5 := hid (B4.out.trans (b5.mono B4.out.size))
      replace n0 := (b5.cell (p := ⟨w.heap.size, 0, none⟩) hN4).trans n0
      replace n1 := (b5.cell (p := ⟨w.heap.size, 1, none⟩) hN4).trans n1
      replace n2 := (b5.cell (p := ⟨w.heap.size, 2, none⟩) hN4).trans n2
      have hN5 := Nat.lt_of_lt_of_le hN4 b5.size
      clear b5
      go_wp2
      go_ret
      exact ⟨ret_str (by rw [hE.out]), B5.out⟩
  · have nc := names_cell V 5 _ rfl
    have hw : manyW 5 = 2 := rfl
    obtain ⟨N, hNm⟩ : ∃ X, BA (nmL 5) = X := ⟨_, rfl⟩
    rw [hNm] at nc
    have zN : N.size ≤ 6 := by rw [← hNm]; exact nmL_len 5
    have y1 : ¬ (9223372036854775807 < N.size + 1) := by omega
    have y2 : ¬ (9223372036854775807 < N.size + 1 + (itoaB a).size) := by omega
    have y3 : ¬ (9223372036854775807 < N.size + 1 + (itoaB a).size + 1) := by omega
    have y4 : ¬ (9223372036854775807 < N.size + 1 + (itoaB a).size + 1 + (itoaB b).size) := by omega
    have hE := hid (show BA (lineL ⟨5, a, b⟩) = N ++ ⟨#[32]⟩ ++ itoaB a ++ ⟨#[32]⟩ ++ itoaB b by
      rw [← hNm]; simp only [lineL, itoaB_BA]; rw [show (⟨#[32]⟩ : ByteArray) = BA [32] from rfl, BA_app, BA_app, BA_app, BA_app]; congr 1 <;> simp)
    clear zN
    go_enter Tryd.func15, Tryd.ntmps15
    go_upto_region 1 with fail
    rw [HV.out]
    go_cut [3] from 4 to 8 (fun s3 wx => s3 = .string N ∧ Below V.heap.size V wx)
    case first =>
      go_region_law (first | (go_simp; go_at_call 22; refine (spec_l9Names _).mono ?_; rintro e w9 ⟨rfl, rfl⟩))
      all_goals go_wp2_with fail
      all_goals go_meet
      all_goals exact ⟨rfl, by repeat (first | exact HbA.out | refine below_drewN ?_ _ | refine Below.drew ?_ | refine Below.alloc ?_ (by first | (simp; done) | exact HbA.out.size) _ | exact Below.refl _ _)⟩
    case rest =>
      obtain ⟨rfl, hBc⟩ := hcut
      clear a0 nc
      have hN9 := Nat.lt_of_lt_of_le hN hBc.size
      have HB := hid (hB0.out.trans (hBc.mono (Nat.le_of_lt hN)))
      have m0 := (hBc.cell (p := ⟨w.heap.size, 0, none⟩) hN).trans k0
      have m1 := (hBc.cell (p := ⟨w.heap.size, 1, none⟩) hN).trans k1
      have m2 := (hBc.cell (p := ⟨w.heap.size, 2, none⟩) hN).trans k2
      clear k0 k1 k2 hBc
      go_wp2_with fail
      refine (spec_l9Words 5 _ (by omega)).mono ?_
      rintro e w2 ⟨rfl, b2⟩
      rw [hw]
      have B2 := hid (HB.out.trans (b2.mono HB.out.size))
      have n0 := (b2.cell (p := ⟨w.heap.size, 0, none⟩) hN9).trans m0
      have n1 := (b2.cell (p := ⟨w.heap.size, 1, none⟩) hN9).trans m1
      have n2 := (b2.cell (p := ⟨w.heap.size, 2, none⟩) hN9).trans m2
      have hN2 := Nat.lt_of_lt_of_le hN9 b2.size
      clear m0 m1 m2 b2
      go_wp2_with fail
      refine (told6 a _ ha.1 ha.2).mono ?_
      rintro e w3 ⟨rfl, b3⟩
      have B3 := hid (B2.out.trans (b3.mono B2.out.size))
      replace n0 := (b3.cell (p := ⟨w.heap.size, 0, none⟩) hN2).trans n0
      replace n1 := (b3.cell (p := ⟨w.heap.size, 1, none⟩) hN2).trans n1
      replace n2 := (b3.cell (p := ⟨w.heap.size, 2, none⟩) hN2).trans n2
      have hN3 := Nat.lt_of_lt_of_le hN2 b3.size
      clear b3
      go_wp2_with fail
      refine (spec_l9Words 5 _ (by omega)).mono ?_
      rintro e w4 ⟨rfl, b4⟩
      rw [hw]
      have B4 := hid (B3.out.trans (b4.mono B3.out.size))
      replace n0 := (b4.cell (p := ⟨w.heap.size, 0, none⟩) hN3).trans n0
      replace n1 := (b4.cell (p := ⟨w.heap.size, 1, none⟩) hN3).trans n1
      replace n2 := (b4.cell (p := ⟨w.heap.size, 2, none⟩) hN3).trans n2
      have hN4 := Nat.lt_of_lt_of_le hN3 b4.size
      clear b4
      go_wp2_with fail
      refine (told6 b _ hb.1 hb.2).mono ?_
      rintro e w5 ⟨rfl, b5⟩
      have B5 := hid (B4.out.trans (b5.mono B4.out.size))
      replace n0 := (b5.cell (p := ⟨w.heap.size, 0, none⟩) hN4).trans n0
      replace n1 := (b5.cell (p := ⟨w.heap.size, 1, none⟩) hN4).trans n1
      replace n2 := (b5.cell (p := ⟨w.heap.size, 2, none⟩) hN4).trans n2
      have hN5 := Nat.lt_of_lt_of_le hN4 b5.size
      clear b5
      go_wp2
      go_ret
      exact ⟨ret_str (by rw [hE.out]), B5.out⟩
  · have nc := names_cell V 6 _ rfl
    have hw : manyW 6 = 0 := rfl
    obtain ⟨N, hNm⟩ : ∃ X, BA (nmL 6) = X := ⟨_, rfl⟩
    rw [hNm] at nc
    have zN : N.size ≤ 6 := by rw [← hNm]; exact nmL_len 6
    have y1 : ¬ (9223372036854775807 < N.size + 1) := by omega
    have y2 : ¬ (9223372036854775807 < N.size + 1 + (itoaB a).size) := by omega
    have y3 : ¬ (9223372036854775807 < N.size + 1 + (itoaB a).size + 1) := by omega
    have y4 : ¬ (9223372036854775807 < N.size + 1 + (itoaB a).size + 1 + (itoaB b).size) := by omega
    have hE := hid (show BA (lineL ⟨6, a, b⟩) = N by
      rw [← hNm]; simp only [lineL, itoaB_BA]; rfl)
    clear zN
    go_enter Tryd.func15, Tryd.ntmps15
    go_upto_region 1 with fail
    rw [HV.out]
    go_cut [3] from 4 to 8 (fun s3 wx => s3 = .string N ∧ Below V.heap.size V wx)
    case first =>
      go_region_law (first | (go_simp; go_at_call 22; refine (spec_l9Names _).mono ?_; rintro e w9 ⟨rfl, rfl⟩))
      all_goals go_wp2_with fail
      all_goals go_meet
      all_goals exact ⟨rfl, by repeat (first | exact HbA.out | refine below_drewN ?_ _ | refine Below.drew ?_ | refine Below.alloc ?_ (by first | (simp; done) | exact HbA.out.size) _ | exact Below.refl _ _)⟩
    case rest =>
      obtain ⟨rfl, hBc⟩ := hcut
      clear a0 nc
      have hN9 := Nat.lt_of_lt_of_le hN hBc.size
      have HB := hid (hB0.out.trans (hBc.mono (Nat.le_of_lt hN)))
      have m0 := (hBc.cell (p := ⟨w.heap.size, 0, none⟩) hN).trans k0
      have m1 := (hBc.cell (p := ⟨w.heap.size, 1, none⟩) hN).trans k1
      have m2 := (hBc.cell (p := ⟨w.heap.size, 2, none⟩) hN).trans k2
      clear k0 k1 k2 hBc
      go_wp2_with fail
      refine (spec_l9Words 6 _ (by omega)).mono ?_
      rintro e w2 ⟨rfl, b2⟩
      rw [hw]
      have B2 := hid (HB.out.trans (b2.mono HB.out.size))
      have n0 := (b2.cell (p := ⟨w.heap.size, 0, none⟩) hN9).trans m0
      have n1 := (b2.cell (p := ⟨w.heap.size, 1, none⟩) hN9).trans m1
      have n2 := (b2.cell (p := ⟨w.heap.size, 2, none⟩) hN9).trans m2
      have hN2 := Nat.lt_of_lt_of_le hN9 b2.size
      clear m0 m1 m2 b2
      go_wp2_with fail
      refine (spec_l9Words 6 _ (by omega)).mono ?_
      rintro e w3 ⟨rfl, b3⟩
      rw [hw]
      have B3 := hid (B2.out.trans (b3.mono B2.out.size))
      replace n0 := (b3.cell (p := ⟨w.heap.size, 0, none⟩) hN2).trans n0
      replace n1 := (b3.cell (p := ⟨w.heap.size, 1, none⟩) hN2).trans n1
      replace n2 := (b3.cell (p := ⟨w.heap.size, 2, none⟩) hN2).trans n2
      have hN3 := Nat.lt_of_lt_of_le hN2 b3.size
      clear b3
      go_wp2
      go_ret
      exact ⟨ret_str (by rw [hE.out]), B3.out⟩
  · have nc := names_cell V 7 _ rfl
    have hw : manyW 7 = 0 := rfl
    obtain ⟨N, hNm⟩ : ∃ X, BA (nmL 7) = X := ⟨_, rfl⟩
    rw [hNm] at nc
    have zN : N.size ≤ 6 := by rw [← hNm]; exact nmL_len 7
    have y1 : ¬ (9223372036854775807 < N.size + 1) := by omega
    have y2 : ¬ (9223372036854775807 < N.size + 1 + (itoaB a).size) := by omega
    have y3 : ¬ (9223372036854775807 < N.size + 1 + (itoaB a).size + 1) := by omega
    have y4 : ¬ (9223372036854775807 < N.size + 1 + (itoaB a).size + 1 + (itoaB b).size) := by omega
    have hE := hid (show BA (lineL ⟨7, a, b⟩) = N by
      rw [← hNm]; simp only [lineL, itoaB_BA]; rfl)
    clear zN
    go_enter Tryd.func15, Tryd.ntmps15
    go_upto_region 1 with fail
    rw [HV.out]
    go_cut [3] from 4 to 8 (fun s3 wx => s3 = .string N ∧ Below V.heap.size V wx)
    case first =>
      go_region_law (first | (go_simp; go_at_call 22; refine (spec_l9Names _).mono ?_; rintro e w9 ⟨rfl, rfl⟩))
      all_goals go_wp2_with fail
      all_goals go_meet
      all_goals exact ⟨rfl, by repeat (first | exact HbA.out | refine below_drewN ?_ _ | refine Below.drew ?_ | refine Below.alloc ?_ (by first | (simp; done) | exact HbA.out.size) _ | exact Below.refl _ _)⟩
    case rest =>
      obtain ⟨rfl, hBc⟩ := hcut
      clear a0 nc
      have hN9 := Nat.lt_of_lt_of_le hN hBc.size
      have HB := hid (hB0.out.trans (hBc.mono (Nat.le_of_lt hN)))
      have m0 := (hBc.cell (p := ⟨w.heap.size, 0, none⟩) hN).trans k0
      have m1 := (hBc.cell (p := ⟨w.heap.size, 1, none⟩) hN).trans k1
      have m2 := (hBc.cell (p := ⟨w.heap.size, 2, none⟩) hN).trans k2
      clear k0 k1 k2 hBc
      go_wp2_with fail
      refine (spec_l9Words 7 _ (by omega)).mono ?_
      rintro e w2 ⟨rfl, b2⟩
      rw [hw]
      have B2 := hid (HB.out.trans (b2.mono HB.out.size))
      have n0 := (b2.cell (p := ⟨w.heap.size, 0, none⟩) hN9).trans m0
      have n1 := (b2.cell (p := ⟨w.heap.size, 1, none⟩) hN9).trans m1
      have n2 := (b2.cell (p := ⟨w.heap.size, 2, none⟩) hN9).trans m2
      have hN2 := Nat.lt_of_lt_of_le hN9 b2.size
      clear m0 m1 m2 b2
      go_wp2_with fail
      refine (spec_l9Words 7 _ (by omega)).mono ?_
      rintro e w3 ⟨rfl, b3⟩
      rw [hw]
      have B3 := hid (B2.out.trans (b3.mono B2.out.size))
      replace n0 := (b3.cell (p := ⟨w.heap.size, 0, none⟩) hN2).trans n0
      replace n1 := (b3.cell (p := ⟨w.heap.size, 1, none⟩) hN2).trans n1
      replace n2 := (b3.cell (p := ⟨w.heap.size, 2, none⟩) hN2).trans n2
      have hN3 := Nat.lt_of_lt_of_le hN2 b3.size
      clear b3
      go_wp2
      go_ret
      exact ⟨ret_str (by rw [hE.out]), B3.out⟩
  · have nc := names_cell V 8 _ rfl
    have hw : manyW 8 = 1 := rfl
    obtain ⟨N, hNm⟩ : ∃ X, BA (nmL 8) = X := ⟨_, rfl⟩
    rw [hNm] at nc
    have zN : N.size ≤ 6 := by rw [← hNm]; exact nmL_len 8
    have y1 : ¬ (9223372036854775807 < N.size + 1) := by omega
    have y2 : ¬ (9223372036854775807 < N.size + 1 + (itoaB a).size) := by omega
    have y3 : ¬ (9223372036854775807 < N.size + 1 + (itoaB a).size + 1) := by omega
    have y4 : ¬ (9223372036854775807 < N.size + 1 + (itoaB a).size + 1 + (itoaB b).size) := by omega
    have hE := hid (show BA (lineL ⟨8, a, b⟩) = N ++ ⟨#[32]⟩ ++ itoaB a by
      rw [← hNm]; simp only [lineL, itoaB_BA]; rw [show (⟨#[32]⟩ : ByteArray) = BA [32] from rfl, BA_app, BA_app]; congr 1 <;> simp)
    clear zN
    go_enter Tryd.func15, Tryd.ntmps15
    go_upto_region 1 with fail
    rw [HV.out]
    go_cut [3] from 4 to 8 (fun s3 wx => s3 = .string N ∧ Below V.heap.size V wx)
    case first =>
      go_region_law (first | (go_simp; go_at_call 22; refine (spec_l9Names _).mono ?_; rintro e w9 ⟨rfl, rfl⟩))
      all_goals go_wp2_with fail
      all_goals go_meet
      all_goals exact ⟨rfl, by repeat (first | exact HbA.out | refine below_drewN ?_ _ | refine Below.drew ?_ | refine Below.alloc ?_ (by first | (simp; done) | exact HbA.out.size) _ | exact Below.refl _ _)⟩
    case rest =>
      obtain ⟨rfl, hBc⟩ := hcut
      clear a0 nc
      have hN9 := Nat.lt_of_lt_of_le hN hBc.size
      have HB := hid (hB0.out.trans (hBc.mono (Nat.le_of_lt hN)))
      have m0 := (hBc.cell (p := ⟨w.heap.size, 0, none⟩) hN).trans k0
      have m1 := (hBc.cell (p := ⟨w.heap.size, 1, none⟩) hN).trans k1
      have m2 := (hBc.cell (p := ⟨w.heap.size, 2, none⟩) hN).trans k2
      clear k0 k1 k2 hBc
      go_wp2_with fail
      refine (spec_l9Words 8 _ (by omega)).mono ?_
      rintro e w2 ⟨rfl, b2⟩
      rw [hw]
      have B2 := hid (HB.out.trans (b2.mono HB.out.size))
      have n0 := (b2.cell (p := ⟨w.heap.size, 0, none⟩) hN9).trans m0
      have n1 := (b2.cell (p := ⟨w.heap.size, 1, none⟩) hN9).trans m1
      have n2 := (b2.cell (p := ⟨w.heap.size, 2, none⟩) hN9).trans m2
      have hN2 := Nat.lt_of_lt_of_le hN9 b2.size
      clear m0 m1 m2 b2
      go_wp2_with fail
      refine (told6 a _ ha.1 ha.2).mono ?_
      rintro e w3 ⟨rfl, b3⟩
      have B3 := hid (B2.out.trans (b3.mono B2.out.size))
      replace n0 := (b3.cell (p := ⟨w.heap.size, 0, none⟩) hN2).trans n0
      replace n1 := (b3.cell (p := ⟨w.heap.size, 1, none⟩) hN2).trans n1
      replace n2 := (b3.cell (p := ⟨w.heap.size, 2, none⟩) hN2).trans n2
      have hN3 := Nat.lt_of_lt_of_le hN2 b3.size
      clear b3
      go_wp2_with fail
      refine (spec_l9Words 8 _ (by omega)).mono ?_
      rintro e w4 ⟨rfl, b4⟩
      rw [hw]
      have B4 := hid (B3.out.trans (b4.mono B3.out.size))
      replace n0 := (b4.cell (p := ⟨w.heap.size, 0, none⟩) hN3).trans n0
      replace n1 := (b4.cell (p := ⟨w.heap.size, 1, none⟩) hN3).trans n1
      replace n2 := (b4.cell (p := ⟨w.heap.size, 2, none⟩) hN3).trans n2
      have hN4 := Nat.lt_of_lt_of_le hN3 b4.size
      clear b4
      go_wp2
      go_ret
      exact ⟨ret_str (by rw [hE.out]), B4.out⟩
end Go.Proofs.YtikiaffgjpddeaaDoor
