/- Chapter 16's program: SetAdd, SetDrop, SetList, SetSame. -/
import Derived.Test.YtdgmbcmgjadoiaaI16f
import Derived.Test.YtdgmbcmgjadoiaaS16e
namespace Go.Proofs.Ytdgmbcmgjadoiaa
set_option maxRecDepth 100000
open Go.RowKit Go.Proofs Go.Own
open Go Go.BigFrame
set_option linter.unusedVariables false
set_option linter.unusedSimpArgs false
theorem sortL_asc (xs : List Int) : (sortL xs).Pairwise (· ≤ ·) := by
  have h : ∀ (ys acc : List Int), acc.Pairwise (· ≤ ·) → (ys.foldl putL acc).Pairwise (· ≤ ·) := by
    intro ys
    induction ys with
    | nil => intro acc h; exact h
    | cons y ys ih => intro acc h; exact ih _ (putL_asc h y)
  exact h xs [] List.Pairwise.nil
theorem sort_eq (xs : List Int) : (xs.mergeSort fun x y => decide (x ≤ y)) = sortL xs := by
  refine List.Perm.eq_of_pairwise (le := (· ≤ ·)) (fun a b _ _ h1 h2 => by omega) ?_ (sortL_asc xs) ((List.mergeSort_perm xs _).trans (sortL_perm xs).symm)
  have := List.pairwise_mergeSort (le := fun x y : Int => decide (x ≤ y)) (fun a b c h1 h2 => by simp at *; omega) (fun a b => by simp; omega) xs
  exact this.imp fun h => by simpa using h
/-- The set's buckets, handed out. -/
theorem LkS.out {B lo : Nat} {st : Int} {S : Nat → Prop} {w : World} {s : List RowD} (h : LkS B lo st S w s) : ∃ g c, w.cell? ⟨B, 2, none⟩ = some (.slice (some ⟨g, 0, none⟩) s.length c) ∧ ownL (Rg lo w.heap.size) w (.slice (some ⟨g, 0, none⟩) s.length c) s := by
  obtain ⟨g, c, h1, h2, h3, h4⟩ := h
  exact ⟨g, c, h1.1.2 2 (by simp), h2.mono fun b hb => ⟨(h3 b hb).1, (h3 b hb).2.1⟩⟩
theorem LkS.low {B lo : Nat} {st : Int} {S : Nat → Prop} {w w' : World} {s : List RowD} (h : LkS B lo st S w s) (hlo : lo ≤ w.heap.size) (c : ChgS (fun b => S b ∨ b = B) w w') : Below lo w w' := by
  obtain ⟨g, k, h1, h2, h3, h4⟩ := h
  exact c.below hlo fun b hb => by
    rcases hb with h | h
    · exact (h3 b h).1
    · subst h; exact h4
set_option maxHeartbeats 8000000 in
theorem impl_SetAdd0 (s : List RowD) (x : Int) (v : Value) (w : World) (h : rdsL w v s) (hb : IntSSB s) :
    Calls Try.prog 29 #[v, .int .i64 x] w fun e w' => ∃ u, e = .returned (.tuple #[u, .int .i64 (addC s x).2]) ∧ ownL (Rg w.heap.size w'.heap.size) w' u (addC s x).1 ∧ Below w.heap.size w w' := by
  have HCS := hid (impl_copySet s v w h hb)
  have HAD := hid (fun B lo S w hlo h => impl_add B lo s x S w hlo h)
  obtain ⟨a, cap, rfl, -, -, -⟩ := ss_open h
  generalize addC s x = A at *
  obtain ⟨T, cd⟩ := A
  dsimp only at HAD ⊢
  clear h hb
  go_enter Try.func29, Try.ntmps29
  go_wp2_with fail
  refine HCS.out.mono ?_
  rintro e w2 ⟨B, S, rfl, hL, b2⟩
  have HAD2 := hid (HAD.out B w.heap.size S w2 b2.size hL)
  have HL := hid hL
  have HB2 := hid b2
  clear hL b2 HAD HCS
  go_wp2_with fail
  refine HAD2.out.mono ?_
  rintro e w3 ⟨S', rfl, hL3, hT3, hC3⟩
  obtain ⟨g, c, k2, o3⟩ := hL3.out
  have HO3 := hid o3
  have HB3 := hid (HB2.out.trans (HL.out.low HB2.out.size hC3))
  clear hL3 hT3 hC3 o3 HAD2
  go_wp2
  (refine bodyPost_ret (results_two rfl _ _) rfl ?_)
  exact ⟨_, rfl, HO3.out, HB3.out⟩
set_option maxHeartbeats 8000000 in
theorem impl_SetDrop0 (s : List RowD) (x : Int) (v : Value) (w : World) (h : rdsL w v s) (hb : IntSSB s) :
    Calls Try.prog 31 #[v, .int .i64 x] w fun e w' => ∃ u, e = .returned (.tuple #[u, .int .i64 (dropC s x).2]) ∧ ownL (Rg w.heap.size w'.heap.size) w' u (dropC s x).1 ∧ Below w.heap.size w w' := by
  have HCS := hid (impl_copySet s v w h hb)
  have HAD := hid (fun B lo S w hlo h => impl_drop B lo s x S w hlo h)
  obtain ⟨a, cap, rfl, -, -, -⟩ := ss_open h
  generalize dropC s x = A at *
  obtain ⟨T, cd⟩ := A
  dsimp only at HAD ⊢
  clear h hb
  go_enter Try.func31, Try.ntmps31
  go_wp2_with fail
  refine HCS.out.mono ?_
  rintro e w2 ⟨B, S, rfl, hL, b2⟩
  have HAD2 := hid (HAD.out B w.heap.size S w2 b2.size hL)
  have HL := hid hL
  have HB2 := hid b2
  clear hL b2 HAD HCS
  go_wp2_with fail
  refine HAD2.out.mono ?_
  rintro e w3 ⟨S', rfl, hL3, hT3, hC3⟩
  obtain ⟨g, c, k2, o3⟩ := hL3.out
  have HO3 := hid o3
  have HB3 := hid (HB2.out.trans (HL.out.low HB2.out.size hC3))
  clear hL3 hT3 hC3 o3 HAD2
  go_wp2
  (refine bodyPost_ret (results_two rfl _ _) rfl ?_)
  exact ⟨_, rfl, HO3.out, HB3.out⟩
set_option maxHeartbeats 8000000 in
theorem impl_SetList0 (s : List RowD) (v : Value) (w : World) (h : rdsL w v s) (hb : IntSSB s) :
    Calls Try.prog 33 #[v] w fun e w' => ∃ u, e = .returned u ∧ w'.ownsRow w.heap.size 3 1 u (listC s).length ((listC s).flatMap Go.Own.encI) ∧ Below w.heap.size w w' := by
  have hN : (allL s).length ≤ 1048576 := by rw [allL_len]; unfold IntSSB szIntSSD at hb; omega
  obtain ⟨r1, hr1⟩ : ∃ r, setOk s = r := ⟨_, rfl⟩
  have HOK := hid (impl_SetOkIs s r1 v w h hr1)
  have HCC := hid (fun w (r : rdsL w v s) => impl_Concat s v w r hN)
  have HR := hid h
  have HNO := hid (fun h => list_no (s := s) h)
  have HYES := hid (fun h => list_yes (s := s) h)
  have HR1 := hid hr1
  have HSE := hid (sort_eq (allL s))
  have HSL := hid (sortL_len (allL s))
  have HN := hid hN
  obtain ⟨a, cap, rfl, -, -, -⟩ := ss_open h
  generalize listC s = LC at *
  generalize allL s = L at *
  clear h hb hr1 hN
  go_enter Try.func33, Try.ntmps33
  go_wp2_with fail
  refine HOK.out.mono ?_
  rintro e w2 ⟨rfl, b2⟩
  have HB2 := hid b2
  clear b2 HOK
  cases r1 with
  | false =>
    have Hx := hid (HNO.out HR1.out)
    clear HNO HYES HR1 HCC HSE HSL
    go_wp2
    go_ret
    exact ⟨_, rfl, by rw [Hx.out]; exact World.ownsRow_nil _ _ _ _, HB2.out⟩
  | true =>
  have Hx := hid (HYES.out HR1.out)
  clear HNO HYES HR1
  go_wp2_with fail
  refine (HCC.out _ (rdsL.below HR.out HB2.out)).mono ?_
  rintro e w3 ⟨u3, rfl, o3, b3⟩
  obtain ⟨p3, c3, rfl, -, -⟩ := owns_form o3
  have HST := hid (impl_Sort L (.slice p3 L.length c3) w3 w2.heap.size o3 HN.out b3.size)
  rw [HSE.out] at HST
  have HB3 := hid (HB2.out.trans (b3.mono HB2.out.size))
  clear o3 HCC
  have hs := b3.size
  have hs2 := HB2.out.size
  go_wp2_with fail
  refine HST.out.mono ?_
  rintro e w4 ⟨rfl, o4, b4⟩
  have HO4 := hid o4
  have HB4 := hid (HB3.out.trans (b4.mono hs2))
  clear o4 b4 HST b3
  go_wp2
  go_ret
  exact ⟨_, rfl, by rw [Hx.out, HSL.out]; exact owns_mono HO4.out hs2, HB4.out⟩
/-- slices.Equal at any lists of numbers. -/
theorem impl_Equal (xs ys : List Int) (v u : Value) (w : World) (h : Ints w v xs) (g : Ints w u ys) :
    Calls Try.prog 64 #[v, u] w fun e w' => e = .returned (.bool (decide (xs = ys))) ∧ Below w.heap.size w w' := by
  obtain ⟨a1, c1, rfl, hl1, hm1, hc1⟩ := h.open
  obtain ⟨a2, c2, rfl, hl2, hm2, hc2⟩ := g.open
  by_cases hl : xs.length = ys.length
  · by_cases h0 : xs.length = 0
    · obtain rfl := List.eq_nil_of_length_eq_zero h0
      obtain rfl := List.eq_nil_of_length_eq_zero (hl.symm.trans h0)
      refine (Try.slices_Equal_int_empty a1 a2 c1 0 c2 w (by omega)).mono ?_
      rintro e w' ⟨rfl, rfl⟩
      exact ⟨by simp, Below.refl _ _⟩
    · obtain ⟨b1, o1, rfl, _, _⟩ := hc1 0 (by omega)
      obtain ⟨b2, o2, rfl, _, _⟩ := hc2 0 (by omega)
      refine (Try.slices_Equal_int b1 o1 xs.length c1 b2 o2 ys.length c2 xs ys w (Nat.le_refl _) (Nat.le_refl _) (by omega) (by omega) (fun j hj => ?_) (fun j hj => ?_)).mono ?_
      · obtain ⟨b', off', e, _, c⟩ := hc1 j hj
        obtain ⟨rfl, rfl⟩ : b1 = b' ∧ o1 = off' := by simpa using e
        rw [c, List.getD_eq_getElem?_getD, List.getElem?_eq_getElem hj]; rfl
      · obtain ⟨b', off', e, _, c⟩ := hc2 j hj
        obtain ⟨rfl, rfl⟩ : b2 = b' ∧ o2 = off' := by simpa using e
        rw [c, List.getD_eq_getElem?_getD, List.getElem?_eq_getElem hj]; rfl
      · rintro e w' ⟨rfl, q, rfl⟩
        refine ⟨?_, below_drewN (Below.refl _ _) q⟩
        rw [List.take_length, List.take_length]
        congr 2
        rw [Bool.eq_iff_iff, beq_iff_eq, decide_eq_true_eq]
  · refine (Try.slices_Equal_int_lens a1 a2 xs.length c1 ys.length c2 w hl).mono ?_
    rintro e w' ⟨rfl, rfl⟩
    refine ⟨?_, Below.refl _ _⟩
    rw [decide_eq_false (fun e => hl (by rw [e]))]
theorem same_no2 {a b : List RowD} (h : setOk a = false) : sameC a b = false := by unfold sameC; rw [h]; rfl
theorem same_no3 {a b : List RowD} (h : setOk b = false) : sameC a b = false := by unfold sameC; rw [h, Bool.and_false]; rfl
theorem same_yes {a b : List RowD} (h : setOk a = true) (h2 : setOk b = true) : sameC a b = decide (listC a = listC b) := by unfold sameC; rw [h, h2]; rfl
set_option maxHeartbeats 8000000 in
theorem impl_SetSame0 (sa sb : List RowD) (va vb : Value) (w : World) (ha : rdsL w va sa) (hb : rdsL w vb sb) (hba : IntSSB sa) (hbb : IntSSB sb) :
    Calls Try.prog 39 #[va, vb] w fun e w' => e = .returned (.bool (sameC sa sb)) ∧ Below w.heap.size w w' := by
  obtain ⟨r1, hr1⟩ : ∃ r, setOk sa = r := ⟨_, rfl⟩
  obtain ⟨r2, hr2⟩ : ∃ r, setOk sb = r := ⟨_, rfl⟩
  have HOA := hid (fun w (r : rdsL w va sa) => impl_SetOkIs sa r1 va w r hr1)
  have HOB := hid (fun w (r : rdsL w vb sb) => impl_SetOkIs sb r2 vb w r hr2)
  have HLA := hid (fun w (r : rdsL w va sa) => impl_SetList0 sa va w r hba)
  have HLB := hid (fun w (r : rdsL w vb sb) => impl_SetList0 sb vb w r hbb)
  have HN1 := hid (fun h => same_no2 (a := sa) (b := sb) h)
  have HN2 := hid (fun h => same_no3 (a := sa) (b := sb) h)
  have HY := hid (fun h h2 => same_yes (a := sa) (b := sb) h h2)
  have HRA := hid ha
  have HRB := hid hb
  have HR1 := hid hr1
  have HR2 := hid hr2
  obtain ⟨a, cap, rfl, -, -, -⟩ := ss_open ha
  obtain ⟨a2, cap2, rfl, -, -, -⟩ := ss_open hb
  generalize sameC sa sb = A at *
  clear ha hb hr1 hr2 hba hbb
  go_enter Try.func39, Try.ntmps39
  go_wp2_with fail
  refine (HOA.out _ HRA.out).mono ?_
  rintro e w2 ⟨rfl, b2⟩
  have HB2 := hid b2
  clear b2 HOA
  cases r1 with
  | false =>
    have Hx := hid (HN1.out HR1.out)
    clear HN1 HN2 HY HR1 HR2 HOB HLA HLB
    go_wp2
    go_ret
    exact ⟨ret_bool Hx.out.symm, HB2.out⟩
  | true =>
  go_wp2_with fail
  refine (HOB.out _ (rdsL.below HRB.out HB2.out)).mono ?_
  rintro e w3 ⟨rfl, b3⟩
  have HB3 := hid (HB2.out.trans (b3.mono HB2.out.size))
  clear HB2 b3 HOB
  cases r2 with
  | false =>
    have Hx := hid (HN2.out HR2.out)
    clear HN1 HN2 HY HR1 HR2 HLA HLB
    go_wp2
    go_ret
    exact ⟨ret_bool Hx.out.symm, HB3.out⟩
  | true =>
  have HE := hid (HY.out HR1.out HR2.out)
  clear HN1 HN2 HY HR1 HR2
  generalize listC sa = xs at *
  generalize listC sb = ys at *
  go_wp2_with fail
  refine (HLA.out _ (rdsL.below HRA.out HB3.out)).mono ?_
  rintro e w4 ⟨u4, rfl, o4, b4⟩
  obtain ⟨p4, c4, rfl, -, -⟩ := owns_form o4
  have HF4 := hid (Flat.of_owns o4)
  have HB4 := hid (HB3.out.trans (b4.mono HB3.out.size))
  clear o4 b4 HB3 HLA
  go_wp2_with fail
  refine (HLB.out _ (rdsL.below HRB.out HB4.out)).mono ?_
  rintro e w5 ⟨u5, rfl, o5, b5⟩
  obtain ⟨p5, c5, rfl, -, -⟩ := owns_form o5
  have HEQ := hid (impl_Equal xs ys (.slice p4 xs.length c4) (.slice p5 ys.length c5) w5 (Flat.below HF4.out b5) (Flat.of_owns o5))
  have HB5 := hid (HB4.out.trans (b5.mono HB4.out.size))
  clear o5 b5 HB4 HF4 HLB
  go_wp2_with fail
  refine HEQ.out.mono ?_
  rintro e w6 ⟨rfl, b6⟩
  have HB6 := hid (HB5.out.trans (b6.mono HB5.out.size))
  rw [← HE.out]
  clear b6 HB5 HEQ
  go_wp2
  go_ret
  exact ⟨rfl, HB6.out⟩
end Go.Proofs.Ytdgmbcmgjadoiaa
