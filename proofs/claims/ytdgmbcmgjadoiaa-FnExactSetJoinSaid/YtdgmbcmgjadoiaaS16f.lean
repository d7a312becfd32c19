/- Chapter 16's model: SetJoin, SetSame, NewSet. -/
import Derived.Test.YtdgmbcmgjadoiaaS16e
namespace Go.Proofs.Ytdgmbcmgjadoiaa
set_option maxRecDepth 100000
open Go.RowKit Go.Proofs Go.Own
open Go Go.BigFrame
set_option linter.unusedVariables false
set_option linter.unusedSimpArgs false
theorem growS_bound : ∀ (f : Nat) (s : List RowD) (x : Int) (t : List RowD) (j : Nat), s.length * 2 ^ j = 8 → growS f s x = some t → t.length ≤ 8 ∧ 0 < t.length ∧ (allL t).length = (allL s).length
  | 0, s, x, t, j, _, h => by cases h
  | f+1, s, x, t, j, hj, h => by
    have hp := pow2_le hj
    by_cases h3 : (bktAt s x).length = 3
    · by_cases h8 : s.length = 8
      · rw [grow_full h3 h8] at h; cases h
      · rw [grow_more h3 h8] at h
        obtain ⟨i, _, hi⟩ := pow2_dbl hj h8
        have := growS_bound f (dblS s) x t i (by rw [dblS_len]; exact hi) h
        rw [(dblS_perm hp.1).length_eq] at this
        exact this
    · rw [grow_room h3] at h
      obtain rfl := Option.some.inj h
      exact ⟨hp.2, hp.1, rfl⟩
theorem add_bound (s : List RowD) (x : Int) (h8 : s.length ≤ 8) : (addC s x).1.length ≤ 8 ∧ (allL (addC s x).1).length ≤ (allL s).length + 1 := by
  obtain ⟨r, hr⟩ : ∃ r, (setOk s && isVal x) = r := ⟨_, rfl⟩
  cases r with
  | false => rw [add_bad hr]; exact ⟨h8, by dsimp only; omega⟩
  | true =>
    obtain ⟨q, hq⟩ : ∃ q, hasC s x = q := ⟨_, rfl⟩
    cases q with
    | true => rw [add_has hr hq]; exact ⟨h8, by dsimp only; omega⟩
    | false =>
      cases hg : growS 4 s x with
      | none => rw [add_full hr hq hg]; exact ⟨h8, by dsimp only; omega⟩
      | some t =>
        rw [add_done hr hq hg]
        obtain ⟨j, hj, _⟩ := pow2_of (by rw [Bool.and_eq_true] at hr; exact hr.1)
        obtain ⟨b1, b2, b3⟩ := growS_bound 4 s x t j hj hg
        refine ⟨by dsimp only; rw [putAt_len]; exact b1, ?_⟩
        dsimp only
        rw [(putAt_perm (plc_lt x b2)).length_eq, List.length_cons]; omega
theorem ok_all {s : List RowD} (h : setOk s = true) : (allL s).length ≤ 24 := by
  have h8 := (setOk_pos h).2
  have : ∀ (n b : Nat) (t : List RowD), bktsOk n b t = true → (allL t).length ≤ 3 * t.length := by
    intro n b t
    induction t generalizing b with
    | nil => intro _; simp [allL]
    | cons r rs ih =>
      intro h
      rw [bktsOk, Bool.and_eq_true] at h
      have h1 := ih _ h.2
      have h2 := (bktOk_iff.1 h.1).1
      show (r.xs_ ++ allL rs).length ≤ _
      rw [List.length_append, List.length_cons]; omega
  have h2 := this s.length 0 s (by rw [setOk, Bool.and_eq_true] at h; exact h.2)
  omega
theorem intSSB_of {s : List RowD} (h8 : s.length ≤ 8) (hN : (allL s).length ≤ 1000) : IntSSB s := by
  unfold IntSSB szIntSSD; rw [← allL_len]; omega
theorem join_bad {a b : List RowD} (h : (setOk a && setOk b) = false) : joinC a b = (a, 1) := by unfold joinC; rw [h]; rfl
theorem join_full {a b : List RowD} (h : (setOk a && setOk b) = true) (h2 : joinTo a (listC b) = none) : joinC a b = (a, 3) := by unfold joinC; rw [h, h2]; rfl
theorem join_done {a b t : List RowD} (h : (setOk a && setOk b) = true) (h2 : joinTo a (listC b) = some t) : joinC a b = (t, 0) := by unfold joinC; rw [h, h2]; rfl
theorem joinTo_full {s : List RowD} {x : Int} {xs : List Int} (h : (addC s x).2 = 3) : joinTo s (x :: xs) = none := by unfold joinTo; rw [if_pos h]
theorem joinTo_next {s : List RowD} {x : Int} {xs : List Int} (h : ¬ (addC s x).2 = 3) : joinTo s (x :: xs) = joinTo (addC s x).1 xs := by conv => lhs; unfold joinTo; rw [if_neg h]
set_option maxHeartbeats 16000000 in
theorem spec_SetJoin0 (sa sb : List RowD) (va vb : Value) (w : World) (ha : rdsL w va sa) (hb : rdsL w vb sb) (hba : IntSSB sa) (hbb : IntSSB sb) :
    Calls Try.prog 36 #[va, vb] w fun e w' => ∃ u, e = .returned (.tuple #[u, .int .i64 (joinC sa sb).2]) ∧ ownL (Rg w.heap.size w'.heap.size) w' u (joinC sa sb).1 ∧ Below w.heap.size w w' := by
  obtain ⟨A, hA⟩ : ∃ A, joinC sa sb = A := ⟨_, rfl⟩
  obtain ⟨r1, hr1⟩ : ∃ r, setOk sa = r := ⟨_, rfl⟩
  obtain ⟨r2, hr2⟩ : ∃ r, setOk sb = r := ⟨_, rfl⟩
  have HOA := hid (fun w (r : rdsL w va sa) => spec_SetOkIs sa r1 va w r hr1)
  have HOB := hid (fun w (r : rdsL w vb sb) => spec_SetOkIs sb r2 vb w r hr2)
  have HCO := hid (fun w (r : rdsL w va sa) => spec_l16Copy sa va w r hba)
  have HLI := hid (fun w (r : rdsL w vb sb) => spec_SetList0 sb vb w r hbb)
  have HRA := hid ha
  have HRB := hid hb
  have HLL := hid (listC_len sb)
  rw [hA]
  have HBD := hid (fun h => hA.symm.trans (join_bad (a := sa) (b := sb) h))
  have HFU := hid (fun h h2 => hA.symm.trans (join_full (a := sa) (b := sb) h h2))
  have HDN := hid (fun h t h2 => hA.symm.trans (join_done (a := sa) (b := sb) (t := t) h h2))
  have HR1 := hid hr1
  have HR2 := hid hr2
  obtain ⟨a, cap, rfl, -, -, -⟩ := ss_open ha
  obtain ⟨a2, cap2, rfl, -, -, -⟩ := ss_open hb
  clear ha hb hA hr1 hr2 hba hbb
  go_enter Try.func36, Try.ntmps36
  go_wp2_with fail
  refine (HCO.out _ HRA.out).mono ?_
  rintro e w1 ⟨u1, rfl, o1, b1⟩
  obtain ⟨ua, uc, rfl, -, -⟩ := ownL_len o1
  have HO1 := hid o1
  have HB1 := hid b1
  clear o1
  go_wp2_with fail
  refine (HOA.out _ (rdsL.below HRA.out HB1.out)).mono ?_
  rintro e w2 ⟨rfl, b2⟩
  have HO2 := hid ((HO1.out.keep (keep_rg b2 (Nat.le_refl _))).mono (fun b hb => (show Rg w.heap.size w2.heap.size b from ⟨hb.1, by have := hb.2; have := b2.size; omega⟩)))
  have HB2 := hid (HB1.out.trans (b2.mono HB1.out.size))
  clear HO1 HB1 b1 b2 HOA
  cases r1 with
  | false =>
    have Hx := hid (HBD.out (by rw [HR1.out]; rfl))
    clear HBD HFU HDN HR1 HR2 HOB HLI HCO
    go_wp2
    (refine bodyPost_ret (results_two rfl _ _) rfl ?_)
    exact ⟨_, by rw [Hx.out]; rfl, by rw [Hx.out]; exact HO2.out, HB2.out⟩
  | true =>
  go_wp2_with fail
  refine (HOB.out _ (rdsL.below HRB.out HB2.out)).mono ?_
  rintro e w3 ⟨rfl, b3⟩
  have HO3 := hid ((HO2.out.keep (keep_rg b3 (Nat.le_refl _))).mono (fun b hb => (show Rg w.heap.size w3.heap.size b from ⟨hb.1, by have := hb.2; have := b3.size; omega⟩)))
  have HB3 := hid (HB2.out.trans (b3.mono HB2.out.size))
  clear HO2 HB2 b3 HOB
  cases r2 with
  | false =>
    have Hx := hid (HBD.out (by rw [HR1.out, HR2.out]; rfl))
    clear HBD HFU HDN HR1 HR2 HLI HCO
    go_wp2
    (refine bodyPost_ret (results_two rfl _ _) rfl ?_)
    exact ⟨_, by rw [Hx.out]; rfl, by rw [Hx.out]; exact HO3.out, HB3.out⟩
  | true =>
  have HG := hid (show (setOk sa && setOk sb) = true by rw [HR1.out, HR2.out]; rfl)
  have HFU2 := hid (fun h => HFU.out HG.out h)
  have HDN2 := hid (fun t h => HDN.out HG.out t h)
  have Ha8 := hid (setOk_pos HR1.out)
  have HaN := hid (ok_all HR1.out)
  have hL24 := hid (show (listC sb).length ≤ 24 from Nat.le_trans HLL.out (ok_all HR2.out))
  clear HBD HFU HDN HR1 HR2 HG HLL
  generalize listC sb = L at *
  go_wp2_with fail
  refine (HLI.out _ (rdsL.below HRB.out HB3.out)).mono ?_
  rintro e w4 ⟨u4, rfl, o4, b4⟩
  obtain ⟨p4, c4, rfl, -, -⟩ := owns_form o4
  have HF4 := hid (Flat.of_owns o4)
  have HO4 := hid ((HO3.out.keep (keep_rg b4 (Nat.le_refl _))).mono (fun b hb => (show Rg w.heap.size w4.heap.size b from ⟨hb.1, by have := hb.2; have := b4.size; omega⟩)))
  have HB4 := hid (HB3.out.trans (b4.mono HB3.out.size))
  obtain ⟨hl5, hm5, hci⟩ := ints_open (show Ints w4 (.slice p4 L.length c4) L from HF4.out)
  have HCI := hid hci
  clear o4 b4 hci HO3 HB3 HLI
  have hlw := hid HB4.out.size
  go_wp2
  go_loopw [8, 6] (fun i u wr => ∃ (k : Nat) (t : List RowD) (ta : Option Addr) (tc : Nat), k ≤ L.length ∧ i = .int .i64 k ∧ u = .slice ta t.length tc ∧ Hid (joinTo t (L.drop k) = joinTo sa L) ∧ Hid (t.length ≤ 8 ∧ (allL t).length ≤ 24 + k) ∧ Hid (ownL (Rg w.heap.size wr.heap.size) wr (.slice ta t.length tc) t) ∧ Below w4.heap.size w4 wr ∧ Below w.heap.size w wr) (fun i _ _ => L.length - (intOf i).toNat)
  case atStart => exact ⟨0, sa, _, _, by omega, rfl, rfl, hid (by rw [List.drop_zero]), hid ⟨Ha8.out.2, by have := HaN.out; omega⟩, HO4, Below.refl _ _, HB4.out⟩
  case round =>
    clear HO4 HB4 HF4
    obtain ⟨k, t, ta, tc, hk, rfl, rfl, HJ, HT, HO, hB4, hB⟩ := hrel
    by_cases hlt : k < L.length
    · obtain ⟨bb, off, rfl, hbs, c0⟩ := HCI.out k hlt
      have q0 := (hB4.cell (p := ⟨bb, off + k, none⟩) hbs).trans c0
      have HJ2 := hid (show joinTo t (L[k] :: L.drop (k+1)) = joinTo sa L by rw [← HJ.out, List.drop_eq_getElem_cons hlt])
      generalize L[k] = x at *
      have HAB := hid (add_bound t x HT.out.1)
      have HSA := hid (fun w v (r : rdsL w v t) => spec_SetAdd0 t x v w r (intSSB_of HT.out.1 (by have := HT.out.2; have := hL24.out; omega)))
      have HFULL := hid (fun h => joinTo_full (s := t) (x := x) (xs := L.drop (k+1)) h)
      have HNEXT := hid (fun h => joinTo_next (s := t) (x := x) (xs := L.drop (k+1)) h)
      generalize addC t x = AA at *
      obtain ⟨T2, cd⟩ := AA
      dsimp only at HAB HSA HFULL HNEXT
      have HB := hid hB
      have HB4 := hid hB4
      have HRT := hid HO.out.rds
      clear c0 HCI hB hB4 HJ HO
      go_wp2_with fail
      refine (HSA.out _ _ HRT.out).mono ?_
      rintro e w5 ⟨u5, rfl, o5, b5⟩
      obtain ⟨pa, pc, rfl, -, -⟩ := ownL_len o5
      have hsB := hid HB.out.size
      have HO5 := hid (o5.mono (fun b hb => (show Rg w.heap.size w5.heap.size b from ⟨by have := hb.1; have := hsB.out; omega, hb.2⟩)))
      have HB5 := hid (HB.out.trans (b5.mono hsB.out))
      have HB45 := hid (HB4.out.trans (b5.mono HB4.out.size))
      clear o5 b5 HSA HRT
      by_cases hc3 : cd = 3
      · have Hx := hid (HFU2.out (by rw [← HJ2.out]; exact HFULL.out hc3))
        clear HFULL HNEXT HDN2 HFU2 HJ2 HAB
        go_wp2_with fail
        refine (HCO.out _ (rdsL.below HRA.out HB5.out)).mono ?_
        rintro e w6 ⟨u6, rfl, o6, b6⟩
        obtain ⟨ya, yc, rfl, -, -⟩ := ownL_len o6
        have hs5 := hid HB5.out.size
        have HO6 := hid (o6.mono (fun b hb => (show Rg w.heap.size w6.heap.size b from ⟨by have := hb.1; have := hs5.out; omega, hb.2⟩)))
        have HB6 := hid (HB5.out.trans (b6.mono HB5.out.size))
        clear o6 b6
        go_wp2
        (refine bodyPost_ret (results_two rfl _ _) rfl ?_)
        exact ⟨_, by rw [Hx.out]; rfl, by rw [Hx.out]; exact HO6.out, HB6.out⟩
      · have HJ3 := hid (show joinTo T2 (L.drop (k+1)) = joinTo sa L by rw [← HJ2.out]; exact (HNEXT.out hc3).symm)
        clear HFULL HNEXT HDN2 HFU2 HJ2
        go_wp2
        go_roundw
        case rel => exact ⟨k+1, T2, _, _, by omega, by go_num, rfl, HJ3, hid ⟨HAB.out.1, by have := HAB.out.2; have := HT.out.2; omega⟩, HO5, HB45.out, HB5.out⟩
        case measure => simp [intOf]; omega
    · obtain rfl : k = L.length := by omega
      have Hx := hid (HDN2.out t (by rw [← HJ.out, List.drop_length]; rfl))
      have HB := hid hB
      clear hB hB4 HCI HJ HDN2 HFU2
      go_wp2
      (refine bodyPost_ret (results_two rfl _ _) rfl ?_)
      exact ⟨_, by rw [Hx.out]; rfl, by rw [Hx.out]; exact HO.out, HB.out⟩
end Go.Proofs.Ytdgmbcmgjadoiaa
