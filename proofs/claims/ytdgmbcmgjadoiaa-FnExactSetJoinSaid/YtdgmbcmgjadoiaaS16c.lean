/- Chapter 16's model: SetAdd. -/
import Derived.Test.YtdgmbcmgjadoiaaS16b
namespace Go.Proofs.Ytdgmbcmgjadoiaa
set_option maxRecDepth 100000
open Go.RowKit Go.Proofs Go.Own
open Go Go.BigFrame
set_option linter.unusedVariables false
set_option linter.unusedSimpArgs false
def lenV : Value → Nat
  | .slice _ n _ => n
  | _ => 0
theorem results_two {P : Program} {fn : Func} {p q : Tmp} (h : fn.results = #[.tmp p, .tmp q]) (tmps : Array Value) (w : World) : (results fn tmps).run P w = .ok (.tuple #[tmps.getD p undef, tmps.getD q undef]) w := by
  simp [results, h]
theorem pow2_of {s : List RowD} (h : setOk s = true) : ∃ j, s.length * 2 ^ j = 8 ∧ j + 1 ≤ 4 := by
  rcases cntOk_iff.1 (setOk_iff.1 h).1 with e | e | e | e
  · exact ⟨3, by rw [e], by omega⟩
  · exact ⟨2, by rw [e], by omega⟩
  · exact ⟨1, by rw [e], by omega⟩
  · exact ⟨0, by rw [e], by omega⟩
theorem pow2_le {n j : Nat} (h : n * 2 ^ j = 8) : 0 < n ∧ n ≤ 8 := by
  have := Nat.pow_pos (n := j) (show 0 < 2 by omega)
  constructor
  · rcases Nat.eq_zero_or_pos n with e | e
    · rw [e] at h; simp at h
    · exact e
  · rw [← h]; exact Nat.le_mul_of_pos_right n this
theorem grow_full {f : Nat} {t : List RowD} {x : Int} (h3 : (bktAt t x).length = 3) (h8 : t.length = 8) : growS (f+1) t x = none := by
  show (if _ then _ else _) = _
  rw [if_pos h3, if_pos h8]
theorem grow_more {f : Nat} {t : List RowD} {x : Int} (h3 : (bktAt t x).length = 3) (h8 : ¬ t.length = 8) : growS (f+1) t x = growS f (dblS t) x := by
  show (if _ then _ else _) = _
  rw [if_pos h3, if_neg h8]
theorem grow_room {f : Nat} {t : List RowD} {x : Int} (h3 : ¬ (bktAt t x).length = 3) : growS (f+1) t x = some t := by
  show (if _ then _ else _) = _
  rw [if_neg h3]
theorem pow2_dbl {n j : Nat} (h : n * 2 ^ j = 8) (hn : ¬ n = 8) : ∃ i, j = i + 1 ∧ 2 * n * 2 ^ i = 8 := by
  cases j with
  | zero => simp at h; exact absurd h hn
  | succ i => exact ⟨i, rfl, by rw [← h, Nat.pow_succ, Nat.mul_comm 2 n, Nat.mul_assoc, Nat.mul_comm 2 (2 ^ i)]⟩
theorem add_bad {s : List RowD} {x : Int} (h : (setOk s && isVal x) = false) : addC s x = (s, 1) := by unfold addC; rw [h]; rfl
theorem add_has {s : List RowD} {x : Int} (h : (setOk s && isVal x) = true) (h2 : hasC s x = true) : addC s x = (s, 2) := by unfold addC; rw [h, h2]; rfl
theorem add_full {s : List RowD} {x : Int} (h : (setOk s && isVal x) = true) (h2 : hasC s x = false) (h3 : growS 4 s x = none) : addC s x = (s, 3) := by unfold addC; rw [h, h2, h3]; rfl
theorem add_done {s t : List RowD} {x : Int} (h : (setOk s && isVal x) = true) (h2 : hasC s x = false) (h3 : growS 4 s x = some t) : addC s x = (putAt t x, 0) := by unfold addC; rw [h, h2, h3]; rfl
set_option maxHeartbeats 16000000 in
theorem spec_SetAdd0 (s : List RowD) (x : Int) (v : Value) (w : World) (h : rdsL w v s) (hb : IntSSB s) :
    Calls Try.prog 28 #[v, .int .i64 x] w fun e w' => ∃ u, e = .returned (.tuple #[u, .int .i64 (addC s x).2]) ∧ ownL (Rg w.heap.size w'.heap.size) w' u (addC s x).1 ∧ Below w.heap.size w w' := by
  obtain ⟨A, hA⟩ : ∃ A, addC s x = A := ⟨_, rfl⟩
  obtain ⟨r1, hr1⟩ : ∃ r, setOk s = r := ⟨_, rfl⟩
  obtain ⟨r2, hr2⟩ : ∃ r, isVal x = r := ⟨_, rfl⟩
  obtain ⟨r3, hr3⟩ : ∃ r, hasC s x = r := ⟨_, rfl⟩
  have HOK := hid (fun w (r : rdsL w v s) => spec_SetOkIs s r1 v w r hr1)
  have HHA := hid (fun w (r : rdsL w v s) => spec_SetHas0 s x v w r)
  have HCO := hid (fun w (r : rdsL w v s) => spec_l16Copy s v w r hb)
  have HV := hid (fun w => spec_l1ValueIs x r2 w hr2)
  have HR := hid h
  have hN : (allL s).length ≤ 1048576 := by rw [allL_len]; unfold IntSSB szIntSSD at hb; omega
  have HN := hid hN
  rw [hr3] at HHA
  rw [hA]
  have HA := hid hA
  have HR1 := hid hr1
  have HR2 := hid hr2
  have HR3 := hid hr3
  obtain ⟨a, cap, rfl, hl9, hm9, -⟩ := ss_open h
  clear h hb hA hr1 hr2 hr3 hN
  go_enter Try.func28, Try.ntmps28
  go_wp2_with fail
  refine (HCO.out _ HR.out).mono ?_
  rintro e w1 ⟨u1, rfl, o1, b1⟩
  obtain ⟨ua, uc, rfl, -, -⟩ := ownL_len o1
  have HO1 := hid o1
  have HB1 := hid b1
  clear o1
  go_wp2_with fail
  refine (HOK.out _ (rdsL.below HR.out HB1.out)).mono ?_
  rintro e w2 ⟨rfl, b2⟩
  have HO2 := hid ((HO1.out.keep (keep_rg b2 (Nat.le_refl _))).mono (fun b hb => (show Rg w.heap.size w2.heap.size b from ⟨hb.1, by have := hb.2; have := b2.size; omega⟩)))
  have HB2 := hid (HB1.out.trans (b2.mono HB1.out.size))
  clear HO1 HB1 b1 b2 HOK
  cases r1 with
  | false =>
    have Hx := hid (show A = (s, 1) from HA.out.symm.trans (add_bad (by rw [HR1.out]; rfl)))
    clear HA HR1 HR2 HR3 HV HHA
    go_wp2
    (refine bodyPost_ret (results_two rfl _ _) rfl ?_)
    exact ⟨_, by rw [Hx.out]; rfl, by rw [Hx.out]; exact HO2.out, HB2.out⟩
  | true =>
  go_wp2_with fail
  refine (HV.out _).mono ?_
  rintro e w2' ⟨rfl, rfl⟩
  clear HV
  cases r2 with
  | false =>
    have Hx := hid (show A = (s, 1) from HA.out.symm.trans (add_bad (by rw [HR1.out, HR2.out]; rfl)))
    clear HA HR1 HR2 HR3 HHA
    go_wp2
    (refine bodyPost_ret (results_two rfl _ _) rfl ?_)
    exact ⟨_, by rw [Hx.out]; rfl, by rw [Hx.out]; exact HO2.out, HB2.out⟩
  | true =>
  have HG := hid (show (setOk s && isVal x) = true by rw [HR1.out, HR2.out]; rfl)
  go_wp2_with fail
  refine (HHA.out _ (rdsL.below HR.out HB2.out)).mono ?_
  rintro e w3 ⟨rfl, b3⟩
  have HO3 := hid ((HO2.out.keep (keep_rg b3 (Nat.le_refl _))).mono (fun b hb => (show Rg w.heap.size w3.heap.size b from ⟨hb.1, by have := hb.2; have := b3.size; omega⟩)))
  have HB3 := hid (HB2.out.trans (b3.mono HB2.out.size))
  clear HO2 HB2 b3 HHA
  cases r3 with
  | true =>
    have Hx := hid (show A = (s, 2) from HA.out.symm.trans (add_has HG.out HR3.out))
    clear HA HR1 HR2 HR3 HG
    go_wp2
    (refine bodyPost_ret (results_two rfl _ _) rfl ?_)
    exact ⟨_, by rw [Hx.out]; rfl, by rw [Hx.out]; exact HO3.out, HB3.out⟩
  | false =>
  have HP := hid (pow2_of HR1.out)
  have HFU := hid (fun h3 => HA.out.symm.trans (add_full HG.out HR3.out h3))
  have HDN := hid (fun t h3 => HA.out.symm.trans (add_done (t := t) HG.out HR3.out h3))
  clear HA HR1 HR2 HR3 HG
  go_wp2
  go_loopw [6] (fun u wr => ∃ (t : List RowD) (f j : Nat) (ta : Option Addr) (tc : Nat), u = .slice ta t.length tc ∧ Hid (growS f t x = growS 4 s x) ∧ Hid (t.length * 2 ^ j = 8 ∧ j + 1 ≤ f) ∧ Hid ((allL t).length ≤ 1048576) ∧ Hid (ownL (Rg w.heap.size wr.heap.size) wr (.slice ta t.length tc) t) ∧ Below w.heap.size w wr) (fun u _ => 8 - lenV u)
  case atStart =>
    obtain ⟨j, hj⟩ := HP.out
    exact ⟨s, 4, j, _, _, rfl, hid rfl, hid hj, HN, HO3, HB3.out⟩
  case round =>
    clear HP HO3 HB3 HN
    obtain ⟨t, f, j, ta, tc, rfl, HGR, HPW, HNT, HO, hB⟩ := hrel
    obtain ⟨f', hf⟩ : ∃ f', f = f' + 1 := ⟨f - 1, by have := HPW.out.2; omega⟩
    have hpw := pow2_le HPW.out.1
    have hpm : t.length ≤ 1048576 := by omega
    have HB := hid hB
    have hp := plc_lt x hpw.1
    have HPL := hid (fun w => spec_l16Place x t.length hpw.1 hpm w)
    have Hbk := hid (bktAt_eq x hp)
    have HPS := hid (fun p h e => putAt_set t x p h e)
    obtain ⟨p, hpe⟩ : ∃ p, plc x t.length = p := ⟨_, rfl⟩
    rw [hpe] at HPL hp
    obtain ⟨g, c3, u, Ri, ys, hys, hv, hSg, cg, fg, oR, hRi, hst, hfin⟩ := rows_at HO.out (fun b hb => hb.2) p hp
    obtain ⟨rfl, hc39⟩ : ta = some ⟨g, 0, none⟩ ∧ tc = c3 := by simp only [Value.slice.injEq] at hv; exact ⟨hv.1, hv.2.2⟩
    obtain rfl : tc = c3 := hc39
    obtain ⟨ya, yc, rfl, _, _⟩ := ownL_len oR
    have Hb3 := hid (show (bktAt t x).length = ys.length by rw [Hbk.out]; simp only [hpe, hys])
    have HPS2 := hid (show putAt t x = t.set p ⟨putL ys x⟩ by rw [HPS.out p hp hpe, hys])
    have HRY := hid (rdsInts.1 oR.rds)
    have HYL := hid (show ys.length ≤ 1048576 by rw [← hys]; exact Nat.le_trans (bkt_len_le t p hp) HNT.out)
    have HFIN := hid hfin
    have HST := hid hst
    have hp1 : (p : Int) < (t.length : Int) := by omega
    clear hfin hst hv oR Hbk HPS hpe hys hB
    go_wp2_with fail
    refine (HPL.out _).mono ?_
    rintro e w4 ⟨rfl, rfl⟩
    by_cases h3 : (ys.length : Int) = 3
    · have h3n := hid (show (bktAt t x).length = 3 by rw [Hb3.out]; omega)
      by_cases h8 : (t.length : Int) = 8
      · have Hx := hid (HFU.out (by rw [← HGR.out, hf]; exact grow_full h3n.out (by omega)))
        clear HFU HDN HFIN HST HRY HPS2 Hb3
        go_wp2_with fail
        refine (HCO.out _ (rdsL.below HR.out HB.out)).mono ?_
        rintro e w5 ⟨u5, rfl, o5, b5⟩
        obtain ⟨va, vc, rfl, -, -⟩ := ownL_len o5
        have HO5 := hid o5
        have HB5 := hid (HB.out.trans (b5.mono HB.out.size))
        have hs := HB.out.size
        clear o5 b5 h8
        go_wp2
        (refine bodyPost_ret (results_two rfl _ _) rfl ?_)
        exact ⟨_, by rw [Hx.out]; rfl, by rw [Hx.out]; exact HO5.out.mono (fun b hb => ⟨by have := hb.1; omega, hb.2⟩), HB5.out⟩
      · obtain ⟨i, hji, hi2⟩ := pow2_dbl HPW.out.1 (by omega)
        have HGR2 := hid (show growS f' (dblS t) x = growS 4 s x by rw [← HGR.out, hf]; exact (grow_more h3n.out (by omega)).symm)
        have HPW2 := hid (show (dblS t).length * 2 ^ i = 8 ∧ i + 1 ≤ f' from ⟨by rw [dblS_len]; exact hi2, by have := HPW.out.2; omega⟩)
        have HNT2 := hid (show (allL (dblS t)).length ≤ 1048576 by rw [(dblS_perm hpw.1).length_eq]; exact HNT.out)
        have Hms := hid (dblS_len t)
        have HDB := hid (fun w v (r : rdsL w v t) => spec_l16Double t v w r hpw.1 hpw.2 HNT.out)
        have hHR := hid HO.out.rds
        clear HFU HDN HFIN HST HRY HPS2 Hb3 hi2 HO
        generalize dblS t = D at *
        go_wp2_with fail
        refine (HDB.out _ _ hHR.out).mono ?_
        rintro e w5 ⟨u5, rfl, o5, b5⟩
        obtain ⟨va, vc, rfl, -, -⟩ := ownL_len o5
        have hs := HB.out.size
        have HO5 := hid (o5.mono (fun b hb => (show Rg w.heap.size w5.heap.size b from ⟨by have := hb.1; omega, hb.2⟩)))
        have HB5 := hid (HB.out.trans (b5.mono HB.out.size))
        clear o5 b5 HDB
        go_wp2
        go_roundw
        case rel => exact ⟨D, f', i, _, _, rfl, HGR2, HPW2, HNT2, HO5, HB5.out⟩
        case measure => simp only [lenV]; show 8 - D.length < 8 - t.length; have := Hms.out; omega
    · have Hx := hid (HDN.out t (by rw [← HGR.out, hf]; exact grow_room (by rw [Hb3.out]; omega)))
      clear HFU HDN HGR HPW HNT Hb3 HO
      go_wp2_with fail
      refine (HPL.out _).mono ?_
      rintro e w4 ⟨rfl, rfl⟩
      go_wp2_with fail
      refine (spec_l16Put ys x _ _ HRY.out HYL.out).mono ?_
      rintro e w5 ⟨u5, rfl, o5, b5⟩
      obtain ⟨r5, m5, n5, rfl⟩ := owns_form3 o5
      obtain ⟨⟨y5, k5⟩, f5⟩ := HST.out w5 (ChgS.of_below b5 _)
      have O9 := HFIN.out w5 (.slice r5 m5 n5) ⟨putL ys x⟩ _ (ChgS.of_below b5 _) (ownInt_of o5) (fun b hb => .inr hb.1)
      obtain ⟨W9, hW9⟩ : ∃ X, w5.setCell ⟨g, p, none⟩ (.slice r5 m5 n5) = X := ⟨_, rfl⟩
      have hs9 : W9.heap.size = w5.heap.size := by rw [← hW9]; simp [World.setCell]
      have hs5 := b5.size
      have hsB := HB.out.size
      have HO9 : Hid (ownL (Rg w.heap.size W9.heap.size) W9 (.slice (some ⟨g, 0, none⟩) t.length tc) (putAt t x)) := by
        rw [hW9] at O9
        rw [HPS2.out]
        exact hid (O9.mono fun b hb => by
          rcases hb with h9 | h9
          · exact ⟨h9.1, by have := h9.2; omega⟩
          · exact ⟨by have := h9.1; omega, by have := h9.2; omega⟩)
      have HB9 : Hid (Below w.heap.size w W9) := by
        rw [← hW9]
        exact hid ((HB.out.trans (b5.mono HB.out.size)).setCell hSg.1 _)
      have HW9 := hid hW9
      clear hW9 O9 HFIN HST o5 b5
      go_wp2
      rw [HW9.out]
      (refine bodyPost_ret (results_two rfl _ _) rfl ?_)
      exact ⟨_, by rw [Hx.out]; rfl, by rw [Hx.out]; exact HO9.out, HB9.out⟩
end Go.Proofs.Ytdgmbcmgjadoiaa
