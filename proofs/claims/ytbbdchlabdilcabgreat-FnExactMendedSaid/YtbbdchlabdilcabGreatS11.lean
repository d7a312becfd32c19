/- Chapter 11's model: the log. -/
import Derived.Test.YtbbdchlabdilcabGreatM6
import Derived.Test.YtbbdchlabdilcabGreatS10
import Derived.StillTailTactics
namespace Go.Proofs.YtbbdchlabdilcabGreat
set_option maxRecDepth 100000
open Go.RowKit Go.Proofs Go.Own
open Go Go.BigFrame
set_option linter.unusedVariables false
set_option linter.unusedSimpArgs false
theorem infoInt11 : (Tryz.prog.info? 3).map (fun i => (i.zero, i.size, i.bytes)) = some (some (.int .i64 0), 1, 8) := by kernel_rfl
set_option maxHeartbeats 16000000 in
theorem spec_l11Log0 (d : WorldD) (v0 v1 v2 v3 v4 : Value) (w : World) (h0 : rdsL w v0 d.first_) (h1 : rdsL w v1 d.store_.heads_) (h2 : rdsL w v2 d.store_.descs_) (h3 : rdsL w v3 d.threads_) (h4 : rdsL w v4 d.log_) (hb : WorldB d) :
    Calls Tryz.prog 38 #[.agg #[v0, v1, v2, v3, v4]] w fun e w' => e = .returned (.bool (logOk d.log_ d.store_.descs_ d.first_.length d.threads_.length)) ∧ Below w.heap.size w w' := by
  obtain ⟨fs, ⟨hs, ds⟩, ts, lg⟩ := d
  dsimp only at h0 h1 h2 h3 h4 ⊢
  have hlg : lg.length ≤ 1048576 := by unfold WorldB szWorldD szStoreD at hb; dsimp only at hb; omega
  have hds : ds.length ≤ 1048576 := by unfold WorldB szWorldD szStoreD szD at hb; dsimp only at hb; omega
  obtain ⟨a0, cap0, rfl, hl0, hm0, -⟩ := rdsL_open h0
  obtain ⟨a1, cap1, rfl, -, -, -⟩ := rdsL_open h1
  obtain ⟨a2, cap2, rfl, hl2, hm2, hc2⟩ := rdsL_open h2
  obtain ⟨a3, cap3, rfl, hl3, hm3, -⟩ := rdsL_open h3
  obtain ⟨a4, cap4, rfl, hl4, hm4, hc4⟩ := rdsL_open h4
  have HC2 := hid hc2
  have HC4 := hid hc4
  have hlf : fs.length ≤ 9223372036854775807 := by omega
  have hlt_ : ts.length ≤ 9223372036854775807 := by omega
  clear h0 h1 h2 h3 h4 hc2 hc4 hb
  obtain ⟨i0, hi, hz0, hz1, hz2⟩ := info_parts infoInt11
  obtain ⟨W1, hW1⟩ : ∃ X, w.alloc (.cells #[Value.slice a0 fs.length cap0, Value.slice a1 hs.length cap1, Value.slice a2 ds.length cap2, Value.slice a3 ts.length cap3, Value.slice a4 lg.length cap4] 41) = X := ⟨_, rfl⟩
  have hB1 : Below w.heap.size w W1 := by rw [← hW1]; exact (Below.refl _ _).alloc (Nat.le_refl _) _
  have bw : Box W1 w.heap.size [Value.slice a0 fs.length cap0, Value.slice a1 hs.length cap1, Value.slice a2 ds.length cap2, Value.slice a3 ts.length cap3, Value.slice a4 lg.length cap4] := by rw [← hW1]; exact Box.alloc _ _ _
  have hN := bw.1
  have k2 : W1.cell? ⟨w.heap.size, 2, none⟩ = some (Value.slice a2 ds.length cap2) := bw.2 2 (by simp)
  have BW := hid bw
  have Hu := hid (show logOk lg ds fs.length ts.length = (lg.all (evOk fs.length ds.length ts.length) && (List.range ds.length).all (cntAt lg ds) && decide ((lg.length : Int) ≤ 3000)) from rfl)
  generalize hres : logOk lg ds fs.length ts.length = R at *
  clear bw hres
  go_enter Tryz.func38, Tryz.ntmps38
  go_wp2_with (at_make; refine wpList_make_full _ rfl _ _ 22 rfl (W1.heap.size) 3 i0 (.int .i64 0) 1 Tryz.underlying22 hi hz0 hz1 _ _ _ _ ds.length rfl rfl rfl rfl (by rw [hz2]; omega) (by unfold maxLen; omega) (Nat.le_refl _) ?_)
  intro w1 hown hgrow
  have hB := (Below.refl W1.heap.size W1).grown hgrow (Nat.le_refl _) (by simp)
  have hO : w1.ownsRow W1.heap.size 3 1 (.slice (some ⟨W1.heap.size, 0, none⟩) ds.length ds.length) ds.length ((cntRow lg 0 ds.length).flatMap encI) := by
    rw [cntRow_zero, encI_map, List.map_replicate]; have z := hown; rw [toList_madeCells_one] at z; exact z
  clear hown hgrow hW1 k2
  go_wp2
  go_loopw [4] (fun i wr => ∃ j : Nat, j ≤ lg.length ∧ i = .int .i64 j ∧ Same ((lg.drop j).all (evOk fs.length ds.length ts.length)) (lg.all (evOk fs.length ds.length ts.length)) ∧ Hid (wr.ownsRow W1.heap.size 3 1 (.slice (some ⟨W1.heap.size, 0, none⟩) ds.length ds.length) ds.length ((cntRow lg j ds.length).flatMap encI)) ∧ Below W1.heap.size W1 wr) (fun i _ => lg.length - (intOf i).toNat)
  case atStart => exact ⟨0, by omega, rfl, .rfl, hid hO, hB⟩
  case round =>
    clear hO hB
    obtain ⟨j, hj, rfl, hS, HO, hB⟩ := hrel
    have hBr : Below w.heap.size w wr := hB1.trans (hB.mono hB1.size)
    have q0 : wr.cell? ⟨w.heap.size, 0, none⟩ = some (Value.slice a0 fs.length cap0) := (hB.cell (p := ⟨w.heap.size, 0, none⟩) hN).trans (BW.out.2 0 (by simp))
    have q2 : wr.cell? ⟨w.heap.size, 2, none⟩ = some (Value.slice a2 ds.length cap2) := (hB.cell (p := ⟨w.heap.size, 2, none⟩) hN).trans (BW.out.2 2 (by simp))
    have q3 : wr.cell? ⟨w.heap.size, 3, none⟩ = some (Value.slice a3 ts.length cap3) := (hB.cell (p := ⟨w.heap.size, 3, none⟩) hN).trans (BW.out.2 3 (by simp))
    have q4 : wr.cell? ⟨w.heap.size, 4, none⟩ = some (Value.slice a4 lg.length cap4) := (hB.cell (p := ⟨w.heap.size, 4, none⟩) hN).trans (BW.out.2 4 (by simp))
    have hNr : w.heap.size < wr.heap.size := Nat.lt_of_lt_of_le hN hB.size
    by_cases hlt : j < lg.length
    · obtain ⟨bb, off, cs, rfl, hbs, hel, hcell⟩ := HC4.out j hlt
      have hel : cs = Event.enc lg[j] := hel
      subst hel
      have hst := hid (all_step (evOk fs.length ds.length ts.length) lg j hlt)
      have hsame := hid (fun hk => cntRow_same lg j ds.length hlt hk)
      have hset := hid (fun o hk ho => cntRow_set lg j ds.length o hlt hk ho)
      obtain ⟨D, hD⟩ : ∃ D, lg[j] = D := ⟨_, rfl⟩
      have c0 : w.cell? ⟨bb, off + j * 4, none⟩ = some (.int .i64 lg[j].kind_) := hcell 0 (show 0 < 4 by omega)
      have c1 : w.cell? ⟨bb, off + j * 4 + 1, none⟩ = some (.int .i64 lg[j].thread_) := hcell 1 (show 1 < 4 by omega)
      have c2 : w.cell? ⟨bb, off + j * 4 + 2, none⟩ = some (.int .i64 lg[j].object_) := hcell 2 (show 2 < 4 by omega)
      have c3 : w.cell? ⟨bb, off + j * 4 + 3, none⟩ = some (.int .i64 lg[j].value_) := hcell 3 (show 3 < 4 by omega)
      have e0 := (hBr.cell (p := ⟨bb, off + j * 4, none⟩) hbs).trans c0
      have e1 := (hBr.cell (p := ⟨bb, off + j * 4 + 1, none⟩) hbs).trans c1
      have e2 := (hBr.cell (p := ⟨bb, off + j * 4 + 2, none⟩) hbs).trans c2
      have e3 := (hBr.cell (p := ⟨bb, off + j * 4 + 3, none⟩) hbs).trans c3
      rw [hD] at e0 e1 e2 e3 hst hsame hset
      clear c0 c1 c2 c3 hcell HC4 hD
      obtain ⟨kd, th, ob, va⟩ := D
      dsimp only at e0 e1 e2 e3 hsame hset
      obtain ⟨V, hV⟩ : ∃ X, wr.alloc (.cells #[.int .i64 kd, .int .i64 th, .int .i64 ob, .int .i64 va] 96) = X := ⟨_, rfl⟩
      have hBV : Below wr.heap.size wr V := by rw [← hV]; exact (Below.refl _ _).alloc (Nat.le_refl _) _
      have bv : BoxF V wr.heap.size [.int .i64 kd, .int .i64 th, .int .i64 ob, .int .i64 va] := by rw [← hV]; exact BoxF.alloc _ _ _
      have y0 : V.cell? ⟨wr.heap.size, 0, none⟩ = some (.int .i64 kd) := bv.1.2 0 (by simp)
      have y1 : V.cell? ⟨wr.heap.size, 1, none⟩ = some (.int .i64 th) := bv.1.2 1 (by simp)
      have y2 : V.cell? ⟨wr.heap.size, 2, none⟩ = some (.int .i64 ob) := bv.1.2 2 (by simp)
      have y3 : V.cell? ⟨wr.heap.size, 3, none⟩ = some (.int .i64 va) := bv.1.2 3 (by simp)
      have z0 := (hBV.cell (p := ⟨w.heap.size, 0, none⟩) hNr).trans q0
      have z2 := (hBV.cell (p := ⟨w.heap.size, 2, none⟩) hNr).trans q2
      have z3 := (hBV.cell (p := ⟨w.heap.size, 3, none⟩) hNr).trans q3
      have HBV := hid (hBr.trans (hBV.mono hBr.size))
      have HB2 := hid (hB.trans (hBV.mono hB.size))
      have HOV := hid (owns_below HO.out hBV)
      clear bv HO
      have hu := hid (show R = (((lg.drop j).all (evOk fs.length ds.length ts.length)) && (List.range ds.length).all (cntAt lg ds) && decide ((lg.length : Int) ≤ 3000)) by rw [hS.out]; exact Hu.out)
      have Hev := hid (show evOk fs.length ds.length ts.length ⟨kd, th, ob, va⟩ = ((inB kd 1 6 && inB th 0 ((ts.length : Int) - 1)) && ((!(kd == 1) || (inB ob 0 ((fs.length : Int) - 1) && isVal va)) && (!(kd == 3) || inB ob 0 ((ds.length : Int) - 1)))) from rfl)
      cases g1 : inB kd 1 6 with
      | false =>
        have Hn := hid (show (lg.drop j).all (evOk fs.length ds.length ts.length) = false by rw [hst.out, Hev.out, g1]; rfl)
        (go_wp2_with (first | (go_at_call 36; refine (spec_l1In _ _ _ _).mono ?_; rintro e w' ⟨rfl, rfl⟩) | (go_at_call 67; refine (spec_l1Value _ _).mono ?_; rintro e w' ⟨rfl, rfl⟩)); go_ret; exact ⟨ret_bool (by rw [hu.out, Hn.out]; rfl), HBV.out⟩)
      | true =>
      cases g2 : inB th 0 ((ts.length : Int) - 1) with
      | false =>
        have Hn := hid (show (lg.drop j).all (evOk fs.length ds.length ts.length) = false by rw [hst.out, Hev.out, g1, g2]; rfl)
        (go_wp2_with (first | (go_at_call 36; refine (spec_l1In _ _ _ _).mono ?_; rintro e w' ⟨rfl, rfl⟩) | (go_at_call 67; refine (spec_l1Value _ _).mono ?_; rintro e w' ⟨rfl, rfl⟩)); go_ret; exact ⟨ret_bool (by rw [hu.out, Hn.out]; rfl), HBV.out⟩)
      | true =>
      by_cases k1 : kd = 1
      · subst k1
        have Hnr := hid (hsame.out rfl)
        cases g3 : inB ob 0 ((fs.length : Int) - 1) with
        | false =>
          have Hn := hid (show (lg.drop j).all (evOk fs.length ds.length ts.length) = false by rw [hst.out, Hev.out, g1, g2, g3]; rfl)
          (go_wp2_with (first | (go_at_call 36; refine (spec_l1In _ _ _ _).mono ?_; rintro e w' ⟨rfl, rfl⟩) | (go_at_call 67; refine (spec_l1Value _ _).mono ?_; rintro e w' ⟨rfl, rfl⟩)); go_ret; exact ⟨ret_bool (by rw [hu.out, Hn.out]; rfl), HBV.out⟩)
        | true =>
        cases g4 : isVal va with
        | false =>
          have Hn := hid (show (lg.drop j).all (evOk fs.length ds.length ts.length) = false by rw [hst.out, Hev.out, g1, g2, g3, g4]; rfl)
          (go_wp2_with (first | (go_at_call 36; refine (spec_l1In _ _ _ _).mono ?_; rintro e w' ⟨rfl, rfl⟩) | (go_at_call 67; refine (spec_l1Value _ _).mono ?_; rintro e w' ⟨rfl, rfl⟩)); go_ret; exact ⟨ret_bool (by rw [hu.out, Hn.out]; rfl), HBV.out⟩)
        | true =>
        have Hn := hid (show Same ((lg.drop (j+1)).all (evOk fs.length ds.length ts.length)) (lg.all (evOk fs.length ds.length ts.length)) from .mk (by rw [← hS.out, hst.out, Hev.out, g1, g2, g3, g4]; simp))
        clear hst hu Hev hS hset hsame
        go_wp2_with (first | (go_at_call 36; refine (spec_l1In _ _ _ _).mono ?_; rintro e w' ⟨rfl, rfl⟩) | (go_at_call 67; refine (spec_l1Value _ _).mono ?_; rintro e w' ⟨rfl, rfl⟩))
        go_roundw
        case rel => exact ⟨j+1, by omega, by go_num, Hn.out, hid (by rw [Hnr.out]; exact HOV.out), HB2.out⟩
        case measure => simp [intOf]; omega
      by_cases k3 : kd = 3
      · subst k3
        cases g5 : inB ob 0 ((ds.length : Int) - 1) with
        | false =>
          have Hn := hid (show (lg.drop j).all (evOk fs.length ds.length ts.length) = false by rw [hst.out, Hev.out, g1, g2, g5]; simp)
          (go_wp2_with (first | (go_at_call 36; refine (spec_l1In _ _ _ _).mono ?_; rintro e w' ⟨rfl, rfl⟩) | (go_at_call 67; refine (spec_l1Value _ _).mono ?_; rintro e w' ⟨rfl, rfl⟩)); go_ret; exact ⟨ret_bool (by rw [hu.out, Hn.out]; rfl), HBV.out⟩)
        | true =>
        have Hn := hid (show Same ((lg.drop (j+1)).all (evOk fs.length ds.length ts.length)) (lg.all (evOk fs.length ds.length ts.length)) from .mk (by rw [← hS.out, hst.out, Hev.out, g1, g2, g5]; simp))
        have ho : 0 ≤ ob ∧ ob ≤ (ds.length : Int) - 1 := by simpa [inB] using g5
        obtain ⟨o, rfl⟩ := Int.eq_ofNat_of_zero_le ho.1
        have hom : o < ds.length := by omega
        have Hnr := hid (hset.out o rfl rfl)
        have r0 : V.cell? ⟨W1.heap.size, o, none⟩ = some (.int .i64 (cntEv (lg.take j) o)) := by
          rw [HOV.out.cellAt o (by omega), encI_get _ o (by rw [cntRow_len]; exact hom), cntRow_get _ _ _ _ hom]
        have r1 : V.frozen? ⟨W1.heap.size, o, none⟩ = false := HOV.out.frozenAt o
        have hcl : cntEv (lg.take j) o ≤ 1048576 := by have := cntEv_le (lg.take j) o; rw [List.length_take] at this; omega
        generalize cntEv (lg.take j) o = c at *
        have hc1 : (c : Int) + 1 ≤ 1048577 := by omega
        obtain ⟨V2, hV2⟩ : ∃ X, V.setCell ⟨W1.heap.size, o, none⟩ (.int .i64 ((c : Int) + 1)) = X := ⟨_, rfl⟩
        have HOV2 := hid (show V2.ownsRow W1.heap.size 3 1 (.slice (some ⟨W1.heap.size, 0, none⟩) ds.length ds.length) ds.length ((cntRow lg (j+1) ds.length).flatMap encI) by
          have z := owns_put HOV.out o (.int .i64 ((c : Int) + 1))
          rw [encI_set, Hnr.out, hV2] at z; exact z)
        have HB3 := hid (show Below W1.heap.size W1 V2 by rw [← hV2]; exact HB2.out.setCell (Nat.le_refl _) _)
        have HV2 := hid hV2
        clear hst hu Hev hS hset hsame HOV hV2
        go_wp2_with (first | (go_at_call 36; refine (spec_l1In _ _ _ _).mono ?_; rintro e w' ⟨rfl, rfl⟩) | (go_at_call 67; refine (spec_l1Value _ _).mono ?_; rintro e w' ⟨rfl, rfl⟩))
        go_region
        all_goals go_wp2
        all_goals rw [HV2.out]
        all_goals go_roundw
        case rel => exact ⟨j+1, by omega, by go_num, Hn.out, hid (owns_below HOV2.out (Below.refl _ _).drew), HB3.out.drew⟩
        case measure => simp [intOf]; omega
      have k1' : (kd == 1) = false := by simpa using k1
      have k3' : (kd == 3) = false := by simpa using k3
      have Hnr := hid (hsame.out k3')
      have Hn := hid (show Same ((lg.drop (j+1)).all (evOk fs.length ds.length ts.length)) (lg.all (evOk fs.length ds.length ts.length)) from .mk (by rw [← hS.out, hst.out, Hev.out, g1, g2, k1', k3']; simp))
      clear hst hu Hev hS hset hsame k1 k3
      go_wp2_with (first | (go_at_call 36; refine (spec_l1In _ _ _ _).mono ?_; rintro e w' ⟨rfl, rfl⟩) | (go_at_call 67; refine (spec_l1Value _ _).mono ?_; rintro e w' ⟨rfl, rfl⟩))
      go_roundw
      case rel => exact ⟨j+1, by omega, by go_num, Hn.out, hid (by rw [Hnr.out]; exact HOV.out), HB2.out⟩
      case measure => simp [intOf]; omega
    · obtain rfl : j = lg.length := by omega
      have hall := hid (show R = ((List.range ds.length).all (cntAt lg ds) && decide ((lg.length : Int) ≤ 3000)) by rw [Hu.out, ← hS.out, List.drop_length]; rfl)
      have HO2 := hid (show wr.ownsRow W1.heap.size 3 1 (.slice (some ⟨W1.heap.size, 0, none⟩) ds.length ds.length) ds.length ((cntRow lg lg.length ds.length).flatMap encI) from HO.out)
      clear hS Hu HO HC4
      go_wp2
      go_loopw [6] (fun i w9 => w9 = wr ∧ ∃ k : Nat, k ≤ ds.length ∧ i = .int .i64 k ∧ Same (((List.range ds.length).drop k).all (cntAt lg ds)) ((List.range ds.length).all (cntAt lg ds))) (fun i _ => ds.length - (intOf i).toNat)
      case atStart => exact ⟨rfl, 0, by omega, rfl, .rfl⟩
      case round =>
        obtain ⟨hw9, k, hk, rfl, hS⟩ := hrel
        have hw9 := hw9.symm
        subst hw9
        by_cases hlk : k < ds.length
        · have hst := hid (all_step (cntAt lg ds) (List.range ds.length) k (by rw [List.length_range]; exact hlk))
          rw [List.getElem_range, cntAt_of lg ds k hlk] at hst
          obtain ⟨b2, of2, cs2, rfl, hbs2, ⟨v2, rfl, h2⟩, hcell2⟩ := HC2.out k hlk
          have c1 : w.cell? ⟨b2, of2 + k * 3 + 1, none⟩ = some (.int .i64 ds[k].status_) := hcell2 1 (show 1 < 3 by omega)
          have e1 := (hBr.cell (p := ⟨b2, of2 + k * 3 + 1, none⟩) hbs2).trans c1
          have r0 : wr.cell? ⟨W1.heap.size, k, none⟩ = some (.int .i64 (cntEv lg k)) := by
            rw [HO2.out.cellAt k (by omega), encI_get _ k (by rw [cntRow_len]; exact hlk), cntRow_get _ _ _ _ hlk, List.take_length]
          have hu := hid (show R = ((((List.range ds.length).drop k).all (cntAt lg ds)) && decide ((lg.length : Int) ≤ 3000)) by rw [hall.out, hS.out])
          generalize ds[k].status_ = s at *
          generalize cntEv lg k = c at *
          have HBr := hid hBr
          clear c1 hcell2 HC2 h2
          by_cases hs1 : s = 1
          · subst hs1
            by_cases hc : (c : Int) = 1
            · have Hn := hid (show Same (((List.range ds.length).drop (k+1)).all (cntAt lg ds)) ((List.range ds.length).all (cntAt lg ds)) from .mk (by rw [← hS.out, hst.out, hc]; rfl))
              rw [hc] at r0
              clear hst hu hS
              go_wp2
              go_roundw
              case rel => exact ⟨by first | rfl | trivial, k+1, by omega, by go_num, Hn.out⟩
              case measure => simp [intOf]; omega
            · have Hn := hid (show ((List.range ds.length).drop k).all (cntAt lg ds) = false by rw [hst.out]; simp [hc])
              clear hst hS
              go_wp2
              go_ret
              exact ⟨ret_bool (by rw [hu.out, Hn.out]; rfl), HBr.out⟩
          · have hs1' : (s == 1) = false := by simpa using hs1
            by_cases hc : (c : Int) = 0
            · have Hn := hid (show Same (((List.range ds.length).drop (k+1)).all (cntAt lg ds)) ((List.range ds.length).all (cntAt lg ds)) from .mk (by rw [← hS.out, hst.out, hc, hs1']; rfl))
              rw [hc] at r0
              clear hst hu hS
              go_wp2
              go_roundw
              case rel => exact ⟨by first | rfl | trivial, k+1, by omega, by go_num, Hn.out⟩
              case measure => simp [intOf]; omega
            · have Hn := hid (show ((List.range ds.length).drop k).all (cntAt lg ds) = false by rw [hst.out, hs1']; simp; omega)
              clear hst hS
              go_wp2
              go_ret
              exact ⟨ret_bool (by rw [hu.out, Hn.out]; rfl), HBr.out⟩
        · obtain rfl : k = ds.length := by omega
          have hu := hid (show R = decide ((lg.length : Int) ≤ 3000) by rw [hall.out, ← hS.out, List.drop_eq_nil_of_le (by rw [List.length_range]; omega)]; rfl)
          have HBr := hid hBr
          clear hS hall HO2 HC2
          by_cases h3 : (lg.length : Int) ≤ 3000
          · go_wp2
            go_ret
            exact ⟨ret_bool (by rw [hu.out, decide_eq_true h3]), HBr.out⟩
          · go_wp2
            go_ret
            exact ⟨ret_bool (by rw [hu.out, decide_eq_false (by omega)]), HBr.out⟩
end Go.Proofs.YtbbdchlabdilcabGreat
