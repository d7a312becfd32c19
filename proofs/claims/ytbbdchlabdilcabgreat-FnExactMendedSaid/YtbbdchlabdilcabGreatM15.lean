/- Chapter 11's model: WorldOk. (printed by tools/mk_s11.py) -/
import Derived.Test.YtbbdchlabdilcabGreatS11
import Derived.Test.YtbbdchlabdilcabGreatM9
import Derived.Test.YtbbdchlabdilcabGreatM14
import Derived.Test.YtbbdchlabdilcabGreatS8a
import Derived.Test.YtbbdchlabdilcabGreatM4
import Derived.StillTailTactics
namespace Go.Proofs.YtbbdchlabdilcabGreat
set_option maxRecDepth 100000
open Go.RowKit Go.Proofs Go.Own
open Go Go.BigFrame
set_option linter.unusedVariables false
set_option linter.unusedSimpArgs false
theorem spec_ThreadOkIs (s : StoreD) (t : ThreadD) (v0 v1 v2 v3 v4 : Value) (r : Bool) (w : World) (h0 : rdsL w v0 s.heads_) (h1 : rdsL w v1 s.descs_) (h2 : rdsL w v2 t.prog_) (h3 : rdsL w v3 t.open_) (h4 : rdsL w v4 t.stack_) (e : threadOk s t = r) :
    Calls Tryz.prog 37 #[.agg #[v0, v1], .agg #[.int .i64 t.id_, v2, .int .i64 t.at_, .int .i64 t.reg0_, .int .i64 t.reg1_, .int .i64 t.reg2_, .int .i64 t.reg3_, v3, .int .i64 t.check_, v4, .int .i64 t.mine_, .int .i64 t.state_, .int .i64 t.commits_, .int .i64 t.fails_]] w fun e w' => e = .returned (.bool r) ∧ Below w.heap.size w w' := by subst e; exact spec_ThreadOk0 s t v0 v1 v2 v3 v4 w h0 h1 h2 h3 h4
set_option maxHeartbeats 16000000 in
theorem spec_WorldOk0 (d : WorldD) (v0 v1 v2 v3 v4 : Value) (w : World) (h0 : rdsL w v0 d.first_) (h1 : rdsL w v1 d.store_.heads_) (h2 : rdsL w v2 d.store_.descs_) (h3 : rdsL w v3 d.threads_) (h4 : rdsL w v4 d.log_) (hb : WorldB d) :
    Calls Tryz.prog 17 #[.agg #[v0, v1, v2, v3, v4]] w fun e w' => e = .returned (.bool (worldOk d)) ∧ Below w.heap.size w w' := by
  obtain ⟨fs, ⟨hs, ds⟩, ts, lg⟩ := d
  dsimp only at h0 h1 h2 h3 h4 ⊢
  obtain ⟨a0, cap0, rfl, hl0, hm0, -⟩ := rdsL_open h0
  obtain ⟨a1, cap1, rfl, hl1, hm1, -⟩ := rdsL_open h1
  obtain ⟨a2, cap2, rfl, hl2, hm2, hc2⟩ := rdsL_open h2
  obtain ⟨a3, cap3, rfl, hl3, hm3, hc3⟩ := rdsL_open h3
  obtain ⟨a4, cap4, rfl, hl4, hm4, hc4⟩ := rdsL_open h4
  have HC2 := hid hc2
  have HC3 := hid hc3
  have HC4 := hid hc4
  have hlf : fs.length ≤ 9223372036854775807 := by omega
  have hlh : hs.length ≤ 9223372036854775807 := by omega
  have hld : ds.length ≤ 9223372036854775807 := by omega
  have hlt_ : ts.length ≤ 9223372036854775807 := by omega
  have hll : lg.length ≤ 9223372036854775807 := by omega
  obtain ⟨W1, hW1⟩ : ∃ X, w.alloc (.cells #[Value.slice a0 fs.length cap0, Value.slice a1 hs.length cap1, Value.slice a2 ds.length cap2, Value.slice a3 ts.length cap3, Value.slice a4 lg.length cap4] 41) = X := ⟨_, rfl⟩
  have hB1 : Below w.heap.size w W1 := by rw [← hW1]; exact (Below.refl _ _).alloc (Nat.le_refl _) _
  have bw : Box W1 w.heap.size [Value.slice a0 fs.length cap0, Value.slice a1 hs.length cap1, Value.slice a2 ds.length cap2, Value.slice a3 ts.length cap3, Value.slice a4 lg.length cap4] := by rw [← hW1]; exact Box.alloc _ _ _
  have hN := bw.1
  have Hu := hid (show worldOk ⟨fs, ⟨hs, ds⟩, ts, lg⟩ = (((storeOk hs ds && ((fs.length : Int) == hs.length)) && (allIn fs (-1000000000) 1000000000 0 && inB (ts.length : Int) 1 4)) && ((List.range ts.length).all (thAt ⟨fs, ⟨hs, ds⟩, ts, lg⟩) && (ds.all (ownIn ts.length) && logOk lg ds fs.length ts.length))) from rfl)
  have Hth := hid (fun j hj => thAt_of ⟨fs, ⟨hs, ds⟩, ts, lg⟩ j hj)
  have Hlog := hid (fun w r0 r1 r2 r3 r4 => spec_l11Log0 ⟨fs, ⟨hs, ds⟩, ts, lg⟩ (Value.slice a0 fs.length cap0) (Value.slice a1 hs.length cap1) (Value.slice a2 ds.length cap2) (Value.slice a3 ts.length cap3) (Value.slice a4 lg.length cap4) w r0 r1 r2 r3 r4 hb)
  generalize worldOk ⟨fs, ⟨hs, ds⟩, ts, lg⟩ = R at *
  generalize thAt ⟨fs, ⟨hs, ds⟩, ts, lg⟩ = TF at *
  have R0 := hid h0
  have R1 := hid h1
  have R2 := hid h2
  have R3 := hid h3
  have R4 := hid h4
  have k1 : W1.cell? ⟨w.heap.size, 1, none⟩ = some (Value.slice a1 hs.length cap1) := bw.2 1 (by simp)
  have k2 : W1.cell? ⟨w.heap.size, 2, none⟩ = some (Value.slice a2 ds.length cap2) := bw.2 2 (by simp)
  have HW1 := hid hW1
  clear h0 h1 h2 h3 h4 hc2 hc3 hc4 hb hW1
  go_enter Tryz.func17, Tryz.ntmps17
  go_wp2_with fail
  rw [HW1.out]
  refine (spec_StoreOk0 hs ds _ _ _ (rdsL.below R1.out hB1) (rdsL.below R2.out hB1)).mono ?_
  rintro e w2 ⟨rfl, b2⟩
  have B2 := hB1.trans (b2.mono hB1.size)
  have bx2 := bw.below b2
  have H0 := hid (rdsL.below R0.out B2)
  have N2 := bx2.1
  have HB := hid B2
  have BX2 := hid bx2
  have x0 : w2.cell? ⟨w.heap.size, 0, none⟩ = some (Value.slice a0 fs.length cap0) := bx2.2 0 (by simp)
  have x1 : w2.cell? ⟨w.heap.size, 1, none⟩ = some (Value.slice a1 hs.length cap1) := bx2.2 1 (by simp)
  have x2 : w2.cell? ⟨w.heap.size, 2, none⟩ = some (Value.slice a2 ds.length cap2) := bx2.2 2 (by simp)
  have x3 : w2.cell? ⟨w.heap.size, 3, none⟩ = some (Value.slice a3 ts.length cap3) := bx2.2 3 (by simp)
  have x4 : w2.cell? ⟨w.heap.size, 4, none⟩ = some (Value.slice a4 lg.length cap4) := bx2.2 4 (by simp)
  clear k1 k2 bx2
  cases g1 : storeOk hs ds with
  | false =>
    have hu := Hu
    have Hn := hid g1
    go_wp2_with (first | (go_at_call 36; refine (spec_l1In _ _ _ _).mono ?_; rintro e w' ⟨rfl, rfl⟩) | (go_at_call 35; refine (spec_l1All _ fs _ _ _ (rdsInts.1 H0.out)).mono ?_; rintro e w' ⟨rfl, rfl⟩))
    (go_ret; exact ⟨ret_bool (by rw [hu.out, Hn.out]; rfl), HB.out⟩)
  | true =>
  have Hu2 := hid (show R = ((((fs.length : Int) == hs.length) && (allIn fs (-1000000000) 1000000000 0 && inB (ts.length : Int) 1 4)) && ((List.range ts.length).all TF && (ds.all (ownIn ts.length) && logOk lg ds fs.length ts.length))) by rw [Hu.out, g1]; rfl)
  by_cases g2 : (fs.length : Int) = hs.length
  case neg =>
    have Hn := hid (show (((fs.length : Int) == hs.length)) = false by simpa using g2)
    have hu := Hu2
    go_wp2_with (first | (go_at_call 36; refine (spec_l1In _ _ _ _).mono ?_; rintro e w' ⟨rfl, rfl⟩) | (go_at_call 35; refine (spec_l1All _ fs _ _ _ (rdsInts.1 H0.out)).mono ?_; rintro e w' ⟨rfl, rfl⟩))
    (go_ret; exact ⟨ret_bool (by rw [hu.out, Hn.out]; rfl), HB.out⟩)
  cases g3 : allIn fs (-1000000000) 1000000000 0 with
  | false =>
    have Hn := hid g3
    have hu := hid (show R = (allIn fs (-1000000000) 1000000000 0 && ((inB (ts.length : Int) 1 4) && ((List.range ts.length).all TF && (ds.all (ownIn ts.length) && logOk lg ds fs.length ts.length)))) by rw [Hu2.out, g3]; simp)
    go_wp2_with (first | (go_at_call 36; refine (spec_l1In _ _ _ _).mono ?_; rintro e w' ⟨rfl, rfl⟩) | (go_at_call 35; refine (spec_l1All _ fs _ _ _ (rdsInts.1 H0.out)).mono ?_; rintro e w' ⟨rfl, rfl⟩))
    (go_ret; exact ⟨ret_bool (by rw [hu.out, Hn.out]; rfl), HB.out⟩)
  | true =>
  cases g4 : inB (ts.length : Int) 1 4 with
  | false =>
    have Hn := hid g4
    have hu := hid (show R = (inB (ts.length : Int) 1 4 && ((List.range ts.length).all TF && (ds.all (ownIn ts.length) && logOk lg ds fs.length ts.length))) by rw [Hu2.out, g3, g4]; simp)
    go_wp2_with (first | (go_at_call 36; refine (spec_l1In _ _ _ _).mono ?_; rintro e w' ⟨rfl, rfl⟩) | (go_at_call 35; refine (spec_l1All _ fs _ _ _ (rdsInts.1 H0.out)).mono ?_; rintro e w' ⟨rfl, rfl⟩))
    (go_ret; exact ⟨ret_bool (by rw [hu.out, Hn.out]; rfl), HB.out⟩)
  | true =>
  have Hu3 := hid (show R = ((List.range ts.length).all TF && (ds.all (ownIn ts.length) && logOk lg ds fs.length ts.length)) by rw [Hu2.out, g3, g4, g2]; simp)
  clear Hu Hu2
  go_wp2_with (first | (go_at_call 36; refine (spec_l1In _ _ _ _).mono ?_; rintro e w' ⟨rfl, rfl⟩) | (go_at_call 35; refine (spec_l1All _ fs _ _ _ (rdsInts.1 H0.out)).mono ?_; rintro e w' ⟨rfl, rfl⟩))
  go_loopw [3] (fun i wr => ∃ j : Nat, j ≤ ts.length ∧ i = .int .i64 j ∧ Same (((List.range ts.length).drop j).all TF) ((List.range ts.length).all TF) ∧ Below w2.heap.size w2 wr) (fun i _ => ts.length - (intOf i).toNat)
  case atStart => exact ⟨0, by omega, rfl, .rfl, Below.refl _ _⟩
  case round =>
    obtain ⟨j, hj, rfl, hS, hB⟩ := hrel
    have hBr := B2.trans (hB.mono B2.size)
    have q0 := (hB.cell (p := ⟨w.heap.size, 0, none⟩) N2).trans x0
    have q1 := (hB.cell (p := ⟨w.heap.size, 1, none⟩) N2).trans x1
    have q2 := (hB.cell (p := ⟨w.heap.size, 2, none⟩) N2).trans x2
    have q3 := (hB.cell (p := ⟨w.heap.size, 3, none⟩) N2).trans x3
    have q4 := (hB.cell (p := ⟨w.heap.size, 4, none⟩) N2).trans x4
    by_cases hlt : j < ts.length
    · obtain ⟨bb, off, cs, rfl, hbs, ⟨x0, x1, x2, rfl, r0, r1, r2⟩, hcell⟩ := HC3.out j hlt
      have hst := hid (all_step TF (List.range ts.length) j (by rw [List.length_range]; exact hlt))
      rw [List.getElem_range, Hth.out j hlt] at hst
      have c0 : w.cell? ⟨bb, off + j * 14, none⟩ = some (.int .i64 ts[j].id_) := hcell 0 (show 0 < 14 by omega)
      have c1 : w.cell? ⟨bb, off + j * 14 + 1, none⟩ = some (x0) := hcell 1 (show 1 < 14 by omega)
      have c2 : w.cell? ⟨bb, off + j * 14 + 2, none⟩ = some (.int .i64 ts[j].at_) := hcell 2 (show 2 < 14 by omega)
      have c3 : w.cell? ⟨bb, off + j * 14 + 3, none⟩ = some (.int .i64 ts[j].reg0_) := hcell 3 (show 3 < 14 by omega)
      have c4 : w.cell? ⟨bb, off + j * 14 + 4, none⟩ = some (.int .i64 ts[j].reg1_) := hcell 4 (show 4 < 14 by omega)
      have c5 : w.cell? ⟨bb, off + j * 14 + 5, none⟩ = some (.int .i64 ts[j].reg2_) := hcell 5 (show 5 < 14 by omega)
      have c6 : w.cell? ⟨bb, off + j * 14 + 6, none⟩ = some (.int .i64 ts[j].reg3_) := hcell 6 (show 6 < 14 by omega)
      have c7 : w.cell? ⟨bb, off + j * 14 + 7, none⟩ = some (x1) := hcell 7 (show 7 < 14 by omega)
      have c8 : w.cell? ⟨bb, off + j * 14 + 8, none⟩ = some (.int .i64 ts[j].check_) := hcell 8 (show 8 < 14 by omega)
      have c9 : w.cell? ⟨bb, off + j * 14 + 9, none⟩ = some (x2) := hcell 9 (show 9 < 14 by omega)
      have c10 : w.cell? ⟨bb, off + j * 14 + 10, none⟩ = some (.int .i64 ts[j].mine_) := hcell 10 (show 10 < 14 by omega)
      have c11 : w.cell? ⟨bb, off + j * 14 + 11, none⟩ = some (.int .i64 ts[j].state_) := hcell 11 (show 11 < 14 by omega)
      have c12 : w.cell? ⟨bb, off + j * 14 + 12, none⟩ = some (.int .i64 ts[j].commits_) := hcell 12 (show 12 < 14 by omega)
      have c13 : w.cell? ⟨bb, off + j * 14 + 13, none⟩ = some (.int .i64 ts[j].fails_) := hcell 13 (show 13 < 14 by omega)
      have e0 := (hBr.cell (p := ⟨bb, off + j * 14, none⟩) hbs).trans c0
      have e1 := (hBr.cell (p := ⟨bb, off + j * 14 + 1, none⟩) hbs).trans c1
      have e2 := (hBr.cell (p := ⟨bb, off + j * 14 + 2, none⟩) hbs).trans c2
      have e3 := (hBr.cell (p := ⟨bb, off + j * 14 + 3, none⟩) hbs).trans c3
      have e4 := (hBr.cell (p := ⟨bb, off + j * 14 + 4, none⟩) hbs).trans c4
      have e5 := (hBr.cell (p := ⟨bb, off + j * 14 + 5, none⟩) hbs).trans c5
      have e6 := (hBr.cell (p := ⟨bb, off + j * 14 + 6, none⟩) hbs).trans c6
      have e7 := (hBr.cell (p := ⟨bb, off + j * 14 + 7, none⟩) hbs).trans c7
      have e8 := (hBr.cell (p := ⟨bb, off + j * 14 + 8, none⟩) hbs).trans c8
      have e9 := (hBr.cell (p := ⟨bb, off + j * 14 + 9, none⟩) hbs).trans c9
      have e10 := (hBr.cell (p := ⟨bb, off + j * 14 + 10, none⟩) hbs).trans c10
      have e11 := (hBr.cell (p := ⟨bb, off + j * 14 + 11, none⟩) hbs).trans c11
      have e12 := (hBr.cell (p := ⟨bb, off + j * 14 + 12, none⟩) hbs).trans c12
      have e13 := (hBr.cell (p := ⟨bb, off + j * 14 + 13, none⟩) hbs).trans c13
      have hR1 := hid (rdsL.below R1.out hBr)
      have hR2 := hid (rdsL.below R2.out hBr)
      have hT0 := hid (rdsL.below r0 hBr)
      have hT1 := hid (rdsL.below r1 hBr)
      have hT2 := hid (rdsL.below r2 hBr)
      obtain ⟨D, hD⟩ : ∃ D, ts[j] = D := ⟨_, rfl⟩
      try dsimp only at hst
      rw [hD] at hst hT0 hT1 hT2 e0 e2 e3 e4 e5 e6 e8 e10 e11 e12 e13
      have hu := hid (show R = (((List.range ts.length).drop j).all TF && (ds.all (ownIn ts.length) && logOk lg ds fs.length ts.length)) by rw [hS.out]; exact Hu3.out)
      have HB := hid hBr
      clear c0 c1 c2 c3 c4 c5 c6 c7 c8 c9 c10 c11 c12 c13 hcell HC2 HC3 HC4 r0 r1 r2 hD
      have hbbr : bb < wr.heap.size := Nat.lt_of_lt_of_le hbs hBr.size
      have hNr : w.heap.size < wr.heap.size := Nat.lt_of_lt_of_le N2 hB.size
      have f1 := Ext.cell hNr q1
      have f2 := Ext.cell hNr q2
      have f3 := Ext.cell hNr q3
      have i0 := Ext.cell hbbr e0
      have i1 := Ext.cell hbbr e1
      have i2 := Ext.cell hbbr e2
      have i3 := Ext.cell hbbr e3
      have i4 := Ext.cell hbbr e4
      have i5 := Ext.cell hbbr e5
      have i6 := Ext.cell hbbr e6
      have i7 := Ext.cell hbbr e7
      have i8 := Ext.cell hbbr e8
      have i9 := Ext.cell hbbr e9
      have i10 := Ext.cell hbbr e10
      have i11 := Ext.cell hbbr e11
      have i12 := Ext.cell hbbr e12
      have i13 := Ext.cell hbbr e13
      have q3_ := q3
      clear e0 e1 e2 e3 e4 e5 e6 e7 e8 e9 e10 e11 e12 e13
      obtain ⟨di, dp, da, d0, d1, d2, d3, dn, dc, dk, dm, dz, dq, df⟩ := D
      dsimp only at hst hT0 hT1 hT2 i0 i2 i3 i4 i5 i6 i8 i10 i11 i12 i13
      by_cases hid_ : di = (j : Int)
      · subst hid_
        have hself : (((j : Int) == (j : Int)) : Bool) = true := by simp
        cases hT : threadOk ⟨hs, ds⟩ ⟨(j : Int), dp, da, d0, d1, d2, d3, dn, dc, dk, dm, dz, dq, df⟩ with
        | false =>
          have Hn := hid (show ((List.range ts.length).drop j).all TF = false by rw [hst.out, hT, hself]; rfl)
          go_wp2
          (refine wp_region_ext wr (Below.refl _ _) (by kernel_rfl) (by kernel_rfl) ?_; (try dsimp only [List.append]); (repeat (go_big_quiet_step (first | (go_at_call 37; exact call_ext _ (spec_ThreadOkIs ⟨hs, ds⟩ ⟨(j : Int), dp, da, d0, d1, d2, d3, dn, dc, dk, dm, dz, dq, df⟩ _ _ _ _ _ _ _ (Ext.rds hR1.out _) (Ext.rds hR2.out _) (Ext.rds hT0.out _) (Ext.rds hT1.out _) (Ext.rds hT2.out _) hT))))); refine wpQuiet_nil ?_; rintro _ ⟨E, rfl⟩)
          go_wp2
          go_ret
          exact ⟨ret_bool (by rw [hu.out, Hn.out]; rfl), HB.out.trans (E.h.mono HB.out.size)⟩
        | true =>
          have Hn := hid (show Same (((List.range ts.length).drop (j+1)).all TF) ((List.range ts.length).all TF) from .mk (by rw [← hS.out, hst.out, hT, hself]; rfl))
          go_wp2
          (refine wp_region_ext wr (Below.refl _ _) (by kernel_rfl) (by kernel_rfl) ?_; (try dsimp only [List.append]); (repeat (go_big_quiet_step (first | (go_at_call 37; exact call_ext _ (spec_ThreadOkIs ⟨hs, ds⟩ ⟨(j : Int), dp, da, d0, d1, d2, d3, dn, dc, dk, dm, dz, dq, df⟩ _ _ _ _ _ _ _ (Ext.rds hR1.out _) (Ext.rds hR2.out _) (Ext.rds hT0.out _) (Ext.rds hT1.out _) (Ext.rds hT2.out _) hT))))); refine wpQuiet_nil ?_; rintro _ ⟨E, rfl⟩)
          have HB3 := hid (hB.trans (E.h.mono hB.size))
          clear hst hu hS
          go_wp2
          go_roundw
          case rel => exact ⟨j+1, by omega, by go_num, Hn.out, HB3.out⟩
          case measure => simp [intOf]; omega
      · have hself : ((di == (j : Int)) : Bool) = false := by simpa using hid_
        have Hn := hid (show ((List.range ts.length).drop j).all TF = false by rw [hst.out, hself]; rfl)
        have hbn : ((di != (j : Int)) : Bool) = true := by simpa using hid_
        clear hself
        go_wp2
        (refine wp_region_ext wr (Below.refl _ _) (by kernel_rfl) (by kernel_rfl) ?_; (try dsimp only [List.append]); (repeat (go_big_quiet_step (fail))); refine wpQuiet_nil ?_; rintro _ ⟨E, rfl⟩)
        go_wp2
        go_ret
        exact ⟨ret_bool (by rw [hu.out, Hn.out]; rfl), HB.out.trans (E.h.mono HB.out.size)⟩
    · obtain rfl : j = ts.length := by omega
      have Hu4 := hid (show R = (ds.all (ownIn ts.length) && logOk lg ds fs.length ts.length) by rw [Hu3.out, ← hS.out, List.drop_eq_nil_of_le (by rw [List.length_range]; omega)]; rfl)
      clear Hu3 hS HC3
      have NR := Nat.lt_of_lt_of_le N2 hB.size
      go_wp2
      go_loopw [4] (fun i w9 => ∃ k : Nat, k ≤ ds.length ∧ i = .int .i64 k ∧ Same ((ds.drop k).all (ownIn ts.length)) (ds.all (ownIn ts.length)) ∧ Below wr.heap.size wr w9) (fun i _ => ds.length - (intOf i).toNat)
      case atStart => exact ⟨0, by omega, rfl, .rfl, Below.refl _ _⟩
      case round =>
        obtain ⟨k, hk, rfl, hS, hB9⟩ := hrel
        have hB0 := hBr.trans (hB9.mono hBr.size)
        have y0 := (hB9.cell (p := ⟨w.heap.size, 0, none⟩) NR).trans q0
        have y1 := (hB9.cell (p := ⟨w.heap.size, 1, none⟩) NR).trans q1
        have y2 := (hB9.cell (p := ⟨w.heap.size, 2, none⟩) NR).trans q2
        have y3 := (hB9.cell (p := ⟨w.heap.size, 3, none⟩) NR).trans q3
        have y4 := (hB9.cell (p := ⟨w.heap.size, 4, none⟩) NR).trans q4
        have HB := hid hB0
        by_cases hlk : k < ds.length
        · have hst := hid (all_step (ownIn ts.length) ds k hlk)
          obtain ⟨b2, of2, cs2, rfl, hbs2, ⟨u2, rfl, z2⟩, hcell2⟩ := HC2.out k hlk
          have c0 : w.cell? ⟨b2, of2 + k * 3, none⟩ = some (.int .i64 ds[k].owner_) := hcell2 0 (show 0 < 3 by omega)
          have e0 := (hB0.cell (p := ⟨b2, of2 + k * 3, none⟩) hbs2).trans c0
          have hu := hid (show R = ((ds.drop k).all (ownIn ts.length) && logOk lg ds fs.length ts.length) by rw [hS.out]; exact Hu4.out)
          have hoi := hid (show ownIn ts.length ds[k] = decide (ds[k].owner_ < (ts.length : Int)) from rfl)
          rw [hoi.out] at hst
          generalize ds[k].owner_ = ow at *
          clear c0 hcell2 HC2 hoi z2
          by_cases ho : ow < (ts.length : Int)
          · have Hn := hid (show Same ((ds.drop (k+1)).all (ownIn ts.length)) (ds.all (ownIn ts.length)) from .mk (by rw [← hS.out, hst.out, decide_eq_true ho]; rfl))
            clear hst hu hS
            go_wp2
            go_region
            all_goals go_wp2
            all_goals go_roundw
            case rel => exact ⟨k+1, by omega, by go_num, Hn.out, hB9.drew⟩
            case measure => simp [intOf]; omega
          · have Hn := hid (show (ds.drop k).all (ownIn ts.length) = false by rw [hst.out, decide_eq_false ho]; rfl)
            clear hst hS
            go_wp2
            go_region
            all_goals go_wp2
            all_goals go_ret
            all_goals exact ⟨ret_bool (by rw [hu.out, Hn.out]; rfl), HB.out.drew⟩
        · obtain rfl : k = ds.length := by omega
          have hu := hid (show R = logOk lg ds fs.length ts.length by rw [Hu4.out, ← hS.out, List.drop_length]; rfl)
          have H1 := hid (rdsL.below R0.out hB0)
          have H2 := hid (rdsL.below R1.out hB0)
          have H3 := hid (rdsL.below R2.out hB0)
          have H4 := hid (rdsL.below R3.out hB0)
          have H5 := hid (rdsL.below R4.out hB0)
          clear hS HC2
          go_wp2_with fail
          refine (Hlog.out _ H1.out H2.out H3.out H4.out H5.out).mono ?_
          rintro e w5 ⟨rfl, b5⟩
          have HB5 := hid (hB0.trans (b5.mono hB0.size))
          go_wp2
          go_ret
          exact ⟨ret_bool hu.out.symm, HB5.out⟩
end Go.Proofs.YtbbdchlabdilcabGreat
/- Chapter 12's model: Mended. -/
namespace Go.Proofs.YtbbdchlabdilcabGreat
set_option maxRecDepth 100000
open Go.RowKit Go.Proofs Go.Own
open Go Go.BigFrame
set_option linter.unusedVariables false
set_option linter.unusedSimpArgs false
set_option maxHeartbeats 16000000 in
theorem spec_Mended0 (d : WorldD) (v0 v1 v2 v3 v4 : Value) (w : World) (h0 : rdsL w v0 d.first_) (h1 : rdsL w v1 d.store_.heads_) (h2 : rdsL w v2 d.store_.descs_) (h3 : rdsL w v3 d.threads_) (h4 : rdsL w v4 d.log_) (hb : WorldB d) :
    Calls Tryz.prog 5 #[.agg #[v0, v1, v2, v3, v4]] w fun e w' => ∃ u : Value, e = .returned (.tuple #[u, .bool (mendOk d)]) ∧ w'.ownsRow w.heap.size 3 1 u (mendC d).length ((mendC d).flatMap encI) ∧ Below w.heap.size w w' := by
  obtain ⟨j0, hj, hy0, hy1, hy2⟩ := info_parts infoInt
  obtain ⟨fs, ⟨hs, ds⟩, ts, lg⟩ := d
  have Hok := hid (fun w r0 r1 r2 r3 r4 => spec_WorldOk0 ⟨fs, ⟨hs, ds⟩, ts, lg⟩ v0 v1 v2 v3 v4 w r0 r1 r2 r3 r4 hb)
  have Hfa := hid (fun w r1 r2 => spec_FinishAll0 hs ds v1 v2 w (storeB_parts (worldB_parts hb).2.1).1 (storeB_parts (worldB_parts hb).2.1).2.1 (storeB_parts (worldB_parts hb).2.1).2.2.1 r1 r2)
  dsimp only at h0 h1 h2 h3 h4 Hok ⊢
  obtain ⟨a0, cap0, rfl, hl0, hm0, -⟩ := rdsL_open h0
  obtain ⟨a1, cap1, rfl, hl1, hm1, -⟩ := rdsL_open h1
  obtain ⟨a2, cap2, rfl, hl2, hm2, -⟩ := rdsL_open h2
  obtain ⟨a3, cap3, rfl, hl3, hm3, -⟩ := rdsL_open h3
  obtain ⟨a4, cap4, rfl, hl4, hm4, -⟩ := rdsL_open h4
  have R0 := hid h0
  have R1 := hid h1
  have R2 := hid h2
  have R3 := hid h3
  have R4 := hid h4
  have Hm := hid (show mendOk ⟨fs, ⟨hs, ds⟩, ts, lg⟩ = (worldOk ⟨fs, ⟨hs, ds⟩, ts, lg⟩ && (finAllA hs ds).b) from rfl)
  have Hc := hid (show mendC ⟨fs, ⟨hs, ds⟩, ts, lg⟩ = if mendOk ⟨fs, ⟨hs, ds⟩, ts, lg⟩ = true then valsTo (finAllA hs ds).x.1 (finAllA hs ds).x.1.length else [] from rfl)
  have Hln := hid (show (finAllA hs ds).x.1.length ≤ 1048576 from (storeB_parts (finAllB_ (worldB_parts hb).2.1)).1)
  generalize mendC ⟨fs, ⟨hs, ds⟩, ts, lg⟩ = MC at *
  generalize mendOk ⟨fs, ⟨hs, ds⟩, ts, lg⟩ = MO at *
  generalize worldOk ⟨fs, ⟨hs, ds⟩, ts, lg⟩ = R at *
  obtain ⟨XH, hXH⟩ : ∃ y, (finAllA hs ds).x.1 = y := ⟨_, rfl⟩
  obtain ⟨XD, hXD⟩ : ∃ y, (finAllA hs ds).x.2 = y := ⟨_, rfl⟩
  obtain ⟨XB, hXB⟩ : ∃ y, (finAllA hs ds).b = y := ⟨_, rfl⟩
  rw [hXH] at Hc
  rw [hXB] at Hm
  rw [hXH] at Hln
  rw [hXH, hXD, hXB] at Hfa
  clear h0 h1 h2 h3 h4 hb hXH hXD hXB
  obtain ⟨W1, hW1⟩ : ∃ X, w.alloc (.cells #[Value.slice a0 fs.length cap0, Value.slice a1 hs.length cap1, Value.slice a2 ds.length cap2, Value.slice a3 ts.length cap3, Value.slice a4 lg.length cap4] 41) = X := ⟨_, rfl⟩
  have hB1 : Below w.heap.size w W1 := by rw [← hW1]; exact (Below.refl _ _).alloc (Nat.le_refl _) _
  have BW : Hid (Box W1 w.heap.size [Value.slice a0 fs.length cap0, Value.slice a1 hs.length cap1, Value.slice a2 ds.length cap2, Value.slice a3 ts.length cap3, Value.slice a4 lg.length cap4]) := by rw [← hW1]; exact hid (Box.alloc _ _ _)
  have k0 : W1.cell? ⟨w.heap.size, 0, none⟩ = some (Value.slice a0 fs.length cap0) := BW.out.2 0 (by simp)
  have k1 : W1.cell? ⟨w.heap.size, 1, none⟩ = some (Value.slice a1 hs.length cap1) := BW.out.2 1 (by simp)
  have k2 : W1.cell? ⟨w.heap.size, 2, none⟩ = some (Value.slice a2 ds.length cap2) := BW.out.2 2 (by simp)
  have k3 : W1.cell? ⟨w.heap.size, 3, none⟩ = some (Value.slice a3 ts.length cap3) := BW.out.2 3 (by simp)
  have k4 : W1.cell? ⟨w.heap.size, 4, none⟩ = some (Value.slice a4 lg.length cap4) := BW.out.2 4 (by simp)
  have HW1 := hid hW1
  clear hW1
  go_enter Tryz.func5, Tryz.ntmps5
  go_wp2_with fail
  rw [HW1.out]
  refine (Hok.out _ (rdsL.below R0.out hB1) (rdsL.below R1.out hB1) (rdsL.below R2.out hB1) (rdsL.below R3.out hB1) (rdsL.below R4.out hB1)).mono ?_
  rintro e w2 ⟨rfl, b2⟩
  have hB2 := hB1.trans (b2.mono hB1.size)
  have HB2 := hid hB2
  have bx2 := BW.out.below b2
  have x1 : w2.cell? ⟨w.heap.size, 1, none⟩ = some (Value.slice a1 hs.length cap1) := bx2.2 1 (by simp)
  have x2 : w2.cell? ⟨w.heap.size, 2, none⟩ = some (Value.slice a2 ds.length cap2) := bx2.2 2 (by simp)
  have Hfc := hid (Hfa.out w2 (rdsL.below R1.out hB2) (rdsL.below R2.out hB2))
  clear k0 k1 k2 k3 k4 bx2 Hok Hfa
  cases R with
  | false =>
    have hm : MO = false := by rw [Hm.out]; rfl
    have hc : MC = [] := by rw [Hc.out, hm]; simp
    subst hm
    subst hc
    clear Hm Hc
    have HBL := hid (show Below w.heap.size w (w2.alloc (.cells #[] 3)) from HB2.out.alloc HB2.out.size _)
    have hO := owns_litN w2 3 1 0 #[] w.heap.size HB2.out.size rfl (Nat.zero_le _)
    go_wp2
    go_ret2
    exact ⟨_, rfl, hO, HBL.out⟩
  | true =>
  go_wp2_with fail
  refine Hfc.out.mono ?_
  rintro e w3 ⟨u0, u1, rfl, hown, b3⟩
  obtain ⟨S0, S1, o0, o1, rg0, rg1, dj⟩ := hown
  have HB3 := hid (hB2.trans (b3.mono hB2.size))
  have RH := hid o0.rds
  obtain ⟨ua, uc, rfl, huc1, huc2, hch⟩ := rdsL_open o0.rds
  obtain ⟨ub, ud, rfl, -, -, -⟩ := rdsL_open o1.rds
  have HCH := hid hch
  obtain ⟨W4, hW4⟩ : ∃ X, w3.alloc (.cells #[.slice ua XH.length uc, .slice ub XD.length ud] 37) = X := ⟨_, rfl⟩
  have b4 : Below w3.heap.size w3 W4 := by rw [← hW4]; exact (Below.refl _ _).alloc (Nat.le_refl _) _
  have BS : Hid (Box W4 w3.heap.size [.slice ua XH.length uc, .slice ub XD.length ud]) := by rw [← hW4]; exact hid (Box.alloc _ _ _)
  have HB4 := hid (HB3.out.trans (b4.mono HB3.out.size))
  have hs3 := HB3.out.size
  have hs4 := BS.out.1
  have y0 : W4.cell? ⟨w3.heap.size, 0, none⟩ = some (.slice ua XH.length uc) := BS.out.2 0 (by simp)
  have HW4 := hid hW4
  have B34 := hid b4
  clear x1 x2 o0 o1 rg0 rg1 dj hch b3 b4 hB2 Hfc
  cases XB with
  | false =>
    have hm : MO = false := by rw [Hm.out]; rfl
    have hc : MC = [] := by rw [Hc.out, hm]; simp
    subst hm
    subst hc
    clear Hm Hc
    have HBL := hid (show Below w.heap.size w (W4.alloc (.cells #[] 3)) from HB4.out.alloc HB4.out.size _)
    have hO := owns_litN W4 3 1 0 #[] w.heap.size HB4.out.size rfl (Nat.zero_le _)
    go_wp2
    go_ret2
    exact ⟨_, rfl, hO, HBL.out⟩
  | true =>
  have hm : MO = true := by rw [Hm.out]; rfl
  have hc : MC = valsTo XH XH.length := by rw [Hc.out, hm]; simp
  have hxl : XH.length ≤ 1048576 := Hln.out
  subst hm
  subst hc
  clear Hm Hc Hln
  have O5 := hid (owns_litN W4 3 1 0 #[] W4.heap.size (Nat.le_refl _) rfl (Nat.zero_le _))
  have hB5 : Below W4.heap.size W4 (W4.alloc (.cells #[] 3)) := (Below.refl _ _).alloc (Nat.le_refl _) _
  go_wp2
  go_loopw [7, 6] (fun i u wr => ∃ (k : Nat) (ya : Option Addr) (ym yc : Nat), k ≤ XH.length ∧ i = .int .i64 k ∧ u = Value.slice ya ym yc ∧ Below W4.heap.size W4 wr ∧ Hid (wr.ownsRow W4.heap.size 3 1 (.slice ya ym yc) (valsTo XH k).length ((valsTo XH k).flatMap encI))) (fun i _ _ => XH.length - (intOf i).toNat)
  case atStart => exact ⟨0, _, _, _, by omega, rfl, rfl, hB5, O5⟩
  case round =>
    clear O5 hB5 y0
    obtain ⟨k, ya, ym, yc, hk, rfl, rfl, hB, O1⟩ := hrel
    have q0 : wr.cell? ⟨w3.heap.size, 0, none⟩ = some (.slice ua XH.length uc) := (BS.out.below hB).2 0 (by simp)
    have HBr := hid (HB4.out.trans (hB.mono HB4.out.size))
    by_cases hlt : k < XH.length
    · obtain ⟨bb, off, cs, rfl, hbs, rfl, hcell⟩ := HCH.out k hlt
      have hB3r := B34.out.trans (hB.mono B34.out.size)
      have c0 : w3.cell? ⟨bb, off + k * 3, none⟩ = some (.int .i64 XH[k].value_) := hcell 0 (show 0 < 3 by omega)
      have c1 : w3.cell? ⟨bb, off + k * 3 + 1, none⟩ = some (.int .i64 XH[k].version_) := hcell 1 (show 1 < 3 by omega)
      have c2 : w3.cell? ⟨bb, off + k * 3 + 2, none⟩ = some (.int .i64 XH[k].desc_) := hcell 2 (show 2 < 3 by omega)
      have e0 := (hB3r.cell (p := ⟨bb, off + k * 3, none⟩) hbs).trans c0
      have e1 := (hB3r.cell (p := ⟨bb, off + k * 3 + 1, none⟩) hbs).trans c1
      have e2 := (hB3r.cell (p := ⟨bb, off + k * 3 + 2, none⟩) hbs).trans c2
      have Hs := hid (valsTo_succ hlt)
      have hcl := valsTo_len (hs := XH) (k := k) (by omega)
      clear c0 c1 c2 hcell HCH RH
      generalize XH[k].value_ = hv at *
      generalize XH[k].version_ = hr at *
      generalize XH[k].desc_ = hd at *
      obtain ⟨V, hV⟩ : ∃ X, X = wr := ⟨_, rfl⟩
      rw [← hV] at hB O1 HBr e0 e1 e2 q0 hB3r ⊢
      clear hV
      have hBV := hB
      have OV := O1
      obtain ⟨W5, hW5⟩ : ∃ Y, V.alloc (.cells #[.int .i64 hv] 3) = Y := ⟨_, rfl⟩
      have b23 : Below V.heap.size V W5 := by rw [← hW5]; exact (Below.refl _ _).alloc (Nat.le_refl _) _
      have hB3 := hBV.trans (b23.mono hBV.size)
      have hl3 : Flat W5 (.slice (some ⟨V.heap.size, 0, none⟩) 1 1) 1 1 [.int .i64 hv] := by rw [← hW5]; exact Flat.of_owns (owns_litN V 3 1 1 #[.int .i64 hv] 0 (Nat.zero_le _) rfl (by decide))
      have O3 := owns_below OV.out b23
      have hone := oneCell_1 hv
      have hs5 := hB3.size
      have Hcl := hid hcl
      have hcl2 : (valsTo XH k).length + 1 ≤ 1048577 := by omega
      clear hcl
      go_wp2_with (at_builtin; refine wpList_append_flat rfl _ _ 22 rfl W4.heap.size 3 j0 (.int .i64 0) 1 8 Tryz.underlying22 hj hy0 hy1 hy2 rfl (by decide) _ _ _ rfl O3 _ _ _ rfl hl3 hone (by unfold maxLen; omega) (by omega) hs5 ?_)
      intro v4 w6 o4 g4
      obtain ⟨za, zm, zc, rfl⟩ := owns_form3 o4
      have hB6 : Below W4.heap.size W4 w6 := hB3.trans (below_grown g4 hB3.size fun b e => by have := (World.ownsRow.lt O3 b e).1; omega)
      have O4 := hid o4
      clear o4 g4 O3 OV hl3 hW5 b23 hone hcl2
      go_wp2
      go_roundw
      case rel => exact ⟨k+1, _, _, _, by omega, by go_num, rfl, hB6, hid (by rw [Hs.out, encI_snoc, List.length_append]; exact O4.out)⟩
      case measure => simp [intOf]; omega
    · obtain rfl : k = XH.length := by omega
      have hs44 : w.heap.size ≤ W4.heap.size := by omega
      go_wp2
      go_ret2
      exact ⟨_, rfl, owns_mono O1.out hs44, HBr.out⟩
end Go.Proofs.YtbbdchlabdilcabGreat
