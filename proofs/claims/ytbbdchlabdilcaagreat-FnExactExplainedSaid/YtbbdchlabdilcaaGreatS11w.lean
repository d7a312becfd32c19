/- Chapter 11's model: WorldOk. (printed by tools/mk_s11.py) -/
import Derived.Test.YtbbdchlabdilcaaGreatM12
namespace Go.Proofs.YtbbdchlabdilcaaGreat
set_option maxRecDepth 100000
open Go.RowKit Go.Proofs Go.Own
open Go Go.BigFrame
set_option linter.unusedVariables false
set_option linter.unusedSimpArgs false
theorem spec_ThreadOkIs (s : StoreD) (t : ThreadD) (v0 v1 v2 v3 v4 : Value) (r : Bool) (w : World) (h0 : rdsL w v0 s.heads_) (h1 : rdsL w v1 s.descs_) (h2 : rdsL w v2 t.prog_) (h3 : rdsL w v3 t.open_) (h4 : rdsL w v4 t.stack_) (e : threadOk s t = r) :
    Calls Tryz.prog 87 #[.agg #[v0, v1], .agg #[.int .i64 t.id_, v2, .int .i64 t.at_, .int .i64 t.reg0_, .int .i64 t.reg1_, .int .i64 t.reg2_, .int .i64 t.reg3_, v3, .int .i64 t.check_, v4, .int .i64 t.mine_, .int .i64 t.state_, .int .i64 t.commits_, .int .i64 t.fails_]] w fun e w' => e = .returned (.bool r) ∧ Below w.heap.size w w' := by subst e; exact spec_ThreadOk0 s t v0 v1 v2 v3 v4 w h0 h1 h2 h3 h4
set_option maxHeartbeats 16000000 in
theorem spec_WorldOk0 (d : WorldD) (v0 v1 v2 v3 v4 : Value) (w : World) (h0 : rdsL w v0 d.first_) (h1 : rdsL w v1 d.store_.heads_) (h2 : rdsL w v2 d.store_.descs_) (h3 : rdsL w v3 d.threads_) (h4 : rdsL w v4 d.log_) (hb : WorldB d) :
    Calls Tryz.prog 121 #[.agg #[v0, v1, v2, v3, v4]] w fun e w' => e = .returned (.bool (worldOk d)) ∧ Below w.heap.size w w' := by
  obtain ⟨fs, ⟨hs, ds⟩, ts, lg⟩ := d
  dsimp only at h0 h1 h2 h3 h4 ⊢
  obtain ⟨a0, cap0, rfl, hl0, hm0, -⟩ := rdsL_open h0
  obtain ⟨a1, cap1, rfl, hl1, hm1, -⟩ := rdsL_open h1
  obtain ⟨a2, cap2, rfl, hl2, hm2, hc2⟩ := rdsL_open h2
  obtain ⟨a3, cap3, rfl, hl3, hm3, hc3⟩ := rdsL_open h3
  obtain ⟨a4, cap4, rfl, hl4, hm4, hc4⟩ := rdsL_open h4
  have HC2 := hid hc2
  have HC3 := hid hc3
  have HC4 := hid hc4
  have hlf : fs.length ≤ 9223372036854775807 := by omega
  have hlh : hs.length ≤ 9223372036854775807 := by omega
  have hld : ds.length ≤ 9223372036854775807 := by omega
  have hlt_ : ts.length ≤ 9223372036854775807 := by omega
  have hll : lg.length ≤ 9223372036854775807 := by omega
  obtain ⟨W1, hW1⟩ : ∃ X, w.alloc (.cells #[Value.slice a0 fs.length cap0, Value.slice a1 hs.length cap1, Value.slice a2 ds.length cap2, Value.slice a3 ts.length cap3, Value.slice a4 lg.length cap4] 32) = X := ⟨_, rfl⟩
  have hB1 : Below w.heap.size w W1 := by rw [← hW1]; exact (Below.refl _ _).alloc (Nat.le_refl _) _
  have bw : Box W1 w.heap.size [Value.slice a0 fs.length cap0, Value.slice a1 hs.length cap1, Value.slice a2 ds.length cap2, Value.slice a3 ts.length cap3, Value.slice a4 lg.length cap4] := by rw [← hW1]; exact Box.alloc _ _ _
  have hN := bw.1
  have Hu := hid (show worldOk ⟨fs, ⟨hs, ds⟩, ts, lg⟩ = (((storeOk hs ds && ((fs.length : Int) == hs.length)) && (allIn fs (-1000000000) 1000000000 0 && inB (ts.length : Int) 1 4)) && ((List.range ts.length).all (thAt ⟨fs, ⟨hs, ds⟩, ts, lg⟩) && (ds.all (ownIn ts.length) && logOk lg ds fs.length ts.length))) from rfl)
  have Hth := hid (fun j hj => thAt_of ⟨fs, ⟨hs, ds⟩, ts, lg⟩ j hj)
  have Hlog := hid (fun w r0 r1 r2 r3 r4 => spec_l11Log0 ⟨fs, ⟨hs, ds⟩, ts, lg⟩ (Value.slice a0 fs.length cap0) (Value.slice a1 hs.length cap1) (Value.slice a2 ds.length cap2) (Value.slice a3 ts.length cap3) (Value.slice a4 lg.length cap4) w r0 r1 r2 r3 r4 hb)
  generalize worldOk ⟨fs, ⟨hs, ds⟩, ts, lg⟩ = R at *
  generalize thAt ⟨fs, ⟨hs, ds⟩, ts, lg⟩ = TF at *
  have R0 := hid h0
  have R1 := hid h1
  have R2 := hid h2
  have R3 := hid h3
  have R4 := hid h4
  have k1 : W1.cell? ⟨w.heap.size, 1, none⟩ = some (Value.slice a1 hs.length cap1) := bw.2 1 (by simp)
  have k2 : W1.cell? ⟨w.heap.size, 2, none⟩ = some (Value.slice a2 ds.length cap2) := bw.2 2 (by simp)
  have HW1 := hid hW1
  clear h0 h1 h2 h3 h4 hc2 hc3 hc4 hb hW1
  go_enter Tryz.func121, Tryz.ntmps121
  go_wp2_with fail
  rw [HW1.out]
  refine (spec_StoreOk0 hs ds _ _ _ (rdsL.below R1.out hB1) (rdsL.below R2.out hB1)).mono ?_
  rintro e w2 ⟨rfl, b2⟩
  have B2 := hB1.trans (b2.mono hB1.size)
  have bx2 := bw.below b2
  have H0 := hid (rdsL.below R0.out B2)
  have N2 := bx2.1
  have HB := hid B2
  have BX2 := hid bx2
  have x0 : w2.cell? ⟨w.heap.size, 0, none⟩ = some (Value.slice a0 fs.length cap0) := bx2.2 0 (by simp)
  have x1 : w2.cell? ⟨w.heap.size, 1, none⟩ = some (Value.slice a1 hs.length cap1) := bx2.2 1 (by simp)
  have x2 : w2.cell? ⟨w.heap.size, 2, none⟩ = some (Value.slice a2 ds.length cap2) := bx2.2 2 (by simp)
  have x3 : w2.cell? ⟨w.heap.size, 3, none⟩ = some (Value.slice a3 ts.length cap3) := bx2.2 3 (by simp)
  have x4 : w2.cell? ⟨w.heap.size, 4, none⟩ = some (Value.slice a4 lg.length cap4) := bx2.2 4 (by simp)
  clear k1 k2 bx2
  cases g1 : storeOk hs ds with
  | false =>
    have hu := Hu
    have Hn := hid g1
    go_wp2_with (first | (go_at_call 128; refine (spec_l1In _ _ _ _).mono ?_; rintro e w' ⟨rfl, rfl⟩) | (go_at_call 182; refine (spec_l1All _ fs _ _ _ (rdsInts.1 H0.out)).mono ?_; rintro e w' ⟨rfl, rfl⟩))
    (go_ret; exact ⟨ret_bool (by rw [hu.out, Hn.out]; rfl), HB.out⟩)
  | true =>
  have Hu2 := hid (show R = ((((fs.length : Int) == hs.length) && (allIn fs (-1000000000) 1000000000 0 && inB (ts.length : Int) 1 4)) && ((List.range ts.length).all TF && (ds.all (ownIn ts.length) && logOk lg ds fs.length ts.length))) by rw [Hu.out, g1]; rfl)
  by_cases g2 : (fs.length : Int) = hs.length
  case neg =>
    have Hn := hid (show (((fs.length : Int) == hs.length)) = false by simpa using g2)
    have hu := Hu2
    go_wp2_with (first | (go_at_call 128; refine (spec_l1In _ _ _ _).mono ?_; rintro e w' ⟨rfl, rfl⟩) | (go_at_call 182; refine (spec_l1All _ fs _ _ _ (rdsInts.1 H0.out)).mono ?_; rintro e w' ⟨rfl, rfl⟩))
    (go_ret; exact ⟨ret_bool (by rw [hu.out, Hn.out]; rfl), HB.out⟩)
  cases g3 : allIn fs (-1000000000) 1000000000 0 with
  | false =>
    have Hn := hid g3
    have hu := hid (show R = (allIn fs (-1000000000) 1000000000 0 && ((inB (ts.length : Int) 1 4) && ((List.range ts.length).all TF && (ds.all (ownIn ts.length) && logOk lg ds fs.length ts.length)))) by rw [Hu2.out, g3]; simp)
    go_wp2_with (first | (go_at_call 128; refine (spec_l1In _ _ _ _).mono ?_; rintro e w' ⟨rfl, rfl⟩) | (go_at_call 182; refine (spec_l1All _ fs _ _ _ (rdsInts.1 H0.out)).mono ?_; rintro e w' ⟨rfl, rfl⟩))
    (go_ret; exact ⟨ret_bool (by rw [hu.out, Hn.out]; rfl), HB.out⟩)
  | true =>
  cases g4 : inB (ts.length : Int) 1 4 with
  | false =>
    have Hn := hid g4
    have hu := hid (show R = (inB (ts.length : Int) 1 4 && ((List.range ts.length).all TF && (ds.all (ownIn ts.length) && logOk lg ds fs.length ts.length))) by rw [Hu2.out, g3, g4]; simp)
    go_wp2_with (first | (go_at_call 128; refine (spec_l1In _ _ _ _).mono ?_; rintro e w' ⟨rfl, rfl⟩) | (go_at_call 182; refine (spec_l1All _ fs _ _ _ (rdsInts.1 H0.out)).mono ?_; rintro e w' ⟨rfl, rfl⟩))
    (go_ret; exact ⟨ret_bool (by rw [hu.out, Hn.out]; rfl), HB.out⟩)
  | true =>
  have Hu3 := hid (show R = ((List.range ts.length).all TF && (ds.all (ownIn ts.length) && logOk lg ds fs.length ts.length)) by rw [Hu2.out, g3, g4, g2]; simp)
  clear Hu Hu2
  go_wp2_with (first | (go_at_call 128; refine (spec_l1In _ _ _ _).mono ?_; rintro e w' ⟨rfl, rfl⟩) | (go_at_call 182; refine (spec_l1All _ fs _ _ _ (rdsInts.1 H0.out)).mono ?_; rintro e w' ⟨rfl, rfl⟩))
  go_loopw [3] (fun i wr => ∃ j : Nat, j ≤ ts.length ∧ i = .int .i64 j ∧ Same (((List.range ts.length).drop j).all TF) ((List.range ts.length).all TF) ∧ Below w2.heap.size w2 wr) (fun i _ => ts.length - (intOf i).toNat)
  case atStart => exact ⟨0, by omega, rfl, .rfl, Below.refl _ _⟩
  case round =>
    obtain ⟨j, hj, rfl, hS, hB⟩ := hrel
    have hBr := B2.trans (hB.mono B2.size)
    have q0 := (hB.cell (p := ⟨w.heap.size, 0, none⟩) N2).trans x0
    have q1 := (hB.cell (p := ⟨w.heap.size, 1, none⟩) N2).trans x1
    have q2 := (hB.cell (p := ⟨w.heap.size, 2, none⟩) N2).trans x2
    have q3 := (hB.cell (p := ⟨w.heap.size, 3, none⟩) N2).trans x3
    have q4 := (hB.cell (p := ⟨w.heap.size, 4, none⟩) N2).trans x4
    by_cases hlt : j < ts.length
    · obtain ⟨bb, off, cs, rfl, hbs, ⟨x0, x1, x2, rfl, r0, r1, r2⟩, hcell⟩ := HC3.out j hlt
      have hst := hid (all_step TF (List.range ts.length) j (by rw [List.length_range]; exact hlt))
      rw [List.getElem_range, Hth.out j hlt] at hst
      have c0 : w.cell? ⟨bb, off + j * 14, none⟩ = some (.int .i64 ts[j].id_) := hcell 0 (show 0 < 14 by omega)
      have c1 : w.cell? ⟨bb, off + j * 14 + 1, none⟩ = some (x0) := hcell 1 (show 1 < 14 by omega)
      have c2 : w.cell? ⟨bb, off + j * 14 + 2, none⟩ = some (.int .i64 ts[j].at_) := hcell 2 (show 2 < 14 by omega)
      have c3 : w.cell? ⟨bb, off + j * 14 + 3, none⟩ = some (.int .i64 ts[j].reg0_) := hcell 3 (show 3 < 14 by omega)
      have c4 : w.cell? ⟨bb, off + j * 14 + 4, none⟩ = some (.int .i64 ts[j].reg1_) := hcell 4 (show 4 < 14 by omega)
      have c5 : w.cell? ⟨bb, off + j * 14 + 5, none⟩ = some (.int .i64 ts[j].reg2_) := hcell 5 (show 5 < 14 by omega)
      have c6 : w.cell? ⟨bb, off + j * 14 + 6, none⟩ = some (.int .i64 ts[j].reg3_) := hcell 6 (show 6 < 14 by omega)
      have c7 : w.cell? ⟨bb, off + j * 14 + 7, none⟩ = some (x1) := hcell 7 (show 7 < 14 by omega)
      have c8 : w.cell? ⟨bb, off + j * 14 + 8, none⟩ = some (.int .i64 ts[j].check_) := hcell 8 (show 8 < 14 by omega)
      have c9 : w.cell? ⟨bb, off + j * 14 + 9, none⟩ = some (x2) := hcell 9 (show 9 < 14 by omega)
      have c10 : w.cell? ⟨bb, off + j * 14 + 10, none⟩ = some (.int .i64 ts[j].mine_) := hcell 10 (show 10 < 14 by omega)
      have c11 : w.cell? ⟨bb, off + j * 14 + 11, none⟩ = some (.int .i64 ts[j].state_) := hcell 11 (show 11 < 14 by omega)
      have c12 : w.cell? ⟨bb, off + j * 14 + 12, none⟩ = some (.int .i64 ts[j].commits_) := hcell 12 (show 12 < 14 by omega)
      have c13 : w.cell? ⟨bb, off + j * 14 + 13, none⟩ = some (.int .i64 ts[j].fails_) := hcell 13 (show 13 < 14 by omega)
      have e0 := (hBr.cell (p := ⟨bb, off + j * 14, none⟩) hbs).trans c0
      have e1 := (hBr.cell (p := ⟨bb, off + j * 14 + 1, none⟩) hbs).trans c1
      have e2 := (hBr.cell (p := ⟨bb, off + j * 14 + 2, none⟩) hbs).trans c2
      have e3 := (hBr.cell (p := ⟨bb, off + j * 14 + 3, none⟩) hbs).trans c3
      have e4 := (hBr.cell (p := ⟨bb, off + j * 14 + 4, none⟩) hbs).trans c4
      have e5 := (hBr.cell (p := ⟨bb, off + j * 14 + 5, none⟩) hbs).trans c5
      have e6 := (hBr.cell (p := ⟨bb, off + j * 14 + 6, none⟩) hbs).trans c6
      have e7 := (hBr.cell (p := ⟨bb, off + j * 14 + 7, none⟩) hbs).trans c7
      have e8 := (hBr.cell (p := ⟨bb, off + j * 14 + 8, none⟩) hbs).trans c8
      have e9 := (hBr.cell (p := ⟨bb, off + j * 14 + 9, none⟩) hbs).trans c9
      have e10 := (hBr.cell (p := ⟨bb, off + j * 14 + 10, none⟩) hbs).trans c10
      have e11 := (hBr.cell (p := ⟨bb, off + j * 14 + 11, none⟩) hbs).trans c11
      have e12 := (hBr.cell (p := ⟨bb, off + j * 14 + 12, none⟩) hbs).trans c12
      have e13 := (hBr.cell (p := ⟨bb, off + j * 14 + 13, none⟩) hbs).trans c13
      have hR1 := hid (rdsL.below R1.out hBr)
      have hR2 := hid (rdsL.below R2.out hBr)
      have hT0 := hid (rdsL.below r0 hBr)
      have hT1 := hid (rdsL.below r1 hBr)
      have hT2 := hid (rdsL.below r2 hBr)
      obtain ⟨D, hD⟩ : ∃ D, ts[j] = D := ⟨_, rfl⟩
      try dsimp only at hst
      rw [hD] at hst hT0 hT1 hT2 e0 e2 e3 e4 e5 e6 e8 e10 e11 e12 e13
      have hu := hid (show R = (((List.range ts.length).drop j).all TF && (ds.all (ownIn ts.length) && logOk lg ds fs.length ts.length)) by rw [hS.out]; exact Hu3.out)
      have HB := hid hBr
      clear c0 c1 c2 c3 c4 c5 c6 c7 c8 c9 c10 c11 c12 c13 hcell HC2 HC3 HC4 r0 r1 r2 hD
      have hbbr : bb < wr.heap.size := Nat.lt_of_lt_of_le hbs hBr.size
      have hNr : w.heap.size < wr.heap.size := Nat.lt_of_lt_of_le N2 hB.size
      have f1 := Ext.cell hNr q1
      have f2 := Ext.cell hNr q2
      have f3 := Ext.cell hNr q3
      have i0 := Ext.cell hbbr e0
      have i1 := Ext.cell hbbr e1
      have i2 := Ext.cell hbbr e2
      have i3 := Ext.cell hbbr e3
      have i4 := Ext.cell hbbr e4
      have i5 := Ext.cell hbbr e5
      have i6 := Ext.cell hbbr e6
      have i7 := Ext.cell hbbr e7
      have i8 := Ext.cell hbbr e8
      have i9 := Ext.cell hbbr e9
      have i10 := Ext.cell hbbr e10
      have i11 := Ext.cell hbbr e11
      have i12 := Ext.cell hbbr e12
      have i13 := Ext.cell hbbr e13
      have q3_ := q3
      clear e0 e1 e2 e3 e4 e5 e6 e7 e8 e9 e10 e11 e12 e13
      obtain ⟨di, dp, da, d0, d1, d2, d3, dn, dc, dk, dm, dz, dq, df⟩ := D
      dsimp only at hst hT0 hT1 hT2 i0 i2 i3 i4 i5 i6 i8 i10 i11 i12 i13
      by_cases hid_ : di = (j : Int)
      · subst hid_
        have hself : (((j : Int) == (j : Int)) : Bool) = true := by simp
        cases hT : threadOk ⟨hs, ds⟩ ⟨(j : Int), dp, da, d0, d1, d2, d3, dn, dc, dk, dm, dz, dq, df⟩ with
        | false =>
          have Hn := hid (show ((List.range ts.length).drop j).all TF = false by rw [hst.out, hT, hself]; rfl)
          go_wp2
          (refine wp_region_ext wr (Below.refl _ _) (by kernel_rfl) (by kernel_rfl) ?_; (try dsimp only [List.append]); (repeat (go_big_quiet_step (first | (go_at_call 87; exact call_ext _ (spec_ThreadOkIs ⟨hs, ds⟩ ⟨(j : Int), dp, da, d0, d1, d2, d3, dn, dc, dk, dm, dz, dq, df⟩ _ _ _ _ _ _ _ (Ext.rds hR1.out _) (Ext.rds hR2.out _) (Ext.rds hT0.out _) (Ext.rds hT1.out _) (Ext.rds hT2.out _) hT))))); refine wpQuiet_nil ?_; rintro _ ⟨E, rfl⟩)
          go_wp2
          go_ret
          exact ⟨ret_bool (by rw [hu.out, Hn.out]; rfl), HB.out.trans (E.h.mono HB.out.size)⟩
        | true =>
          have Hn := hid (show Same (((List.range ts.length).drop (j+1)).all TF) ((List.range ts.length).all TF) from .mk (by rw [← hS.out, hst.out, hT, hself]; rfl))
          go_wp2
          (refine wp_region_ext wr (Below.refl _ _) (by kernel_rfl) (by kernel_rfl) ?_; (try dsimp only [List.append]); (repeat (go_big_quiet_step (first | (go_at_call 87; exact call_ext _ (spec_ThreadOkIs ⟨hs, ds⟩ ⟨(j : Int), dp, da, d0, d1, d2, d3, dn, dc, dk, dm, dz, dq, df⟩ _ _ _ _ _ _ _ (Ext.rds hR1.out _) (Ext.rds hR2.out _) (Ext.rds hT0.out _) (Ext.rds hT1.out _) (Ext.rds hT2.out _) hT))))); refine wpQuiet_nil ?_; rintro _ ⟨E, rfl⟩)
          have HB3 := hid (hB.trans (E.h.mono hB.size))
          clear hst hu hS
          go_wp2
          go_roundw
          case rel => exact ⟨j+1, by omega, by go_num, Hn.out, HB3.out⟩
          case measure => simp [intOf]; omega
      · have hself : ((di == (j : Int)) : Bool) = false := by simpa using hid_
        have Hn := hid (show ((List.range ts.length).drop j).all TF = false by rw [hst.out, hself]; rfl)
        have hbn : ((di != (j : Int)) : Bool) = true := by simpa using hid_
        clear hself
        go_wp2
        (refine wp_region_ext wr (Below.refl _ _) (by kernel_rfl) (by kernel_rfl) ?_; (try dsimp only [List.append]); (repeat (go_big_quiet_step (fail))); refine wpQuiet_nil ?_; rintro _ ⟨E, rfl⟩)
        go_wp2
        go_ret
        exact ⟨ret_bool (by rw [hu.out, Hn.out]; rfl), HB.out.trans (E.h.mono HB.out.size)⟩
    · obtain rfl : j = ts.length := by omega
      have Hu4 := hid (show R = (ds.all (ownIn ts.length) && logOk lg ds fs.length ts.length) by rw [Hu3.out, ← hS.out, List.drop_eq_nil_of_le (by rw [List.length_range]; omega)]; rfl)
      clear Hu3 hS HC3
      have NR := Nat.lt_of_lt_of_le N2 hB.size
      go_wp2
      go_loopw [4] (fun i w9 => ∃ k : Nat, k ≤ ds.length ∧ i = .int .i64 k ∧ Same ((ds.drop k).all (ownIn ts.length)) (ds.all (ownIn ts.length)) ∧ Below wr.heap.size wr w9) (fun i _ => ds.length - (intOf i).toNat)
      case atStart => exact ⟨0, by omega, rfl, .rfl, Below.refl _ _⟩
      case round =>
        obtain ⟨k, hk, rfl, hS, hB9⟩ := hrel
        have hB0 := hBr.trans (hB9.mono hBr.size)
        have y0 := (hB9.cell (p := ⟨w.heap.size, 0, none⟩) NR).trans q0
        have y1 := (hB9.cell (p := ⟨w.heap.size, 1, none⟩) NR).trans q1
        have y2 := (hB9.cell (p := ⟨w.heap.size, 2, none⟩) NR).trans q2
        have y3 := (hB9.cell (p := ⟨w.heap.size, 3, none⟩) NR).trans q3
        have y4 := (hB9.cell (p := ⟨w.heap.size, 4, none⟩) NR).trans q4
        have HB := hid hB0
        by_cases hlk : k < ds.length
        · have hst := hid (all_step (ownIn ts.length) ds k hlk)
          obtain ⟨b2, of2, cs2, rfl, hbs2, ⟨u2, rfl, z2⟩, hcell2⟩ := HC2.out k hlk
          have c0 : w.cell? ⟨b2, of2 + k * 3, none⟩ = some (.int .i64 ds[k].owner_) := hcell2 0 (show 0 < 3 by omega)
          have e0 := (hB0.cell (p := ⟨b2, of2 + k * 3, none⟩) hbs2).trans c0
          have hu := hid (show R = ((ds.drop k).all (ownIn ts.length) && logOk lg ds fs.length ts.length) by rw [hS.out]; exact Hu4.out)
          have hoi := hid (show ownIn ts.length ds[k] = decide (ds[k].owner_ < (ts.length : Int)) from rfl)
          rw [hoi.out] at hst
          generalize ds[k].owner_ = ow at *
          clear c0 hcell2 HC2 hoi z2
          by_cases ho : ow < (ts.length : Int)
          · have Hn := hid (show Same ((ds.drop (k+1)).all (ownIn ts.length)) (ds.all (ownIn ts.length)) from .mk (by rw [← hS.out, hst.out, decide_eq_true ho]; rfl))
            clear hst hu hS
            go_wp2
            go_region
            all_goals go_wp2
            all_goals go_roundw
            case rel => exact ⟨k+1, by omega, by go_num, Hn.out, hB9.drew⟩
            case measure => simp [intOf]; omega
          · have Hn := hid (show (ds.drop k).all (ownIn ts.length) = false by rw [hst.out, decide_eq_false ho]; rfl)
            clear hst hS
            go_wp2
            go_region
            all_goals go_wp2
            all_goals go_ret
            all_goals exact ⟨ret_bool (by rw [hu.out, Hn.out]; rfl), HB.out.drew⟩
        · obtain rfl : k = ds.length := by omega
          have hu := hid (show R = logOk lg ds fs.length ts.length by rw [Hu4.out, ← hS.out, List.drop_length]; rfl)
          have H1 := hid (rdsL.below R0.out hB0)
          have H2 := hid (rdsL.below R1.out hB0)
          have H3 := hid (rdsL.below R2.out hB0)
          have H4 := hid (rdsL.below R3.out hB0)
          have H5 := hid (rdsL.below R4.out hB0)
          clear hS HC2
          go_wp2_with fail
          refine (Hlog.out _ H1.out H2.out H3.out H4.out H5.out).mono ?_
          rintro e w5 ⟨rfl, b5⟩
          have HB5 := hid (hB0.trans (b5.mono hB0.size))
          go_wp2
          go_ret
          exact ⟨ret_bool hu.out.symm, HB5.out⟩
end Go.Proofs.YtbbdchlabdilcaaGreat
