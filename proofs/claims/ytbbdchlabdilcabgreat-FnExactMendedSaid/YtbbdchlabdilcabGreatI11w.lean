/- Chapter 11: what the program's WorldOk answers. (printed by tools/mk_i11w.py) -/
import Derived.Test.YtbbdchlabdilcabGreatI11
namespace Go.Proofs.YtbbdchlabdilcabGreat
set_option maxRecDepth 100000
open Go.RowKit Go.Proofs Go.Own
open Go Go.BigFrame
set_option linter.unusedVariables false
set_option linter.unusedSimpArgs false
def ownX (k : Nat) (d : DescD) : Bool := isIn k d.owner_
def thOk (d : WorldD) : Bool := inB (d.threads_.length : Int) 1 4 && ((List.range d.threads_.length).all (thAt d) && d.store_.descs_.all (ownX d.threads_.length))
theorem ownX_in {hs : List Head} {ds : List DescD} (h : storeOk hs ds = true) (k : Nat) : ds.all (ownX k) = ds.all (ownIn k) := by
  have h2 : ∀ d ∈ ds, ownX k d = ownIn k d := fun d hd => by
    obtain ⟨i, hi, rfl⟩ := List.getElem_of_mem hd
    have h3 := (storeOk_all h).2.2.1 i hi
    have h4 : 0 ≤ ds[i].owner_ := by
      unfold descIn descOk at h3
      simp only [Bool.and_eq_true] at h3
      have := h3.1.1.1.1.1
      simp [inB] at this
      exact this.1
    unfold ownX ownIn isIn
    rw [decide_eq_true h4]; rfl
  rw [Bool.eq_iff_iff, List.all_eq_true, List.all_eq_true]
  exact ⟨fun h d hd => by rw [← h2 d hd]; exact h d hd, fun h d hd => by rw [h2 d hd]; exact h d hd⟩
set_option maxHeartbeats 16000000 in
theorem impl_threadsOk0 (d : WorldD) (v0 v1 v2 v3 v4 : Value) (w : World) (h0 : rdsL w v0 d.first_) (h1 : rdsL w v1 d.store_.heads_) (h2 : rdsL w v2 d.store_.descs_) (h3 : rdsL w v3 d.threads_) (h4 : rdsL w v4 d.log_) :
    Calls Tryz.prog 48 #[.agg #[v0, v1, v2, v3, v4]] w fun e w' => e = .returned (.bool (thOk d)) ∧ Below w.heap.size w w' := by
  obtain ⟨fs, ⟨hs, ds⟩, ts, lg⟩ := d
  dsimp only at h0 h1 h2 h3 h4 ⊢
  obtain ⟨a0, cap0, rfl, hl0, hm0, -⟩ := rdsL_open h0
  obtain ⟨a1, cap1, rfl, hl1, hm1, -⟩ := rdsL_open h1
  obtain ⟨a2, cap2, rfl, hl2, hm2, hc2⟩ := rdsL_open h2
  obtain ⟨a3, cap3, rfl, hl3, hm3, hc3⟩ := rdsL_open h3
  obtain ⟨a4, cap4, rfl, hl4, hm4, hc4⟩ := rdsL_open h4
  have HC2 := hid hc2
  have HC3 := hid hc3
  have HC4 := hid hc4
  have hlf : fs.length ≤ 9223372036854775807 := by omega
  have hlh : hs.length ≤ 9223372036854775807 := by omega
  have hld : ds.length ≤ 9223372036854775807 := by omega
  have hlt_ : ts.length ≤ 9223372036854775807 := by omega
  have hll : lg.length ≤ 9223372036854775807 := by omega
  obtain ⟨W1, hW1⟩ : ∃ X, w.alloc (.cells #[Value.slice a0 fs.length cap0, Value.slice a1 hs.length cap1, Value.slice a2 ds.length cap2, Value.slice a3 ts.length cap3, Value.slice a4 lg.length cap4] 41) = X := ⟨_, rfl⟩
  have hB1 : Below w.heap.size w W1 := by rw [← hW1]; exact (Below.refl _ _).alloc (Nat.le_refl _) _
  have bw : Box W1 w.heap.size [Value.slice a0 fs.length cap0, Value.slice a1 hs.length cap1, Value.slice a2 ds.length cap2, Value.slice a3 ts.length cap3, Value.slice a4 lg.length cap4] := by rw [← hW1]; exact Box.alloc _ _ _
  have hN := bw.1
  have Hu := hid (show thOk ⟨fs, ⟨hs, ds⟩, ts, lg⟩ = (inB (ts.length : Int) 1 4 && ((List.range ts.length).all (thAt ⟨fs, ⟨hs, ds⟩, ts, lg⟩) && ds.all (ownX ts.length))) from rfl)
  have Hth := hid (fun j hj => thAt_of ⟨fs, ⟨hs, ds⟩, ts, lg⟩ j hj)
  generalize thOk ⟨fs, ⟨hs, ds⟩, ts, lg⟩ = R at *
  generalize thAt ⟨fs, ⟨hs, ds⟩, ts, lg⟩ = TF at *
  have R1 := hid h1
  have R2 := hid h2
  have BW := hid bw
  have k2 : W1.cell? ⟨w.heap.size, 2, none⟩ = some (Value.slice a2 ds.length cap2) := bw.2 2 (by simp)
  have k3 : W1.cell? ⟨w.heap.size, 3, none⟩ = some (Value.slice a3 ts.length cap3) := bw.2 3 (by simp)
  have HW1 := hid hW1
  clear h0 h1 h2 h3 h4 hc2 hc3 hc4 hW1 bw
  go_enter Tryz.func48, Tryz.ntmps48
  by_cases l1 : (ts.length : Int) < 1
  · have Hn := hid (show inB (ts.length : Int) 1 4 = false from decide_eq_false (by omega))
    have hu := Hu
    have HB := hid hB1
    go_wp2
    rw [HW1.out]
    go_wp2
    (go_ret; exact ⟨ret_bool (by rw [hu.out, Hn.out]; rfl), HB.out⟩)
  by_cases l4 : (4 : Int) < ts.length
  · have Hn := hid (show inB (ts.length : Int) 1 4 = false from decide_eq_false (by omega))
    have hu := Hu
    have HB := hid hB1
    go_wp2
    rw [HW1.out]
    go_wp2
    (go_ret; exact ⟨ret_bool (by rw [hu.out, Hn.out]; rfl), HB.out⟩)
  have Hu3 := hid (show R = ((List.range ts.length).all TF && ds.all (ownX ts.length)) by rw [Hu.out, show inB (ts.length : Int) 1 4 = true from decide_eq_true (by omega)]; rfl)
  have W1e : w.alloc (.cells #[Value.slice a0 fs.length cap0, Value.slice a1 hs.length cap1, Value.slice a2 ds.length cap2, Value.slice a3 ts.length cap3, Value.slice a4 lg.length cap4] 41) = W1 := HW1.out
  go_wp2
  clear W1e Hu
  go_loopw [20] (fun i wr => ∃ j : Nat, j ≤ ts.length ∧ i = .int .i64 j ∧ Same (((List.range ts.length).drop j).all TF) ((List.range ts.length).all TF) ∧ Below W1.heap.size W1 wr) (fun i _ => ts.length - (intOf i).toNat)
  case atStart => exact ⟨0, by omega, rfl, .rfl, Below.refl _ _⟩
  case round =>
    obtain ⟨j, hj, rfl, hS, hB⟩ := hrel
    have hBr := hB1.trans (hB.mono hB1.size)
    have bwr := BW.out.below hB
    clear k2 k3
    by_cases hlt : j < ts.length
    · obtain ⟨bb, off, cs, rfl, hbs, ⟨x0, x1, x2, rfl, r0, r1, r2⟩, hcell⟩ := HC3.out j hlt
      have hst := hid (all_step TF (List.range ts.length) j (by rw [List.length_range]; exact hlt))
      rw [List.getElem_range, Hth.out j hlt] at hst
      have c0 : w.cell? ⟨bb, off + j * 14, none⟩ = some (.int .i64 ts[j].id_) := hcell 0 (show 0 < 14 by omega)
      have c1 : w.cell? ⟨bb, off + j * 14 + 1, none⟩ = some (x0) := hcell 1 (show 1 < 14 by omega)
      have c2 : w.cell? ⟨bb, off + j * 14 + 2, none⟩ = some (.int .i64 ts[j].at_) := hcell 2 (show 2 < 14 by omega)
      have c3 : w.cell? ⟨bb, off + j * 14 + 3, none⟩ = some (.int .i64 ts[j].reg0_) := hcell 3 (show 3 < 14 by omega)
      have c4 : w.cell? ⟨bb, off + j * 14 + 4, none⟩ = some (.int .i64 ts[j].reg1_) := hcell 4 (show 4 < 14 by omega)
      have c5 : w.cell? ⟨bb, off + j * 14 + 5, none⟩ = some (.int .i64 ts[j].reg2_) := hcell 5 (show 5 < 14 by omega)
      have c6 : w.cell? ⟨bb, off + j * 14 + 6, none⟩ = some (.int .i64 ts[j].reg3_) := hcell 6 (show 6 < 14 by omega)
      have c7 : w.cell? ⟨bb, off + j * 14 + 7, none⟩ = some (x1) := hcell 7 (show 7 < 14 by omega)
      have c8 : w.cell? ⟨bb, off + j * 14 + 8, none⟩ = some (.int .i64 ts[j].check_) := hcell 8 (show 8 < 14 by omega)
      have c9 : w.cell? ⟨bb, off + j * 14 + 9, none⟩ = some (x2) := hcell 9 (show 9 < 14 by omega)
      have c10 : w.cell? ⟨bb, off + j * 14 + 10, none⟩ = some (.int .i64 ts[j].mine_) := hcell 10 (show 10 < 14 by omega)
      have c11 : w.cell? ⟨bb, off + j * 14 + 11, none⟩ = some (.int .i64 ts[j].state_) := hcell 11 (show 11 < 14 by omega)
      have c12 : w.cell? ⟨bb, off + j * 14 + 12, none⟩ = some (.int .i64 ts[j].commits_) := hcell 12 (show 12 < 14 by omega)
      have c13 : w.cell? ⟨bb, off + j * 14 + 13, none⟩ = some (.int .i64 ts[j].fails_) := hcell 13 (show 13 < 14 by omega)
      have e0 := (hBr.cell (p := ⟨bb, off + j * 14, none⟩) hbs).trans c0
      have e1 := (hBr.cell (p := ⟨bb, off + j * 14 + 1, none⟩) hbs).trans c1
      have e2 := (hBr.cell (p := ⟨bb, off + j * 14 + 2, none⟩) hbs).trans c2
      have e3 := (hBr.cell (p := ⟨bb, off + j * 14 + 3, none⟩) hbs).trans c3
      have e4 := (hBr.cell (p := ⟨bb, off + j * 14 + 4, none⟩) hbs).trans c4
      have e5 := (hBr.cell (p := ⟨bb, off + j * 14 + 5, none⟩) hbs).trans c5
      have e6 := (hBr.cell (p := ⟨bb, off + j * 14 + 6, none⟩) hbs).trans c6
      have e7 := (hBr.cell (p := ⟨bb, off + j * 14 + 7, none⟩) hbs).trans c7
      have e8 := (hBr.cell (p := ⟨bb, off + j * 14 + 8, none⟩) hbs).trans c8
      have e9 := (hBr.cell (p := ⟨bb, off + j * 14 + 9, none⟩) hbs).trans c9
      have e10 := (hBr.cell (p := ⟨bb, off + j * 14 + 10, none⟩) hbs).trans c10
      have e11 := (hBr.cell (p := ⟨bb, off + j * 14 + 11, none⟩) hbs).trans c11
      have e12 := (hBr.cell (p := ⟨bb, off + j * 14 + 12, none⟩) hbs).trans c12
      have e13 := (hBr.cell (p := ⟨bb, off + j * 14 + 13, none⟩) hbs).trans c13
      obtain ⟨D, hD⟩ : ∃ D, ts[j] = D := ⟨_, rfl⟩
      try dsimp only at hst
      rw [hD] at hst r0 r1 r2 e0 e2 e3 e4 e5 e6 e8 e10 e11 e12 e13
      have hu := hid (show R = (((List.range ts.length).drop j).all TF && ds.all (ownX ts.length)) by rw [hS.out]; exact Hu3.out)
      clear c0 c1 c2 c3 c4 c5 c6 c7 c8 c9 c10 c11 c12 c13 hcell HC2 HC3 HC4 hD
      obtain ⟨di, dp, da, d0, d1, d2, d3, dn, dc, dk, dm, dz, dq, df⟩ := D
      dsimp only at hst r0 r1 r2 e0 e2 e3 e4 e5 e6 e8 e10 e11 e12 e13
      obtain ⟨p0, s0, rfl, -, -, -⟩ := rdsL_open r0
      obtain ⟨p1, s1, rfl, -, -, -⟩ := rdsL_open r1
      obtain ⟨p2, s2, rfl, -, -, -⟩ := rdsL_open r2
      obtain ⟨V, hV⟩ : ∃ X, wr.alloc (.cells #[.int .i64 di, Value.slice p0 dp.length s0, .int .i64 da, .int .i64 d0, .int .i64 d1, .int .i64 d2, .int .i64 d3, Value.slice p1 dn.length s1, .int .i64 dc, Value.slice p2 dk.length s2, .int .i64 dm, .int .i64 dz, .int .i64 dq, .int .i64 df] 82) = X := ⟨_, rfl⟩
      have hBV : Below wr.heap.size wr V := by rw [← hV]; exact (Below.refl _ _).alloc (Nat.le_refl _) _
      have bv : Box V wr.heap.size [.int .i64 di, Value.slice p0 dp.length s0, .int .i64 da, .int .i64 d0, .int .i64 d1, .int .i64 d2, .int .i64 d3, Value.slice p1 dn.length s1, .int .i64 dc, Value.slice p2 dk.length s2, .int .i64 dm, .int .i64 dz, .int .i64 dq, .int .i64 df] := by rw [← hV]; exact Box.alloc _ _ _
      have bwv := bwr.below hBV
      have HBV := hid (hBr.trans (hBV.mono hBr.size))
      have HB2 := hid (hB.trans (hBV.mono hB.size))
      have y0 : V.cell? ⟨wr.heap.size, 0, none⟩ = some (.int .i64 di) := bv.2 0 (by simp)
      have y1 : V.cell? ⟨wr.heap.size, 1, none⟩ = some (Value.slice p0 dp.length s0) := bv.2 1 (by simp)
      have y2 : V.cell? ⟨wr.heap.size, 2, none⟩ = some (.int .i64 da) := bv.2 2 (by simp)
      have y3 : V.cell? ⟨wr.heap.size, 3, none⟩ = some (.int .i64 d0) := bv.2 3 (by simp)
      have y4 : V.cell? ⟨wr.heap.size, 4, none⟩ = some (.int .i64 d1) := bv.2 4 (by simp)
      have y5 : V.cell? ⟨wr.heap.size, 5, none⟩ = some (.int .i64 d2) := bv.2 5 (by simp)
      have y6 : V.cell? ⟨wr.heap.size, 6, none⟩ = some (.int .i64 d3) := bv.2 6 (by simp)
      have y7 : V.cell? ⟨wr.heap.size, 7, none⟩ = some (Value.slice p1 dn.length s1) := bv.2 7 (by simp)
      have y8 : V.cell? ⟨wr.heap.size, 8, none⟩ = some (.int .i64 dc) := bv.2 8 (by simp)
      have y9 : V.cell? ⟨wr.heap.size, 9, none⟩ = some (Value.slice p2 dk.length s2) := bv.2 9 (by simp)
      have y10 : V.cell? ⟨wr.heap.size, 10, none⟩ = some (.int .i64 dm) := bv.2 10 (by simp)
      have y11 : V.cell? ⟨wr.heap.size, 11, none⟩ = some (.int .i64 dz) := bv.2 11 (by simp)
      have y12 : V.cell? ⟨wr.heap.size, 12, none⟩ = some (.int .i64 dq) := bv.2 12 (by simp)
      have y13 : V.cell? ⟨wr.heap.size, 13, none⟩ = some (.int .i64 df) := bv.2 13 (by simp)
      have z0 : V.cell? ⟨w.heap.size, 0, none⟩ = some (Value.slice a0 fs.length cap0) := bwv.2 0 (by simp)
      have z1 : V.cell? ⟨w.heap.size, 1, none⟩ = some (Value.slice a1 hs.length cap1) := bwv.2 1 (by simp)
      have z2 : V.cell? ⟨w.heap.size, 2, none⟩ = some (Value.slice a2 ds.length cap2) := bwv.2 2 (by simp)
      have z3 : V.cell? ⟨w.heap.size, 3, none⟩ = some (Value.slice (some ⟨bb, off, none⟩) ts.length cap3) := bwv.2 3 (by simp)
      have z4 : V.cell? ⟨w.heap.size, 4, none⟩ = some (Value.slice a4 lg.length cap4) := bwv.2 4 (by simp)
      have hR1 := hid (rdsL.below R1.out HBV.out)
      have hR2 := hid (rdsL.below R2.out HBV.out)
      have hT0 := hid (rdsL.below r0 HBV.out)
      have hT1 := hid (rdsL.below r1 HBV.out)
      have hT2 := hid (rdsL.below r2 HBV.out)
      clear bv bwv bwr r0 r1 r2
      by_cases hid_ : di = (j : Int)
      · subst hid_
        have hself : (((j : Int) == (j : Int)) : Bool) = true := by simp
        go_wp2_with fail
        refine (impl_ThreadOk0 ⟨hs, ds⟩ ⟨(j : Int), dp, da, d0, d1, d2, d3, dn, dc, dk, dm, dz, dq, df⟩ _ _ _ _ _ _ hR1.out hR2.out hT0.out hT1.out hT2.out).mono ?_
        rintro e w3 ⟨rfl, b3⟩
        have HB3 := hid (HB2.out.trans (b3.mono HB2.out.size))
        have HB4 := hid (HBV.out.trans (b3.mono HBV.out.size))
        clear hV hR1 hR2 hT0 hT1 hT2 e0 e1 e2 e3 e4 e5 e6 e7 e8 e9 e10 e11 e12 e13 y0 y1 y2 y3 y4 y5 y6 y7 y8 y9 y10 y11 y12 y13 z0 z1 z2 z3 z4
        cases hT : threadOk ⟨hs, ds⟩ ⟨(j : Int), dp, da, d0, d1, d2, d3, dn, dc, dk, dm, dz, dq, df⟩ with
        | false =>
          have Hn := hid (show ((List.range ts.length).drop j).all TF = false by rw [hst.out, hT, hself]; rfl)
          go_wp2
          go_ret
          exact ⟨ret_bool (by rw [hu.out, Hn.out]; rfl), HB4.out⟩
        | true =>
          have Hn := hid (show Same (((List.range ts.length).drop (j+1)).all TF) ((List.range ts.length).all TF) from .mk (by rw [← hS.out, hst.out, hT, hself]; rfl))
          clear hst hu hS
          go_wp2
          go_roundw
          case rel => exact ⟨j+1, by omega, by go_num, Hn.out, HB3.out⟩
          case measure => simp [intOf]; omega
      · have hself : ((di == (j : Int)) : Bool) = false := by simpa using hid_
        have Hn := hid (show ((List.range ts.length).drop j).all TF = false by rw [hst.out, hself]; rfl)
        have hbn : ((di != (j : Int)) : Bool) = true := by simpa using hid_
        have HV := hid hV
        clear hself
        go_wp2
        try rw [HV.out]
        go_ret
        exact ⟨ret_bool (by rw [hu.out, Hn.out]; rfl), HBV.out⟩
    · obtain rfl : j = ts.length := by omega
      have Hu4 := hid (show R = ds.all (ownX ts.length) by rw [Hu3.out, ← hS.out, List.drop_eq_nil_of_le (by rw [List.length_range]; omega)]; rfl)
      have q2 : wr.cell? ⟨w.heap.size, 2, none⟩ = some (Value.slice a2 ds.length cap2) := bwr.2 2 (by simp)
      have BWr := hid bwr
      clear Hu3 hS HC3 bwr
      go_wp2
      clear q2
      obtain ⟨wo, rfl⟩ : ∃ X, X = wr := ⟨_, rfl⟩
      go_loopw [41] (fun i wr => ∃ k : Nat, k ≤ ds.length ∧ i = .int .i64 k ∧ Same ((ds.drop k).all (ownX ts.length)) (ds.all (ownX ts.length)) ∧ Below wo.heap.size wo wr) (fun i _ => ds.length - (intOf i).toNat)
      case atStart => exact ⟨0, by omega, rfl, .rfl, Below.refl _ _⟩
      case round =>
        obtain ⟨k, hk, rfl, hS, hB9⟩ := hrel
        have hB0 := hBr.trans (hB9.mono hBr.size)
        have HB := hid hB0
        by_cases hlk : k < ds.length
        · have hst := hid (all_step (ownX ts.length) ds k hlk)
          obtain ⟨b2, of2, cs2, rfl, hbs2, ⟨u2, rfl, z2⟩, hcell2⟩ := HC2.out k hlk
          have c0 : w.cell? ⟨b2, of2 + k * 3, none⟩ = some (.int .i64 ds[k].owner_) := hcell2 0 (show 0 < 3 by omega)
          have c1 : w.cell? ⟨b2, of2 + k * 3 + 1, none⟩ = some (.int .i64 ds[k].status_) := hcell2 1 (show 1 < 3 by omega)
          have c2 : w.cell? ⟨b2, of2 + k * 3 + 2, none⟩ = some u2 := hcell2 2 (show 2 < 3 by omega)
          have e0 := (hB0.cell (p := ⟨b2, of2 + k * 3, none⟩) hbs2).trans c0
          have e1 := (hB0.cell (p := ⟨b2, of2 + k * 3 + 1, none⟩) hbs2).trans c1
          have e2 := (hB0.cell (p := ⟨b2, of2 + k * 3 + 2, none⟩) hbs2).trans c2
          have hu := hid (show R = ((ds.drop k).all (ownX ts.length)) by rw [hS.out]; exact Hu4.out)
          have hoi := hid (show ownX ts.length ds[k] = isIn ts.length ds[k].owner_ from rfl)
          rw [hoi.out] at hst
          generalize ds[k].owner_ = ow at *
          generalize ds[k].status_ = s at *
          obtain ⟨ua, uc, rfl, -, -, -⟩ := rdsL_open z2
          obtain ⟨V, hV⟩ : ∃ X, wr.alloc (.cells #[.int .i64 ow, .int .i64 s, Value.slice ua ds[k].entries_.length uc] 85) = X := ⟨_, rfl⟩
          have hBV : Below wr.heap.size wr V := by rw [← hV]; exact (Below.refl _ _).alloc (Nat.le_refl _) _
          have bv : Box V wr.heap.size [.int .i64 ow, .int .i64 s, Value.slice ua ds[k].entries_.length uc] := by rw [← hV]; exact Box.alloc _ _ _
          have y0 : V.cell? ⟨wr.heap.size, 0, none⟩ = some (.int .i64 ow) := bv.2 0 (by simp)
          have bwv := (BWr.out.below hB9).below hBV
          have q0 : V.cell? ⟨w.heap.size, 0, none⟩ = some (Value.slice a0 fs.length cap0) := bwv.2 0 (by simp)
          have q1 : V.cell? ⟨w.heap.size, 1, none⟩ = some (Value.slice a1 hs.length cap1) := bwv.2 1 (by simp)
          have q2 : V.cell? ⟨w.heap.size, 2, none⟩ = some (Value.slice (some ⟨b2, of2, none⟩) ds.length cap2) := bwv.2 2 (by simp)
          have q3 : V.cell? ⟨w.heap.size, 3, none⟩ = some (Value.slice a3 ts.length cap3) := bwv.2 3 (by simp)
          have q4 : V.cell? ⟨w.heap.size, 4, none⟩ = some (Value.slice a4 lg.length cap4) := bwv.2 4 (by simp)
          have HBr := hid (hB0.trans (hBV.mono hB0.size))
          have HB9 := hid (hB9.trans (hBV.mono hB9.size))
          clear c0 c1 c2 hcell2 HC2 hoi z2 bwv bv
          go_wp2_with fail
          refine (impl_hasThread _ _ _ _ a3 ts.length cap3 ow _ hlt_).mono ?_
          rintro e w7 ⟨rfl, b7⟩
          have HB7 := hid (HBr.out.trans (b7.mono HBr.out.size))
          have HB8 := hid (HB9.out.trans (b7.mono HB9.out.size))
          clear hV e0 e1 e2 y0 q0 q1 q2 q3 q4
          cases ho : isIn ts.length ow with
          | true =>
            have Hn := hid (show Same ((ds.drop (k+1)).all (ownX ts.length)) (ds.all (ownX ts.length)) from .mk (by rw [← hS.out, hst.out, ho]; rfl))
            clear hst hu hS
            go_wp2
            go_roundw
            case rel => exact ⟨k+1, by omega, by go_num, Hn.out, HB8.out⟩
            case measure => simp [intOf]; omega
          | false =>
            have Hn := hid (show (ds.drop k).all (ownX ts.length) = false by rw [hst.out, ho]; rfl)
            clear hst hS
            go_wp2
            go_ret
            exact ⟨ret_bool (by rw [hu.out, Hn.out]), HB7.out⟩
        · obtain rfl : k = ds.length := by omega
          have hu := hid (show R = true by rw [Hu4.out, ← hS.out, List.drop_length]; rfl)
          clear hS HC2
          go_wp2
          go_ret
          exact ⟨ret_bool hu.out.symm, HB.out⟩
set_option maxHeartbeats 16000000 in
theorem impl_WorldOk0 (d : WorldD) (v0 v1 v2 v3 v4 : Value) (w : World) (h0 : rdsL w v0 d.first_) (h1 : rdsL w v1 d.store_.heads_) (h2 : rdsL w v2 d.store_.descs_) (h3 : rdsL w v3 d.threads_) (h4 : rdsL w v4 d.log_) (hd0 : d.store_.descs_.length ≤ 1048576) :
    Calls Tryz.prog 23 #[.agg #[v0, v1, v2, v3, v4]] w fun e w' => e = .returned (.bool (worldOk d)) ∧ Below w.heap.size w w' := by
  obtain ⟨fs, ⟨hs, ds⟩, ts, lg⟩ := d
  dsimp only at h0 h1 h2 h3 h4 ⊢
  obtain ⟨a0, cap0, rfl, hl0, hm0, -⟩ := rdsL_open h0
  obtain ⟨a1, cap1, rfl, hl1, hm1, -⟩ := rdsL_open h1
  obtain ⟨a2, cap2, rfl, hl2, hm2, hc2⟩ := rdsL_open h2
  obtain ⟨a3, cap3, rfl, hl3, hm3, hc3⟩ := rdsL_open h3
  obtain ⟨a4, cap4, rfl, hl4, hm4, hc4⟩ := rdsL_open h4
  have HC2 := hid hc2
  have HC3 := hid hc3
  have HC4 := hid hc4
  have hlf : fs.length ≤ 9223372036854775807 := by omega
  have hlh : hs.length ≤ 9223372036854775807 := by omega
  have hld : ds.length ≤ 9223372036854775807 := by omega
  have hlt_ : ts.length ≤ 9223372036854775807 := by omega
  have hll : lg.length ≤ 9223372036854775807 := by omega
  obtain ⟨W1, hW1⟩ : ∃ X, w.alloc (.cells #[Value.slice a0 fs.length cap0, Value.slice a1 hs.length cap1, Value.slice a2 ds.length cap2, Value.slice a3 ts.length cap3, Value.slice a4 lg.length cap4] 41) = X := ⟨_, rfl⟩
  have hB1 : Below w.heap.size w W1 := by rw [← hW1]; exact (Below.refl _ _).alloc (Nat.le_refl _) _
  have bw : Box W1 w.heap.size [Value.slice a0 fs.length cap0, Value.slice a1 hs.length cap1, Value.slice a2 ds.length cap2, Value.slice a3 ts.length cap3, Value.slice a4 lg.length cap4] := by rw [← hW1]; exact Box.alloc _ _ _
  have hN := bw.1
  have Hu := hid (show worldOk ⟨fs, ⟨hs, ds⟩, ts, lg⟩ = (((storeOk hs ds && ((fs.length : Int) == hs.length)) && (allIn fs (-1000000000) 1000000000 0 && inB (ts.length : Int) 1 4)) && ((List.range ts.length).all (thAt ⟨fs, ⟨hs, ds⟩, ts, lg⟩) && (ds.all (ownIn ts.length) && logOk lg ds fs.length ts.length))) from rfl)
  have Hto := hid (show thOk ⟨fs, ⟨hs, ds⟩, ts, lg⟩ = (inB (ts.length : Int) 1 4 && ((List.range ts.length).all (thAt ⟨fs, ⟨hs, ds⟩, ts, lg⟩) && ds.all (ownX ts.length))) from rfl)
  have Hlog := hid (fun w r0 r1 r2 r3 r4 => impl_logOk0 ⟨fs, ⟨hs, ds⟩, ts, lg⟩ (Value.slice a0 fs.length cap0) (Value.slice a1 hs.length cap1) (Value.slice a2 ds.length cap2) (Value.slice a3 ts.length cap3) (Value.slice a4 lg.length cap4) w r0 r1 r2 r3 r4 hd0)
  have Hthr := hid (fun w r0 r1 r2 r3 r4 => impl_threadsOk0 ⟨fs, ⟨hs, ds⟩, ts, lg⟩ (Value.slice a0 fs.length cap0) (Value.slice a1 hs.length cap1) (Value.slice a2 ds.length cap2) (Value.slice a3 ts.length cap3) (Value.slice a4 lg.length cap4) w r0 r1 r2 r3 r4)
  dsimp only at Hlog Hthr
  generalize thOk ⟨fs, ⟨hs, ds⟩, ts, lg⟩ = TT at *
  generalize worldOk ⟨fs, ⟨hs, ds⟩, ts, lg⟩ = R at *
  generalize thAt ⟨fs, ⟨hs, ds⟩, ts, lg⟩ = TF at *
  have R0 := hid h0
  have R1 := hid h1
  have R2 := hid h2
  have R3 := hid h3
  have R4 := hid h4
  have k1 : W1.cell? ⟨w.heap.size, 1, none⟩ = some (Value.slice a1 hs.length cap1) := bw.2 1 (by simp)
  have k2 : W1.cell? ⟨w.heap.size, 2, none⟩ = some (Value.slice a2 ds.length cap2) := bw.2 2 (by simp)
  have HW1 := hid hW1
  clear h0 h1 h2 h3 h4 hc2 hc3 hc4 hW1
  go_enter Tryz.func23, Tryz.ntmps23
  go_wp2_with fail
  rw [HW1.out]
  refine (impl_StoreOk0 hs ds _ _ _ (rdsL.below R1.out hB1) (rdsL.below R2.out hB1)).mono ?_
  rintro e w2 ⟨rfl, b2⟩
  have B2 := hB1.trans (b2.mono hB1.size)
  have bx2 := bw.below b2
  have N2 := bx2.1
  have HB := hid B2
  have BX2 := hid bx2
  have H0 := hid (rdsInts.1 (rdsL.below R0.out B2))
  have x0 : w2.cell? ⟨w.heap.size, 0, none⟩ = some (Value.slice a0 fs.length cap0) := bx2.2 0 (by simp)
  have x1 : w2.cell? ⟨w.heap.size, 1, none⟩ = some (Value.slice a1 hs.length cap1) := bx2.2 1 (by simp)
  have x2 : w2.cell? ⟨w.heap.size, 2, none⟩ = some (Value.slice a2 ds.length cap2) := bx2.2 2 (by simp)
  have x3 : w2.cell? ⟨w.heap.size, 3, none⟩ = some (Value.slice a3 ts.length cap3) := bx2.2 3 (by simp)
  have x4 : w2.cell? ⟨w.heap.size, 4, none⟩ = some (Value.slice a4 lg.length cap4) := bx2.2 4 (by simp)
  clear k1 k2 bx2
  cases g1 : storeOk hs ds with
  | false =>
    have hu := Hu
    have Hn := hid g1
    go_wp2
    (go_ret; exact ⟨ret_bool (by rw [hu.out, Hn.out]; rfl), HB.out⟩)
  | true =>
  have Hown := hid (ownX_in g1 ts.length)
  have Hu2 := hid (show R = ((((fs.length : Int) == hs.length) && (allIn fs (-1000000000) 1000000000 0 && inB (ts.length : Int) 1 4)) && ((List.range ts.length).all TF && (ds.all (ownIn ts.length) && logOk lg ds fs.length ts.length))) by rw [Hu.out, g1]; rfl)
  by_cases g2 : (fs.length : Int) = hs.length
  case neg =>
    have Hn := hid (show (((fs.length : Int) == hs.length)) = false by simpa using g2)
    have hu := Hu2
    go_wp2
    (go_ret; exact ⟨ret_bool (by rw [hu.out, Hn.out]; rfl), HB.out⟩)
  have g2n : fs.length = hs.length := by omega
  have Hlf := hid (show logOk lg ds fs.length ts.length = logOk lg ds hs.length ts.length by rw [g2n])
  cases g3 : allIn fs (-1000000000) 1000000000 0 with
  | false =>
    have Hn := hid g3
    have hu := hid (show R = (allIn fs (-1000000000) 1000000000 0 && ((inB (ts.length : Int) 1 4) && ((List.range ts.length).all TF && (ds.all (ownIn ts.length) && logOk lg ds fs.length ts.length)))) by rw [Hu2.out, g3]; simp)
    clear g2n
    go_wp2_with (go_at_call 47; refine (impl_allValues10 _ fs _ H0.out).mono ?_; rintro e w' ⟨rfl, rfl⟩)
    (go_ret; exact ⟨ret_bool (by rw [hu.out, Hn.out]; rfl), HB.out⟩)
  | true =>
  have Hu3 := hid (show R = (TT && logOk lg ds hs.length ts.length) by rw [Hu2.out, g3, Hlf.out, Hto.out, Hown.out, show ((fs.length : Int) == hs.length) = true by simpa using g2]; cases inB (ts.length : Int) 1 4 <;> cases (List.range ts.length).all TF <;> cases ds.all (ownIn ts.length) <;> simp)
  have T0 := hid (rdsL.below R0.out B2)
  have T1 := hid (rdsL.below R1.out B2)
  have T2 := hid (rdsL.below R2.out B2)
  have T3 := hid (rdsL.below R3.out B2)
  have T4 := hid (rdsL.below R4.out B2)
  clear Hu Hu2 g2n Hto Hown Hlf
  go_wp2_with (go_at_call 47; refine (impl_allValues10 _ fs _ H0.out).mono ?_; rintro e w' ⟨rfl, rfl⟩)
  refine (Hthr.out _ T0.out T1.out T2.out T3.out T4.out).mono ?_
  rintro e w5 ⟨rfl, b5⟩
  have B5 := hid (B2.trans (b5.mono B2.size))
  have bx5 := BX2.out.below b5
  clear x0 x1 x2 x3 x4
  have z0 : w5.cell? ⟨w.heap.size, 0, none⟩ = some (Value.slice a0 fs.length cap0) := bx5.2 0 (by simp)
  have z1 : w5.cell? ⟨w.heap.size, 1, none⟩ = some (Value.slice a1 hs.length cap1) := bx5.2 1 (by simp)
  have z2 : w5.cell? ⟨w.heap.size, 2, none⟩ = some (Value.slice a2 ds.length cap2) := bx5.2 2 (by simp)
  have z3 : w5.cell? ⟨w.heap.size, 3, none⟩ = some (Value.slice a3 ts.length cap3) := bx5.2 3 (by simp)
  have z4 : w5.cell? ⟨w.heap.size, 4, none⟩ = some (Value.slice a4 lg.length cap4) := bx5.2 4 (by simp)
  have U0 := hid (rdsL.below T0.out b5)
  have U1 := hid (rdsL.below T1.out b5)
  have U2 := hid (rdsL.below T2.out b5)
  have U3 := hid (rdsL.below T3.out b5)
  have U4 := hid (rdsL.below T4.out b5)
  clear bx5
  cases TT with
  | false =>
    go_wp2
    go_ret
    exact ⟨ret_bool (by rw [Hu3.out]; rfl), B5.out⟩
  | true =>
  go_wp2_with fail
  refine (Hlog.out _ U0.out U1.out U2.out U3.out U4.out).mono ?_
  rintro e w6 ⟨rfl, b6⟩
  have B6 := hid (B5.out.trans (b6.mono B5.out.size))
  go_wp2
  go_ret
  exact ⟨ret_bool (by rw [Hu3.out]; rfl), B6.out⟩
end Go.Proofs.YtbbdchlabdilcabGreat
