/- Chapter 11's model: Seen11. (printed by tools/mk_s11s.py) -/
import Derived.Test.YtcafdihekamnkaaGreatM8
import Derived.Test.YtcafdihekamnkaaGreatS7d
import Derived.Test.YtcafdihekamnkaaGreatS11w
import Derived.StillTailTactics
namespace Go.Proofs.YtcafdihekamnkaaGreat
set_option maxRecDepth 100000
open Go.RowKit Go.Proofs Go.Own
open Go Go.BigFrame
set_option linter.unusedVariables false
set_option linter.unusedSimpArgs false
set_option maxHeartbeats 16000000 in
theorem spec_Seen0 (d : WorldD) (v0 v1 v2 v3 v4 : Value) (w : World) (h0 : rdsL w v0 d.first_) (h1 : rdsL w v1 d.store_.heads_) (h2 : rdsL w v2 d.store_.descs_) (h3 : rdsL w v3 d.threads_) (h4 : rdsL w v4 d.log_) (hb : WorldB d) :
    Calls Tryz.prog 44 #[.agg #[v0, v1, v2, v3, v4]] w fun e w' => ∃ u : Value, e = .returned (.tuple #[u, .bool (worldOk d)]) ∧ w'.ownsRow w.heap.size 3 1 u (seenC d).length ((seenC d).flatMap encI) ∧ Below w.heap.size w w' := by
  obtain ⟨j0, hj, hy0, hy1, hy2⟩ := info_parts infoInt
  obtain ⟨fs, ⟨hs, ds⟩, ts, lg⟩ := d
  dsimp only at h0 h1 h2 h3 h4 ⊢
  obtain ⟨a0, cap0, rfl, hl0, hm0, -⟩ := rdsL_open h0
  obtain ⟨a1, cap1, rfl, hl1, hm1, hc1⟩ := rdsL_open h1
  obtain ⟨a2, cap2, rfl, hl2, hm2, hc2⟩ := rdsL_open h2
  obtain ⟨a3, cap3, rfl, hl3, hm3, hc3⟩ := rdsL_open h3
  obtain ⟨a4, cap4, rfl, hl4, hm4, hc4⟩ := rdsL_open h4
  have HC2 := hid hc2
  have HC3 := hid hc3
  have HC4 := hid hc4
  have hlf : fs.length ≤ 9223372036854775807 := by omega
  have hlh : hs.length ≤ 9223372036854775807 := by omega
  have hld : ds.length ≤ 9223372036854775807 := by omega
  have hlt_ : ts.length ≤ 9223372036854775807 := by omega
  have hll : lg.length ≤ 9223372036854775807 := by omega
  have R0 := hid h0
  have R1 := hid h1
  have R2 := hid h2
  have R3 := hid h3
  have R4 := hid h4
  have hwok := hid (fun (hk : worldOk ⟨fs, ⟨hs, ds⟩, ts, lg⟩ = true) => worldOk_store hk)
  have hyes := hid (fun (hk : worldOk ⟨fs, ⟨hs, ds⟩, ts, lg⟩ = true) => show seenC ⟨fs, ⟨hs, ds⟩, ts, lg⟩ = seenTo hs ds hs.length from if_pos hk)
  have hnot := hid (fun (hk : ¬ worldOk ⟨fs, ⟨hs, ds⟩, ts, lg⟩ = true) => show seenC ⟨fs, ⟨hs, ds⟩, ts, lg⟩ = [] from if_neg hk)
  have hsl : hs.length ≤ 1048576 := by have h := (storeB_parts (worldB_parts hb).2.1).1; exact h
  have Hok := hid (fun w r0 r1 r2 r3 r4 => spec_WorldOk0 ⟨fs, ⟨hs, ds⟩, ts, lg⟩ (Value.slice a0 fs.length cap0) (Value.slice a1 hs.length cap1) (Value.slice a2 ds.length cap2) (Value.slice a3 ts.length cap3) (Value.slice a4 lg.length cap4) w r0 r1 r2 r3 r4 hb)
  dsimp only at Hok
  generalize hres : worldOk ⟨fs, ⟨hs, ds⟩, ts, lg⟩ = R at *
  generalize seenC ⟨fs, ⟨hs, ds⟩, ts, lg⟩ = SC at *
  clear hres h0 h1 h2 h3 h4 hc2 hc3 hc4 hb
  have HC1 := hid hc1
  clear hc1
  obtain ⟨W1, hW1⟩ : ∃ X, (w.alloc (.cells #[Value.slice a0 fs.length cap0, Value.slice a1 hs.length cap1, Value.slice a2 ds.length cap2, Value.slice a3 ts.length cap3, Value.slice a4 lg.length cap4] 32)).alloc (.cells #[] 3) = X := ⟨_, rfl⟩
  have hB1 : Below w.heap.size w W1 := by rw [← hW1]; exact ((Below.refl _ _).alloc (Nat.le_refl _) _).alloc (by simp) _
  have hN : W1.heap.size = w.heap.size + 2 := by rw [← hW1]; simp
  have BP1 : Hid (BoxF W1 w.heap.size [Value.slice a0 fs.length cap0, Value.slice a1 hs.length cap1, Value.slice a2 ds.length cap2, Value.slice a3 ts.length cap3, Value.slice a4 lg.length cap4]) := by
    rw [← hW1]
    exact hid ((BoxF.alloc w #[Value.slice a0 fs.length cap0, Value.slice a1 hs.length cap1, Value.slice a2 ds.length cap2, Value.slice a3 ts.length cap3, Value.slice a4 lg.length cap4] 32).below ((Below.refl _ _).alloc (Nat.le_refl _) _))
  have O1 : Hid (W1.ownsRow (w.heap.size + 1) 3 1 (.slice (some ⟨w.heap.size + 1, 0, none⟩) 0 0) 0 []) := by
    rw [← hW1]
    have h1 := owns_litN (w.alloc (.cells #[Value.slice a0 fs.length cap0, Value.slice a1 hs.length cap1, Value.slice a2 ds.length cap2, Value.slice a3 ts.length cap3, Value.slice a4 lg.length cap4] 32)) 3 1 0 #[] (w.heap.size + 1) (by simp) rfl (Nat.zero_le _)
    rw [show (w.alloc (.cells #[Value.slice a0 fs.length cap0, Value.slice a1 hs.length cap1, Value.slice a2 ds.length cap2, Value.slice a3 ts.length cap3, Value.slice a4 lg.length cap4] 32)).heap.size = w.heap.size + 1 by simp] at h1
    exact hid h1
  have k0 : W1.cell? ⟨w.heap.size, 0, none⟩ = some (Value.slice a0 fs.length cap0) := BP1.out.1.2 0 (by simp)
  have k1 : W1.cell? ⟨w.heap.size, 1, none⟩ = some (Value.slice a1 hs.length cap1) := BP1.out.1.2 1 (by simp)
  have k2 : W1.cell? ⟨w.heap.size, 2, none⟩ = some (Value.slice a2 ds.length cap2) := BP1.out.1.2 2 (by simp)
  have k3 : W1.cell? ⟨w.heap.size, 3, none⟩ = some (Value.slice a3 ts.length cap3) := BP1.out.1.2 3 (by simp)
  have k4 : W1.cell? ⟨w.heap.size, 4, none⟩ = some (Value.slice a4 lg.length cap4) := BP1.out.1.2 4 (by simp)
  have HW1 := hid hW1
  clear hW1
  go_enter Tryz.func44, Tryz.ntmps44
  go_wp2_with fail
  rw [HW1.out]
  refine (Hok.out _ (rdsL.below R0.out hB1) (rdsL.below R1.out hB1) (rdsL.below R2.out hB1) (rdsL.below R3.out hB1) (rdsL.below R4.out hB1)).mono ?_
  rintro e w2 ⟨rfl, b2⟩
  have hB2 := hB1.trans (b2.mono hB1.size)
  have hs2 := b2.size
  have BP2 := hid (BP1.out.below b2)
  have O2 := hid (owns_below O1.out b2)
  clear k0 k1 k2 k3 k4 BP1 O1 HW1
  cases R with
  | false =>
    have Hn := hid (hnot.out (by simp))
    go_wp2
    go_ret2
    exact ⟨_, rfl, by rw [Hn.out]; exact owns_mono O2.out (by omega), hB2⟩
  | true =>
  have Hst := hid (hwok.out rfl)
  have Hfin := hid (hyes.out rfl)
  have hM2 : w.heap.size + 1 ≤ w2.heap.size := by omega
  clear hwok hyes hnot Hok
  go_wp2
  go_loopw [5, 4] (fun i u wr => ∃ (k : Nat) (ua : Option Addr) (um uc : Nat), k ≤ hs.length ∧ i = .int .i64 k ∧ u = Value.slice ua um uc ∧ Below w.heap.size w wr ∧ w.heap.size + 1 ≤ wr.heap.size ∧ Hid (BoxF wr w.heap.size [Value.slice a0 fs.length cap0, Value.slice a1 hs.length cap1, Value.slice a2 ds.length cap2, Value.slice a3 ts.length cap3, Value.slice a4 lg.length cap4]) ∧ Hid (wr.ownsRow (w.heap.size + 1) 3 1 (.slice ua um uc) (seenTo hs ds k).length ((seenTo hs ds k).flatMap encI))) (fun i _ _ => hs.length - (intOf i).toNat)
  case atStart => exact ⟨0, _, _, _, by omega, rfl, rfl, hB2, hM2, BP2, O2⟩
  case round =>
    clear hB1 hN BP2 O2 hB2 hM2 hs2 b2
    clear w2
    clear W1
    obtain ⟨k, ua, um, uc, hk, rfl, rfl, hB, hM, BP, O1⟩ := hrel
    have q1 : wr.cell? ⟨w.heap.size, 1, none⟩ = some (Value.slice a1 hs.length cap1) := BP.out.1.2 1 (by simp)
    have q2 : wr.cell? ⟨w.heap.size, 2, none⟩ = some (Value.slice a2 ds.length cap2) := BP.out.1.2 2 (by simp)
    by_cases hlt : k < hs.length
    · obtain ⟨bb, off, cs, rfl, hbs, rfl, hcell⟩ := HC1.out k hlt
      obtain ⟨hval, hver, hcase⟩ := held_at Hst.out k hlt
      have c0 : w.cell? ⟨bb, off + k * 3, none⟩ = some (.int .i64 hs[k].value_) := hcell 0 (show 0 < 3 by omega)
      have c1 : w.cell? ⟨bb, off + k * 3 + 1, none⟩ = some (.int .i64 hs[k].version_) := hcell 1 (show 1 < 3 by omega)
      have c2 : w.cell? ⟨bb, off + k * 3 + 2, none⟩ = some (.int .i64 hs[k].desc_) := hcell 2 (show 2 < 3 by omega)
      have e0 := (hB.cell (p := ⟨bb, off + k * 3, none⟩) hbs).trans c0
      have e1 := (hB.cell (p := ⟨bb, off + k * 3 + 1, none⟩) hbs).trans c1
      have e2 := (hB.cell (p := ⟨bb, off + k * 3 + 2, none⟩) hbs).trans c2
      have Hno := hid (fun (q : ¬ 0 ≤ hs[k].desc_) => seenH_no (ds := ds) (i := k) (h := hs[k]) q)
      have Hnot := hid (fun (q : ¬ dStat ds hs[k].desc_ = 1) => seenH_not (ds := ds) (i := k) (h := hs[k]) q)
      have Hyes := hid (fun (e : Entry) (q1 : 0 ≤ hs[k].desc_) (q2 : dStat ds hs[k].desc_ = 1) (q3 : entryAt ds hs[k].desc_ k = some e) => seenH_yes (ds := ds) (i := k) (h := hs[k]) (e := e) q1 q2 q3)
      obtain ⟨SH, hSH⟩ : ∃ SH, Hid (seenH ds k hs[k] = SH) := ⟨_, hid rfl⟩
      rw [hSH.out] at Hno Hnot Hyes
      generalize hs[k].value_ = hv at *
      generalize hs[k].version_ = hr at *
      generalize hs[k].desc_ = hd at *
      obtain ⟨V, hV⟩ : ∃ X, wr.alloc (.cells #[.int .i64 hv, .int .i64 hr, .int .i64 hd] 144) = X := ⟨_, rfl⟩
      have hBV : Below wr.heap.size wr V := by rw [← hV]; exact (Below.refl _ _).alloc (Nat.le_refl _) _
      have bv : BoxF V wr.heap.size [.int .i64 hv, .int .i64 hr, .int .i64 hd] := by rw [← hV]; exact BoxF.alloc _ _ _
      have hBw := hB.trans (hBV.mono hB.size)
      have HBw := hid hBw
      have HSZ := hid (show w.heap.size + 1 ≤ V.heap.size by have := hBV.size; omega)
      have BPV := hid (BP.out.below hBV)
      have OV := hid (owns_below O1.out hBV)
      have y0 : V.cell? ⟨wr.heap.size, 0, none⟩ = some (.int .i64 hv) := bv.1.2 0 (by simp)
      have y2 : V.cell? ⟨wr.heap.size, 2, none⟩ = some (.int .i64 hd) := bv.1.2 2 (by simp)
      have z1 : V.cell? ⟨w.heap.size, 1, none⟩ = some (Value.slice (some ⟨bb, off, none⟩) hs.length cap1) := BPV.out.1.2 1 (by simp)
      have z2 : V.cell? ⟨w.heap.size, 2, none⟩ = some (Value.slice a2 ds.length cap2) := BPV.out.1.2 2 (by simp)
      have bvl := bv.1.1
      clear c0 c1 c2 hcell HC1 O1 BP bv
      rcases hcase with rfl | ⟨m, p, hml, hpl, rfl, hop, hoc, hpc, hst, hen⟩
      · have Hx := hid (Hno.out (by omega))
        clear Hno Hnot Hyes
        obtain ⟨W3, hW3⟩ : ∃ Y, (V).alloc (.cells #[.int .i64 (hv)] 3) = Y := ⟨_, rfl⟩
        have b23 : Below (V).heap.size (V) W3 := by rw [← hW3]; exact (Below.refl _ _).alloc (Nat.le_refl _) _
        have hB3 := (HBw.out).trans (b23.mono (HBw.out).size)
        have hl3 : Flat W3 (.slice (some ⟨(V).heap.size, 0, none⟩) 1 1) 1 1 [.int .i64 (hv)] := by rw [← hW3]; exact Flat.of_owns (owns_litN (V) 3 1 1 #[.int .i64 (hv)] 0 (Nat.zero_le _) rfl (by decide))
        have O3 := owns_below (OV.out) b23
        have hone := oneCell_1 (hv)
        have hs3 := hB3.size
        have hs3' : w.heap.size + 1 ≤ W3.heap.size := by have := b23.size; have := (HSZ.out); omega
        have BP3 := (BPV.out).below b23
        have hlen9 := seenTo_len hs ds k
        go_wp2_with (at_builtin; refine wpList_append_flat rfl _ _ 24 rfl (w.heap.size + 1) 3 j0 (.int .i64 0) 1 8 Tryz.underlying24 hj hy0 hy1 hy2 rfl (by decide) _ _ _ rfl O3 _ _ _ rfl hl3 hone (by unfold maxLen; omega) (by omega) hs3' ?_)
        intro v4 w4 o4 g4
        obtain ⟨ya, ym, yc, rfl⟩ := owns_form3 o4
        have hB4 : Below w.heap.size w w4 := hB3.trans (below_grown g4 hB3.size fun b e => by have := (World.ownsRow.lt O3 b e).1; omega)
        have BP4 := hid (BP3.grown g4 (fun e => by have := (World.ownsRow.lt O3 _ e).1; omega))
        have O4 := hid o4
        have hs4 : w.heap.size + 1 ≤ w4.heap.size := by have := g4.size; omega
        clear o4 g4 O3 BP3 hl3 hW3 b23 hone hlen9
        go_wp2
        go_roundw
        case rel => exact ⟨k+1, _, _, _, by omega, by go_num, rfl, hB4, hs4, BP4, hid (by rw [seenTo_len, seenTo_succ hlt, (hid (hSH.out.trans Hx.out)).out, encI_snoc]; exact O4.out)⟩
        case measure => simp [intOf]; omega
      · obtain ⟨b2, of2, cs2, rfl, hbs2, ⟨u2, rfl, r2⟩, hcell2⟩ := HC2.out m hml
        have c1 : w.cell? ⟨b2, of2 + m * 3 + 1, none⟩ = some (.int .i64 ds[m].status_) := hcell2 1 (show 1 < 3 by omega)
        have c2 : w.cell? ⟨b2, of2 + m * 3 + 2, none⟩ = some u2 := hcell2 2 (show 2 < 3 by omega)
        have f1 := (hBw.cell (p := ⟨b2, of2 + m * 3 + 1, none⟩) hbs2).trans c1
        have f2 := (hBw.cell (p := ⟨b2, of2 + m * 3 + 2, none⟩) hbs2).trans c2
        have hm0 : (0 : Int) ≤ (m : Int) := by omega
        have hmi : (m : Int) < (ds.length : Int) := by omega
        have Hyes2 := hid (fun h2 => Hyes.out _ hm0 h2 hen)
        rw [hst] at Hnot Hyes2
        clear hst hen Hno Hyes hcell2 c1 c2 HC2
        obtain ⟨s, hsd⟩ : ∃ s, ds[m].status_ = s := ⟨_, rfl⟩
        rw [hsd] at f1 Hnot Hyes2
        by_cases hs1 : s = 1
        case neg =>
          have Hx := hid (Hnot.out hs1)
          clear Hnot Hyes2
          obtain ⟨W3, hW3⟩ : ∃ Y, (V).alloc (.cells #[.int .i64 (hv)] 3) = Y := ⟨_, rfl⟩
          have b23 : Below (V).heap.size (V) W3 := by rw [← hW3]; exact (Below.refl _ _).alloc (Nat.le_refl _) _
          have hB3 := (HBw.out).trans (b23.mono (HBw.out).size)
          have hl3 : Flat W3 (.slice (some ⟨(V).heap.size, 0, none⟩) 1 1) 1 1 [.int .i64 (hv)] := by rw [← hW3]; exact Flat.of_owns (owns_litN (V) 3 1 1 #[.int .i64 (hv)] 0 (Nat.zero_le _) rfl (by decide))
          have O3 := owns_below (OV.out) b23
          have hone := oneCell_1 (hv)
          have hs3 := hB3.size
          have hs3' : w.heap.size + 1 ≤ W3.heap.size := by have := b23.size; have := (HSZ.out); omega
          have BP3 := (BPV.out).below b23
          have hlen9 := seenTo_len hs ds k
          go_wp2_with (at_builtin; refine wpList_append_flat rfl _ _ 24 rfl (w.heap.size + 1) 3 j0 (.int .i64 0) 1 8 Tryz.underlying24 hj hy0 hy1 hy2 rfl (by decide) _ _ _ rfl O3 _ _ _ rfl hl3 hone (by unfold maxLen; omega) (by omega) hs3' ?_)
          intro v4 w4 o4 g4
          obtain ⟨ya, ym, yc, rfl⟩ := owns_form3 o4
          have hB4 : Below w.heap.size w w4 := hB3.trans (below_grown g4 hB3.size fun b e => by have := (World.ownsRow.lt O3 b e).1; omega)
          have BP4 := hid (BP3.grown g4 (fun e => by have := (World.ownsRow.lt O3 _ e).1; omega))
          have O4 := hid o4
          have hs4 : w.heap.size + 1 ≤ w4.heap.size := by have := g4.size; omega
          clear o4 g4 O3 BP3 hl3 hW3 b23 hone hlen9
          go_wp2
          go_roundw
          case rel => exact ⟨k+1, _, _, _, by omega, by go_num, rfl, hB4, hs4, BP4, hid (by rw [seenTo_len, seenTo_succ hlt, (hid (hSH.out.trans Hx.out)).out, encI_snoc]; exact O4.out)⟩
          case measure => simp [intOf]; omega
        subst hs1
        have Hx := hid (Hyes2.out rfl)
        have RE := hid (rdsEntrys.1 (rdsL.below r2 hBw))
        obtain ⟨a9, cap9, rfl, hl9, hm9, hc9⟩ := (rdsEntrys.1 r2).open
        obtain ⟨b3, of3, rfl, hbs3, d0, d1, d2, d3, d4⟩ := hc9 p hpl
        have g0 := (hBw.cell (p := ⟨b3, of3 + p * 5, none⟩) hbs3).trans d0
        have g1 := (hBw.cell (p := ⟨b3, of3 + p * 5 + 1, none⟩) hbs3).trans d1
        have g2 := (hBw.cell (p := ⟨b3, of3 + p * 5 + 2, none⟩) hbs3).trans d2
        have g3 := (hBw.cell (p := ⟨b3, of3 + p * 5 + 3, none⟩) hbs3).trans d3
        have g4 := (hBw.cell (p := ⟨b3, of3 + p * 5 + 4, none⟩) hbs3).trans d4
        obtain ⟨E, hE⟩ : ∃ E, ds[m].entries_[p] = E := ⟨_, rfl⟩
        rw [hE] at g0 g1 g2 g3 g4 Hx
        have hp0 : (0 : Int) ≤ (p : Int) := by omega
        have hpi : (p : Int) < (ds[m].entries_.length : Int) := by omega
        have hV1 := hBV.size
        have lt0 : w.heap.size < V.heap.size := by omega
        have lt2 : b2 < V.heap.size := by have := hBw.size; omega
        have lt3 : b3 < V.heap.size := by have := hBw.size; omega
        have X1 := Ext.cell lt0 z2
        have X2 := Ext.cell bvl y2
        have X3 := Ext.cell lt2 f2
        have X4 := Ext.cell lt3 g0
        have X5 := Ext.cell lt3 g1
        have X6 := Ext.cell lt3 g2
        have X7 := Ext.cell lt3 g3
        have X8 := Ext.cell lt3 g4
        have HOC := hid hoc
        clear d0 d1 d2 d3 d4 hc9 Hnot Hyes2 g0 g1 g2 g3 g4 r2 hpc hop hsd hE hoc
        have mk1 : ∀ (P : Program) (o : Oper) (a : Act) (w : World) (v : Value), Oper.plainAt P o a w v = Oper.plainUpon w v ((execOp a.eval o).run P w) := fun _ _ _ _ _ => rfl; have mk2 : ∀ (w w' : World) (v u : Value), Oper.plainUpon w v (.ok (.value u) w') = (w' = w ∧ u = v) := fun _ _ _ _ => rfl
        have LC : (ds[m].entries_.length : Int) ≤ 9223372036854775807 := by omega
        go_upto_region 10 with fail
        refine Go.wp_region_rel [Rel.none, Rel.none, Rel.none, Rel.none, Rel.none, Rel.none, Rel.none, Rel.none, Rel.none, Rel.none, Rel.none, Rel.none, Rel.none, Rel.none, Rel.none, Rel.none, Rel.none, Rel.val (.int .i64 (p : Int)), Rel.none, Rel.none, Rel.box V.heap.size 5, Rel.wrote] [[], [], [], [], [], [], [], [], [], [], [], [], [], [], [], [], [], [], [], [], [], [20]] [.plain, .plain, .plain, .plain, .plain, .plain, .plain, .plain, .plain, .plain, .plain, .plain, .plain, .plain, .plain, .plain, .plain, .make, .plain, .plain, .make, .write 20] (by kernel_rfl) (by kernel_rfl) (by kernel_rfl) (by kernel_rfl) (by kernel_rfl) ?_
        (refine Go.wpR_plain (Go.clsExt _) rfl rfl (fun K hK => ?_); go_simp; refine hK _ ?_; clear hK K)
        (refine Go.wpR_plain (Go.clsExt _) rfl rfl (fun K hK => ?_); go_simp; refine hK _ ?_; clear hK K)
        (refine Go.wpR_plain (Go.clsExt _) rfl rfl (fun K hK => ?_); go_simp; refine hK _ ?_; clear hK K)
        (refine Go.wpR_plain (Go.clsExt _) rfl rfl (fun K hK => ?_); go_simp; refine hK _ ?_; clear hK K)
        (refine Go.wpR_plain (Go.clsExt _) rfl rfl (fun K hK => ?_); go_simp; refine hK _ ?_; clear hK K)
        (refine Go.wpR_plain (Go.clsExt _) rfl rfl (fun K hK => ?_); go_simp; refine hK _ ?_; clear hK K)
        (refine Go.wpR_plain (Go.clsExt _) rfl rfl (fun K hK => ?_); go_simp; refine hK _ ?_; clear hK K)
        (refine Go.wpR_plain (Go.clsExt _) rfl rfl (fun K hK => ?_); go_simp; refine hK _ ?_; clear hK K)
        (refine Go.wpR_plain (Go.clsExt _) rfl rfl (fun K hK => ?_); go_simp; refine hK _ ?_; clear hK K)
        (refine Go.wpR_plain (Go.clsExt _) rfl rfl (fun K hK => ?_); go_simp; refine hK _ ?_; clear hK K)
        (refine Go.wpR_plain (Go.clsExt _) rfl rfl (fun K hK => ?_); go_simp; refine hK _ ?_; clear hK K)
        (refine Go.wpR_plain (Go.clsExt _) rfl rfl (fun K hK => ?_); go_simp; refine hK _ ?_; clear hK K)
        (refine Go.wpR_plain (Go.clsExt _) rfl rfl (fun K hK => ?_); go_simp; refine hK _ ?_; clear hK K)
        (refine Go.wpR_plain (Go.clsExt _) rfl rfl (fun K hK => ?_); go_simp; refine hK _ ?_; clear hK K)
        (refine Go.wpR_plain (Go.clsExt _) rfl rfl (fun K hK => ?_); go_simp; refine hK _ ?_; clear hK K)
        (refine Go.wpR_plain (Go.clsExt _) rfl rfl (fun K hK => ?_); go_simp; refine hK _ ?_; clear hK K)
        (refine Go.wpR_plain (Go.clsExt _) rfl rfl (fun K hK => ?_); go_simp; refine hK _ ?_; clear hK K)
        refine Go.wpR_call (Go.clsExt _) 111 #[Value.slice (some ⟨b3, of3, none⟩) ds[m].entries_.length cap9, .int .i64 (k : Int)] (Rel.val (.int .i64 (p : Int))) rfl rfl rfl rfl (fun w => by go_simp) (fun w8 hC hD => ?_) ?_
        · obtain ⟨E9, rfl⟩ := hC
          refine (spec_OpenedIs _ ds[m].entries_ _ (p : Int) E9.w (Entrys.below RE.out E9.h) HOC.out).mono ?_
          rintro e w9 ⟨rfl, b9⟩
          exact ⟨_, rfl, b9, rfl, trivial⟩
        rintro _ lo17 hi17 rfl
        (refine Go.wpR_plain (Go.clsExt _) rfl rfl (fun K hK => ?_); go_simp; refine hK _ ?_; clear hK K)
        (refine Go.wpR_plain (Go.clsExt _) rfl rfl (fun K hK => ?_); go_simp; refine hK _ ?_; clear hK K)
        refine Go.wpR_box (Go.clsExt _) 5 #[.int .i64 0, .int .i64 0, .int .i64 0, .int .i64 0, .bool false] 146 rfl rfl rfl rfl rfl (fun w => by go_simp) (fun lo => ?_)
        refine Go.wpR_store (Go.clsExt _) 20 5 lo _ (.agg #[.int .i64 E.object_, .int .i64 E.version_, .int .i64 E.old_, .int .i64 E.new_, .bool E.write_]) [.int .i64 E.object_, .int .i64 E.version_, .int .i64 E.old_, .int .i64 E.new_, .bool E.write_] rfl rfl rfl (by decide) rfl (by first | rfl | (simp [Go.Oper.stored]; go_simp)) (fun w h => Go.wrote_r h) (fun w cs0 hn hB => ⟨_, (by obtain ⟨z0, z1, z2, z3, z4, ⟨kz0, kz1, kz2, kz3, kz4⟩, fz0, fz1, fz2, fz3, fz4⟩ := box_any5 hn hB; go_simp), boxset5 hn hB _ _ _ _ _⟩) rfl ?_
        refine Go.wpR_nil ?_
        intro E9 hm9
        have bx := (hm9.one 21 _ _ _ rfl).1.2 _ rfl
        have hE9 := E9.h
        obtain ⟨X, hX⟩ : ∃ X, X = E9.w := ⟨_, rfl⟩
        rw [← hX] at bx hE9 ⊢
        have HBX := hid (hBw.trans (hE9.mono hBw.size))
        have HSX := hid (show w.heap.size + 1 ≤ X.heap.size by have := hE9.size; omega)
        have BPX := hid (BPV.out.below hE9)
        have OX := hid (owns_below OV.out hE9)
        have m3 : X.cell? ⟨lo, 3, none⟩ = some (.int .i64 E.new_) := bx.1.2 3 (by simp)
        have m4 : X.cell? ⟨lo, 4, none⟩ = some (.bool E.write_) := bx.1.2 4 (by simp)
        clear hX hm9 E9 X1 X2 X3 X4 X5 X6 X7 X8 mk1 mk2 bx hE9 y0 y2 z1 z2 e0 e1 e2 f1 f2 q1 q2
        have HSZ := HSX
        cases hwr : E.write_ with
        | true =>
          have Hv := hid (show SH = E.new_ by rw [Hx.out]; unfold seenE; rw [if_pos hwr])
          rw [hwr] at m4
          obtain ⟨W3, hW3⟩ : ∃ Y, (X).alloc (.cells #[.int .i64 (E.new_)] 3) = Y := ⟨_, rfl⟩
          have b23 : Below (X).heap.size (X) W3 := by rw [← hW3]; exact (Below.refl _ _).alloc (Nat.le_refl _) _
          have hB3 := (HBX.out).trans (b23.mono (HBX.out).size)
          have hl3 : Flat W3 (.slice (some ⟨(X).heap.size, 0, none⟩) 1 1) 1 1 [.int .i64 (E.new_)] := by rw [← hW3]; exact Flat.of_owns (owns_litN (X) 3 1 1 #[.int .i64 (E.new_)] 0 (Nat.zero_le _) rfl (by decide))
          have O3 := owns_below (OX.out) b23
          have hone := oneCell_1 (E.new_)
          have hs3 := hB3.size
          have hs3' : w.heap.size + 1 ≤ W3.heap.size := by have := b23.size; have := (HSZ.out); omega
          have BP3 := (BPX.out).below b23
          have hlen9 := seenTo_len hs ds k
          go_wp2_with (at_builtin; refine wpList_append_flat rfl _ _ 24 rfl (w.heap.size + 1) 3 j0 (.int .i64 0) 1 8 Tryz.underlying24 hj hy0 hy1 hy2 rfl (by decide) _ _ _ rfl O3 _ _ _ rfl hl3 hone (by unfold maxLen; omega) (by omega) hs3' ?_)
          intro v4 w4 o4 g4
          obtain ⟨ya, ym, yc, rfl⟩ := owns_form3 o4
          have hB4 : Below w.heap.size w w4 := hB3.trans (below_grown g4 hB3.size fun b e => by have := (World.ownsRow.lt O3 b e).1; omega)
          have BP4 := hid (BP3.grown g4 (fun e => by have := (World.ownsRow.lt O3 _ e).1; omega))
          have O4 := hid o4
          have hs4 : w.heap.size + 1 ≤ w4.heap.size := by have := g4.size; omega
          clear o4 g4 O3 BP3 hl3 hW3 b23 hone hlen9
          go_wp2
          go_roundw
          case rel => exact ⟨k+1, _, _, _, by omega, by go_num, rfl, hB4, hs4, BP4, hid (by rw [seenTo_len, seenTo_succ hlt, (hid (hSH.out.trans Hv.out)).out, encI_snoc]; exact O4.out)⟩
          case measure => simp [intOf]; omega
        | false =>
          have Hv := hid (show SH = hv by rw [Hx.out]; unfold seenE; rw [if_neg (by rw [hwr]; simp)])
          rw [hwr] at m4
          obtain ⟨W3, hW3⟩ : ∃ Y, (X).alloc (.cells #[.int .i64 (hv)] 3) = Y := ⟨_, rfl⟩
          have b23 : Below (X).heap.size (X) W3 := by rw [← hW3]; exact (Below.refl _ _).alloc (Nat.le_refl _) _
          have hB3 := (HBX.out).trans (b23.mono (HBX.out).size)
          have hl3 : Flat W3 (.slice (some ⟨(X).heap.size, 0, none⟩) 1 1) 1 1 [.int .i64 (hv)] := by rw [← hW3]; exact Flat.of_owns (owns_litN (X) 3 1 1 #[.int .i64 (hv)] 0 (Nat.zero_le _) rfl (by decide))
          have O3 := owns_below (OX.out) b23
          have hone := oneCell_1 (hv)
          have hs3 := hB3.size
          have hs3' : w.heap.size + 1 ≤ W3.heap.size := by have := b23.size; have := (HSZ.out); omega
          have BP3 := (BPX.out).below b23
          have hlen9 := seenTo_len hs ds k
          go_wp2_with (at_builtin; refine wpList_append_flat rfl _ _ 24 rfl (w.heap.size + 1) 3 j0 (.int .i64 0) 1 8 Tryz.underlying24 hj hy0 hy1 hy2 rfl (by decide) _ _ _ rfl O3 _ _ _ rfl hl3 hone (by unfold maxLen; omega) (by omega) hs3' ?_)
          intro v4 w4 o4 g4
          obtain ⟨ya, ym, yc, rfl⟩ := owns_form3 o4
          have hB4 : Below w.heap.size w w4 := hB3.trans (below_grown g4 hB3.size fun b e => by have := (World.ownsRow.lt O3 b e).1; omega)
          have BP4 := hid (BP3.grown g4 (fun e => by have := (World.ownsRow.lt O3 _ e).1; omega))
          have O4 := hid o4
          have hs4 : w.heap.size + 1 ≤ w4.heap.size := by have := g4.size; omega
          clear o4 g4 O3 BP3 hl3 hW3 b23 hone hlen9
          go_wp2
          go_roundw
          case rel => exact ⟨k+1, _, _, _, by omega, by go_num, rfl, hB4, hs4, BP4, hid (by rw [seenTo_len, seenTo_succ hlt, (hid (hSH.out.trans Hv.out)).out, encI_snoc]; exact O4.out)⟩
          case measure => simp [intOf]; omega
    · obtain rfl : k = hs.length := by omega
      go_wp2
      go_ret2
      exact ⟨_, rfl, by rw [Hfin.out]; exact owns_mono O1.out (by omega), hB⟩
end Go.Proofs.YtcafdihekamnkaaGreat
