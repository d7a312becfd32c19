/- Chapter 12's model: whether what was seen together was there at one time. (printed by tools/mk_s12k.py) -/
import Derived.Test.YtbbdchlabdilcaaGreatM10
import Derived.Test.YtbbdchlabdilcaaGreatWr3
import Derived.StillTailTactics
namespace Go.Proofs.YtbbdchlabdilcaaGreat
set_option maxRecDepth 100000
open Go.RowKit Go.Proofs Go.Own
open Go Go.BigFrame
set_option linter.unusedVariables false
set_option linter.unusedSimpArgs false
theorem boxset4 {w : World} {lo : Nat} {cs0 : List Value} (hn : cs0.length = 4) (h : BoxF w lo cs0) (a b c d : Value) : BoxF ((((w.setCell ⟨lo, 0, none⟩ a).setCell ⟨lo, 1, none⟩ b).setCell ⟨lo, 2, none⟩ c).setCell ⟨lo, 3, none⟩ d) lo [a, b, c, d] ∧ ChgS (fun k => k = lo) w ((((w.setCell ⟨lo, 0, none⟩ a).setCell ⟨lo, 1, none⟩ b).setCell ⟨lo, 2, none⟩ c).setCell ⟨lo, 3, none⟩ d) ∧ ((((w.setCell ⟨lo, 0, none⟩ a).setCell ⟨lo, 1, none⟩ b).setCell ⟨lo, 2, none⟩ c).setCell ⟨lo, 3, none⟩ d).heap.size = w.heap.size :=
  match cs0, hn with
  | [x, y, z, v], _ => ⟨(((h.set 0 (by simp) a).set 1 (by simp) b).set 2 (by simp) c).set 3 (by simp) d, ((((ChgS.refl (fun k => k = lo) w).set _ _ rfl).set _ _ rfl).set _ _ rfl).set _ _ rfl, by simp [World.setCell]⟩
theorem box_any4 {w : World} {lo : Nat} {cs0 : List Value} (hn : cs0.length = 4) (h : BoxF w lo cs0) : ∃ a b c d, (w.cell? ⟨lo, 0, none⟩ = some a ∧ w.cell? ⟨lo, 1, none⟩ = some b ∧ w.cell? ⟨lo, 2, none⟩ = some c ∧ w.cell? ⟨lo, 3, none⟩ = some d) ∧ w.frozen? ⟨lo, 0, none⟩ = false ∧ w.frozen? ⟨lo, 1, none⟩ = false ∧ w.frozen? ⟨lo, 2, none⟩ = false ∧ w.frozen? ⟨lo, 3, none⟩ = false :=
  match cs0, hn with
  | [x, y, z, v], _ => ⟨x, y, z, v, ⟨h.1.2 0 (by simp), h.1.2 1 (by simp), h.1.2 2 (by simp), h.1.2 3 (by simp)⟩, h.2 0 (by simp), h.2 1 (by simp), h.2 2 (by simp), h.2 3 (by simp)⟩
theorem range_all_succ (f : Nat → Bool) (k : Nat) : (List.range (k+1)).all f = ((List.range k).all f && f k) := by
  rw [List.range_succ, List.all_append]; simp
theorem range_all_false {f : Nat → Bool} {n k : Nat} (hk : k < n) (h : f k = false) : (List.range n).all f = false := by
  rw [List.all_eq_false]
  exact ⟨k, List.mem_range.2 hk, by rw [h]; decide⟩
set_option maxHeartbeats 16000000 in
theorem spec_l12Seen0 (d : WorldD) (p : Nat) (v0 v1 v2 v3 v4 : Value) (w : World) (h0 : rdsL w v0 d.first_) (h1 : rdsL w v1 d.store_.heads_) (h2 : rdsL w v2 d.store_.descs_) (h3 : rdsL w v3 d.threads_) (h4 : rdsL w v4 d.log_) (hok : worldOk d = true) (hp : p < d.log_.length) (hb : WorldB d) :
    Calls Tryz.prog 131 #[.agg #[v0, v1, v2, v3, v4], .int .i64 (p : Int)] w fun e w' => e = .returned (.bool (seen12 d.first_ d.store_.descs_ d.log_ p)) ∧ Below w.heap.size w w' := by
  obtain ⟨fs, ⟨hs, ds⟩, ts, lg⟩ := d
  have Hat := hid (fun th (p : Nat) (hp : p ≤ lg.length) w r0 r1 r2 r3 r4 => spec_l12Attempt0 ⟨fs, ⟨hs, ds⟩, ts, lg⟩ th p v0 v1 v2 v3 v4 w r0 r1 r2 r3 r4 hp hb)
  have Hst := hid (fun (p : Nat) (hp : p ≤ lg.length) w r0 r1 r2 r3 r4 => spec_l12State0 ⟨fs, ⟨hs, ds⟩, ts, lg⟩ p v0 v1 v2 v3 v4 w r0 r1 r2 r3 r4 hok hp)
  have hev := hid (worldOk_ev hok)
  have hfi := And.intro (worldOk_first hok).1 (worldOk_first hok).2.1
  have hlg : lg.length ≤ 1048576 := by have h := (worldB_parts hb).2.2.2; exact h
  dsimp only at h0 h1 h2 h3 h4 hp Hat Hst hev hfi ⊢
  obtain ⟨a0, cap0, rfl, hl0, hm0, -⟩ := rdsL_open h0
  obtain ⟨a1, cap1, rfl, hl1, hm1, -⟩ := rdsL_open h1
  obtain ⟨a2, cap2, rfl, hl2, hm2, -⟩ := rdsL_open h2
  obtain ⟨a3, cap3, rfl, hl3, hm3, -⟩ := rdsL_open h3
  obtain ⟨a4, cap4, rfl, hl4, hm4, hc4⟩ := rdsL_open h4
  have hlfs_ : fs.length ≤ 9223372036854775807 := by omega
  have hlhs_ : hs.length ≤ 9223372036854775807 := by omega
  have hlds_ : ds.length ≤ 9223372036854775807 := by omega
  have hlts_ : ts.length ≤ 9223372036854775807 := by omega
  have hllg_ : lg.length ≤ 9223372036854775807 := by omega
  have R0 := hid h0
  have R1 := hid h1
  have R2 := hid h2
  have R3 := hid h3
  have R4 := hid h4
  obtain ⟨bb, off, cs0, rfl, hbs, -, -⟩ := hc4 p hp
  have HLG := hid (show ∀ n, (h : n < lg.length) → w.cell? ⟨bb, off + n * 4, none⟩ = some (.int .i64 lg[n].kind_) ∧ w.cell? ⟨bb, off + n * 4 + 1, none⟩ = some (.int .i64 lg[n].thread_) ∧ w.cell? ⟨bb, off + n * 4 + 2, none⟩ = some (.int .i64 lg[n].object_) ∧ w.cell? ⟨bb, off + n * 4 + 3, none⟩ = some (.int .i64 lg[n].value_) from fun n h => by
    obtain ⟨b', o', cs, e, -, hel, hcell⟩ := hc4 n h
    have hel : cs = Event.enc lg[n] := hel
    subst hel
    cases e
    exact ⟨hcell 0 (show 0 < 4 by omega), hcell 1 (show 1 < 4 by omega), hcell 2 (show 2 < 4 by omega), hcell 3 (show 3 < 4 by omega)⟩)
  obtain ⟨R, hR⟩ : ∃ R, Hid (seen12 fs ds lg p = R) := ⟨_, hid rfl⟩
  rw [hR.out]
  obtain ⟨th, hth⟩ : ∃ th, Hid (lg[p].thread_ = th) := ⟨_, hid rfl⟩
  obtain ⟨os, hos⟩ : ∃ os, Hid (attTo lg th p = os) := ⟨_, hid rfl⟩
  have Hmem := hid (show ∀ i, (h : i < os.length) → ∃ n : Nat, os[i] = (n : Int) ∧ n < p ∧ ∃ h : n < lg.length, lg[n].kind_ = 1 from fun i h => attTo_mem lg th p _ (by rw [hos.out]; exact List.getElem_mem h))
  have hosl : os.length ≤ p := by rw [← hos.out]; exact attTo_len lg th p
  have Hun := hid (show seen12 fs ds lg p = (decide (0 < os.length) && (List.range os.length).all (openOk12 lg (stateN fs ds lg (os.getD (os.length - 1) 0).toNat) os)) by
    unfold seen12
    rw [List.getElem?_eq_getElem hp]
    dsimp only
    rw [hth.out, hos.out])
  have e1 : w.cell? ⟨bb, off + p * 4 + 1, none⟩ = some (.int .i64 th) := by rw [← hth.out]; exact (HLG.out p hp).2.1
  have hpi : (p : Int) < (lg.length : Int) := by omega
  have hp0 : (0 : Int) ≤ (p : Int) := by omega
  clear h0 h1 h2 h3 h4 hb hok hc4 hth
  obtain ⟨W1, hW1⟩ : ∃ X, w.alloc (.cells #[Value.slice a0 fs.length cap0, Value.slice a1 hs.length cap1, Value.slice a2 ds.length cap2, Value.slice a3 ts.length cap3, Value.slice (some ⟨bb, off, none⟩) lg.length cap4] 32) = X := ⟨_, rfl⟩
  have hB1 : Below w.heap.size w W1 := by rw [← hW1]; exact (Below.refl _ _).alloc (Nat.le_refl _) _
  have bw : Box W1 w.heap.size [Value.slice a0 fs.length cap0, Value.slice a1 hs.length cap1, Value.slice a2 ds.length cap2, Value.slice a3 ts.length cap3, Value.slice (some ⟨bb, off, none⟩) lg.length cap4] := by rw [← hW1]; exact Box.alloc _ _ _
  have k0 : W1.cell? ⟨w.heap.size, 0, none⟩ = some (Value.slice a0 fs.length cap0) := bw.2 0 (by simp)
  have k1 : W1.cell? ⟨w.heap.size, 1, none⟩ = some (Value.slice a1 hs.length cap1) := bw.2 1 (by simp)
  have k2 : W1.cell? ⟨w.heap.size, 2, none⟩ = some (Value.slice a2 ds.length cap2) := bw.2 2 (by simp)
  have k3 : W1.cell? ⟨w.heap.size, 3, none⟩ = some (Value.slice a3 ts.length cap3) := bw.2 3 (by simp)
  have k4 : W1.cell? ⟨w.heap.size, 4, none⟩ = some (Value.slice (some ⟨bb, off, none⟩) lg.length cap4) := bw.2 4 (by simp)
  have e1w := (hB1.cell (p := ⟨bb, off + p * 4 + 1, none⟩) hbs).trans e1
  have HW1 := hid hW1
  have BW := hid bw
  have HB1 := hid hB1
  clear hW1 bw e1 hB1
  go_enter Tryz.func131, Tryz.ntmps131
  go_wp2
  rw [HW1.out]
  go_still_tail 8, (by kernel_rfl)
  go_wp2_with fail
  refine (Hat.out th p (by omega) _ (rdsL.below R0.out HB1.out.drew) (rdsL.below R1.out HB1.out.drew) (rdsL.below R2.out HB1.out.drew) (rdsL.below R3.out HB1.out.drew) (rdsL.below R4.out HB1.out.drew)).mono ?_
  rw [hos.out]
  rintro e w2 ⟨u, rfl, hO, b2⟩
  have HB2 := hid (HB1.out.drew.trans (b2.mono HB1.out.drew.size))
  have BX2 := hid ((BW.out.below (Below.refl _ _).drew).below b2)
  clear k0 k1 k2 k3 k4 e1w b2 HW1 BW HB1 Hat
  by_cases hz : os.length = 0
  · obtain ⟨la, lc, rfl, -, -⟩ := owns_form hO
    have HR0 := hid (show R = false by rw [← hR.out, Hun.out, hz]; rfl)
    clear hO
    rw [hz]
    go_wp2
    go_ret
    exact ⟨ret_bool HR0.out.symm, HB2.out⟩
  obtain ⟨m, hm⟩ : ∃ m, os.length = m + 1 := ⟨os.length - 1, by omega⟩
  obtain ⟨g, gc, rfl, hgc1, hgc2, hg1, hg2, -, -⟩ := owns_at hO (by omega)
  have HOS := hid (show ∀ i, (h : i < os.length) → w2.cell? ⟨g, i, none⟩ = some (.int .i64 os[i]) from fun i h => by
    rw [World.ownsRow.cellAt hO i (by omega), encI_get _ i h])
  obtain ⟨q, hq, hqp, hql, hqk⟩ := Hmem.out m (by omega)
  have hgl : g < w2.heap.size := hg2
  have Hst2 := Hst.out q (by omega)
  obtain ⟨st, hst⟩ : ∃ st, Hid (stateN fs ds lg q = st) := ⟨_, hid rfl⟩
  rw [hst.out] at Hst2
  have hstl : st.length = fs.length := by rw [← hst.out]; exact stateN_len fs ds lg q
  have HRn := hid (show R = (List.range os.length).all (openOk12 lg st os) by
    rw [← hR.out, Hun.out, show decide (0 < os.length) = true from decide_eq_true (by omega), Bool.true_and, show os.length - 1 = m by omega]
    rw [show os.getD m 0 = (q : Int) by rw [← hq]; simp [show m < os.length by omega], Int.toNat_natCast, hst.out])
  have hw1 : IntKind.i64.wrap ((os.length : Int) - 1) = (m : Int) := by rw [IntWalk.i64_in _ (by omega)]; omega
  have cm : w2.cell? ⟨g, m, none⟩ = some (.int .i64 (q : Int)) := by rw [← hq]; exact HOS.out m (by omega)
  have hm0 : (0 : Int) ≤ (m : Int) := by omega
  have hml : (m : Int) < (os.length : Int) := by omega
  have hzi : ((os.length : Int) == 0) = false := beq_eq_false_iff_ne.2 (by omega)
  have k0 : w2.cell? ⟨w.heap.size, 0, none⟩ = some (Value.slice a0 fs.length cap0) := BX2.out.2 0 (by simp)
  have k1 : w2.cell? ⟨w.heap.size, 1, none⟩ = some (Value.slice a1 hs.length cap1) := BX2.out.2 1 (by simp)
  have k2 : w2.cell? ⟨w.heap.size, 2, none⟩ = some (Value.slice a2 ds.length cap2) := BX2.out.2 2 (by simp)
  have k3 : w2.cell? ⟨w.heap.size, 3, none⟩ = some (Value.slice a3 ts.length cap3) := BX2.out.2 3 (by simp)
  have k4 : w2.cell? ⟨w.heap.size, 4, none⟩ = some (Value.slice (some ⟨bb, off, none⟩) lg.length cap4) := BX2.out.2 4 (by simp)
  clear hO Hst hR Hun hst hq hm
  go_wp2
  go_still_tail 7, (by kernel_rfl)
  go_wp2_with fail
  refine (Hst2 _ (rdsL.below R0.out HB2.out.drew) (rdsL.below R1.out HB2.out.drew) (rdsL.below R2.out HB2.out.drew) (rdsL.below R3.out HB2.out.drew) (rdsL.below R4.out HB2.out.drew)).mono ?_
  rintro e w3 ⟨u3, rfl, o3, b3⟩
  have B23 : Below w2.heap.size w2 w3 := (Below.refl _ _).drew.trans (b3.mono (by simp))
  have HB3 := hid (HB2.out.trans (B23.mono HB2.out.size))
  have BX3 := hid (BX2.out.below B23)
  obtain ⟨gs, gsc, rfl, -, -, -, hgs, -, -⟩ := owns_at o3 (by omega)
  have HOS3 := hid (show ∀ i, (h : i < os.length) → w3.cell? ⟨g, i, none⟩ = some (.int .i64 os[i]) from fun i h => (B23.cell (p := ⟨g, i, none⟩) hgl).trans (HOS.out i h))
  have HST := hid (show ∀ i, (h : i < fs.length) → w3.cell? ⟨gs, i, none⟩ = some (.int .i64 (st.getD i 0)) from fun i h => by
    rw [World.ownsRow.cellAt o3 i (by omega), encI_get _ i (show i < st.length by omega)]; simp [show i < st.length by omega])
  have hg3 : g < w3.heap.size := by have := B23.size; omega
  have hbs3 : bb < w.heap.size := hbs
  clear k0 k1 k2 k3 k4 cm b3 B23 o3 BX2 HOS Hst2 hw1 hzi
  go_wp2
  go_loopw [7] (fun i wr => ∃ k : Nat, k ≤ os.length ∧ i = .int .i64 k ∧ Hid ((List.range k).all (openOk12 lg st os) = true) ∧ Below w3.heap.size w3 wr) (fun i _ => os.length - (intOf i).toNat)
  case atStart => exact ⟨0, by omega, rfl, hid rfl, Below.refl _ _⟩
  case round =>
    obtain ⟨k, hk, rfl, HA, hB⟩ := hrel
    have HBr := hid (HB3.out.trans (hB.mono HB3.out.size))
    have HX := hid (BX3.out.below hB)
    have hsr := hB.size
    have hsw := HB3.out.size
    by_cases hlt : k < os.length
    · obtain ⟨n, hn, hnp, hnl, hnk⟩ := Hmem.out k hlt
      have hobn := evOk_open (hev n hnl) hnk
      obtain ⟨c0, c1, c2, c3⟩ := HLG.out n hnl
      have hgd : os.getD k 0 = (n : Int) := by rw [← hn]; simp [hlt]
      have Hop := hid (show openOk12 lg st os k = (!lastAt lg os k || (st.getD lg[n].object_.toNat 0 == lg[n].value_)) by
        unfold openOk12 evObj evVal
        rw [hgd, Int.toNat_natCast, List.getElem?_eq_getElem hnl])
      have Hla := hid (show lastAt lg os k = (os.drop (k+1)).all (fun q => !(evObj lg q == lg[n].object_)) by
        unfold lastAt
        rw [hgd, show evObj lg (n : Int) = lg[n].object_ by unfold evObj; rw [Int.toNat_natCast, List.getElem?_eq_getElem hnl]])
      obtain ⟨o, ho⟩ := Int.eq_ofNat_of_zero_le hobn.1
      rw [ho] at c2 hobn Hop Hla
      obtain ⟨LA, hLA⟩ : ∃ LA, Hid (lastAt lg os k = LA) := ⟨_, hid rfl⟩
      rw [hLA.out] at Hop Hla
      rw [Int.toNat_natCast] at Hop
      have HST2 := HST.out o (by omega)
      obtain ⟨sv, hsv⟩ : ∃ sv, Hid (st.getD o 0 = sv) := ⟨_, hid rfl⟩
      rw [hsv.out] at Hop HST2
      generalize lg[n].kind_ = kd at *
      generalize lg[n].thread_ = et at *
      generalize lg[n].value_ = va at *
      have hki : (k : Int) < (os.length : Int) := by omega
      have hk0 : (0 : Int) ≤ (k : Int) := by omega
      have hni : (n : Int) < (lg.length : Int) := by omega
      have hn0 : (0 : Int) ≤ (n : Int) := by omega
      have hoi : (o : Int) < (fs.length : Int) := by omega
      have ho0 : (0 : Int) ≤ (o : Int) := by omega
      have hbr : bb < wr.heap.size := by omega
      have hgr : g < wr.heap.size := by omega
      have hwr : w.heap.size < wr.heap.size := HX.out.1
      have cn : wr.cell? ⟨g, k, none⟩ = some (.int .i64 (n : Int)) := by rw [← hn]; exact (hB.cell (p := ⟨g, k, none⟩) hg3).trans (HOS3.out k hlt)
      have q4 : wr.cell? ⟨w.heap.size, 4, none⟩ = some (Value.slice (some ⟨bb, off, none⟩) lg.length cap4) := HX.out.2 4 (by simp)
      have X0 := Ext.cell hbr ((HBr.out.cell (p := ⟨bb, off + n * 4, none⟩) hbs).trans c0)
      have X1 := Ext.cell hbr ((HBr.out.cell (p := ⟨bb, off + n * 4 + 1, none⟩) hbs).trans c1)
      have X2 := Ext.cell hbr ((HBr.out.cell (p := ⟨bb, off + n * 4 + 2, none⟩) hbs).trans c2)
      have X3 := Ext.cell hbr ((HBr.out.cell (p := ⟨bb, off + n * 4 + 3, none⟩) hbs).trans c3)
      have X4 := Ext.cell hwr q4
      have X5 := Ext.cell hgr cn
      clear c0 c1 c2 c3 hn hgd hnk ho cn q4
      have mk1 : ∀ (P : Program) (o : Oper) (a : Act) (w : World) (v : Value), Oper.plainAt P o a w v = Oper.plainUpon w v ((execOp a.eval o).run P w) := fun _ _ _ _ _ => rfl; have mk2 : ∀ (w w' : World) (v u : Value), Oper.plainUpon w v (.ok (.value u) w') = (w' = w ∧ u = v) := fun _ _ _ _ => rfl
      go_upto_region 8 with fail
      refine Go.wp_region_rel [Rel.none, Rel.none, Rel.none, Rel.none, Rel.none, Rel.none, Rel.none, Rel.none, Rel.box wr.heap.size 4, Rel.wrote] [[], [], [], [], [], [], [], [], [], [8]] [.plain, .plain, .plain, .plain, .plain, .plain, .plain, .plain, .make, .write 8] (by kernel_rfl) (by kernel_rfl) (by kernel_rfl) (by kernel_rfl) (by kernel_rfl) ?_
      (refine Go.wpR_plain (Go.clsExt _) rfl rfl (fun K hK => ?_); go_simp; refine hK _ ?_; clear hK K)
      (refine Go.wpR_plain (Go.clsExt _) rfl rfl (fun K hK => ?_); go_simp; refine hK _ ?_; clear hK K)
      (refine Go.wpR_plain (Go.clsExt _) rfl rfl (fun K hK => ?_); go_simp; refine hK _ ?_; clear hK K)
      (refine Go.wpR_plain (Go.clsExt _) rfl rfl (fun K hK => ?_); go_simp; refine hK _ ?_; clear hK K)
      (refine Go.wpR_plain (Go.clsExt _) rfl rfl (fun K hK => ?_); go_simp; refine hK _ ?_; clear hK K)
      (refine Go.wpR_plain (Go.clsExt _) rfl rfl (fun K hK => ?_); go_simp; refine hK _ ?_; clear hK K)
      (refine Go.wpR_plain (Go.clsExt _) rfl rfl (fun K hK => ?_); go_simp; refine hK _ ?_; clear hK K)
      (refine Go.wpR_plain (Go.clsExt _) rfl rfl (fun K hK => ?_); go_simp; refine hK _ ?_; clear hK K)
      refine Go.wpR_box (Go.clsExt _) 4 #[.int .i64 0, .int .i64 0, .int .i64 0, .int .i64 0] 106 rfl rfl rfl rfl rfl (fun w => by go_simp) (fun lo => ?_)
      refine Go.wpR_store (Go.clsExt _) 8 4 lo _ (.agg #[.int .i64 kd, .int .i64 et, .int .i64 (o : Int), .int .i64 va]) [.int .i64 kd, .int .i64 et, .int .i64 (o : Int), .int .i64 va] rfl rfl rfl (by decide) rfl (by first | rfl | (simp [Go.Oper.stored]; go_simp)) (fun w h => Go.wrote_r h) (fun w cs0 hn hB => ⟨_, (by obtain ⟨z0, z1, z2, z3, ⟨kz0, kz1, kz2, kz3⟩, fz0, fz1, fz2, fz3⟩ := box_any4 hn hB; go_simp), boxset4 hn hB _ _ _ _⟩) rfl ?_
      refine Go.wpR_nil ?_
      intro E9 hm9
      have bx := (hm9.one 9 _ _ _ rfl).1.2 _ rfl
      have hE9 := E9.h
      obtain ⟨X, hX⟩ : ∃ X, X = E9.w := ⟨_, rfl⟩
      rw [← hX] at bx hE9 ⊢
      have HBX := hid (HBr.out.trans (hE9.mono HBr.out.size))
      have HB3X := hid (hB.trans (hE9.mono hsr))
      have BXX := hid (HX.out.below hE9)
      have BLO := hid bx
      have hsX := hE9.size
      clear hX hm9 E9 X0 X1 X2 X3 X4 X5 mk1 mk2 bx hE9
      go_wp2
      go_loopw [10, 9] (fun i l wr2 => ∃ (j : Nat) (B : Bool), k + 1 ≤ j ∧ j ≤ os.length ∧ i = .int .i64 j ∧ l = .bool B ∧ Hid ((B && (os.drop j).all (fun q => !(evObj lg q == (o : Int)))) = LA) ∧ Below X.heap.size X wr2) (fun i _ _ => os.length - (intOf i).toNat)
      case atStart => exact ⟨k+1, true, by omega, by omega, by go_num, rfl, hid (by rw [Bool.true_and]; exact Hla.out.symm), Below.refl _ _⟩
      case round =>
        obtain ⟨j, B, hkj, hj, rfl, rfl, HS, hB2⟩ := hrel
        have hs2 := hB2.size
        have HB2r := hid (HBX.out.trans (hB2.mono HBX.out.size))
        have HB32 := hid (HB3X.out.trans (hB2.mono HB3X.out.size))
        have bl := BLO.out.below hB2
        have m2 : wr.cell? ⟨lo, 2, none⟩ = some (.int .i64 (o : Int)) := bl.1.2 2 (by simp)
        have m3 : wr.cell? ⟨lo, 3, none⟩ = some (.int .i64 va) := bl.1.2 3 (by simp)
        by_cases hlj : j < os.length
        · obtain ⟨n2, hn2, -, hn2l, -⟩ := Hmem.out j hlj
          have q4 : wr.cell? ⟨w.heap.size, 4, none⟩ = some (Value.slice (some ⟨bb, off, none⟩) lg.length cap4) := (BXX.out.below hB2).2 4 (by simp)
          have cj : wr.cell? ⟨g, j, none⟩ = some (.int .i64 (n2 : Int)) := by rw [← hn2]; exact (HB32.out.cell (p := ⟨g, j, none⟩) hg3).trans (HOS3.out j hlj)
          have f2 : wr.cell? ⟨bb, off + n2 * 4 + 2, none⟩ = some (.int .i64 lg[n2].object_) := (HB2r.out.cell (p := ⟨bb, off + n2 * 4 + 2, none⟩) hbs).trans (HLG.out n2 hn2l).2.2.1
          have Hst := hid (all_step (fun q : Int => !(evObj lg q == (o : Int))) os j hlj)
          have hev2 : evObj lg os[j] = lg[n2].object_ := by rw [hn2]; unfold evObj; rw [Int.toNat_natCast, List.getElem?_eq_getElem hn2l]
          rw [hev2] at Hst
          generalize lg[n2].object_ = x at *
          have hji : (j : Int) < (os.length : Int) := by omega
          have hj0 : (0 : Int) ≤ (j : Int) := by omega
          have hn2i : (n2 : Int) < (lg.length : Int) := by omega
          have hn20 : (0 : Int) ≤ (n2 : Int) := by omega
          clear bl hn2 hev2
          cases B with
          | false =>
            have Hn := hid (show (false && (os.drop (j+1)).all (fun q => !(evObj lg q == (o : Int)))) = LA from HS.out)
            clear HS Hst
            go_wp2
            go_region
            all_goals go_wp2
            all_goals go_roundw
            case rel => exact ⟨j+1, false, by omega, by omega, by go_num, rfl, Hn, hB2.drew⟩
            case measure => simp [intOf]; omega
          | true =>
            have Hn := hid (show ((x != (o : Int)) && (os.drop (j+1)).all (fun q => !(evObj lg q == (o : Int)))) = LA by rw [← HS.out, Hst.out]; rfl)
            clear HS Hst
            go_wp2
            go_region
            all_goals go_wp2
            all_goals go_roundw
            case rel => exact ⟨j+1, (x != (o : Int)), by omega, by omega, by go_num, rfl, Hn, hB2.drew⟩
            case measure => simp [intOf]; omega
        · obtain rfl : j = os.length := by omega
          have hBL : B = LA := by rw [← HS.out, List.drop_length]; simp
          have so : wr.cell? ⟨gs, o, none⟩ = some (.int .i64 sv) := (HB32.out.cell (p := ⟨gs, o, none⟩) hgs).trans HST2
          clear HS Hla hLA bl
          subst hBL
          cases B with
          | false =>
            have Hn := hid (show (List.range (k+1)).all (openOk12 lg st os) = true by rw [range_all_succ, HA.out, Hop.out]; rfl)
            clear Hop
            go_wp2
            go_region
            all_goals go_wp2
            all_goals go_roundw
            case rel => exact ⟨k+1, by omega, by go_num, Hn, HB32.out.drew⟩
            case measure => simp [intOf]; omega
          | true =>
            by_cases hv : sv = va
            · have Hn := hid (show (List.range (k+1)).all (openOk12 lg st os) = true by rw [range_all_succ, HA.out, Hop.out]; simp [hv])
              have hvb : (sv != va) = false := by simp [hv]
              clear Hop hv
              go_wp2
              go_region
              all_goals go_wp2
              all_goals go_roundw
              case rel => exact ⟨k+1, by omega, by go_num, Hn, HB32.out.drew⟩
              case measure => simp [intOf]; omega
            · have Hn := hid (show R = false by rw [HRn.out]; exact range_all_false hlt (by rw [Hop.out]; simp [hv]))
              have hvb : (sv != va) = true := by simp [hv]
              clear Hop hv
              go_wp2
              go_region
              all_goals go_wp2
              all_goals go_ret
              all_goals exact ⟨ret_bool Hn.out.symm, HB2r.out.drew⟩
    · obtain rfl : k = os.length := by omega
      have Hn := hid (show R = true by rw [HRn.out]; exact HA.out)
      go_wp2
      go_ret
      exact ⟨ret_bool Hn.out.symm, HBr.out⟩
end Go.Proofs.YtbbdchlabdilcaaGreat
