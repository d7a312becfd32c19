/- Chapter 12's model: Explained. (printed by tools/mk_s12x.py) -/
import Derived.Test.YtbbdchlabdilcaaGreatS12k
import Derived.Test.YtbbdchlabdilcaaGreatS11w
import Derived.StillTailTactics
namespace Go.Proofs.YtbbdchlabdilcaaGreat
set_option maxRecDepth 100000
open Go.RowKit Go.Proofs Go.Own
open Go Go.BigFrame
set_option linter.unusedVariables false
set_option linter.unusedSimpArgs false
theorem explTo_go {fs : List Int} {ds : List DescD} {lg : List Event} {n i : Nat} (h : codeAt fs ds lg i = 0) : explTo fs ds lg (n+1) i = explTo fs ds lg n (i+1) := by
  show (if _ then _ else _) = _; rw [if_pos h]
theorem explTo_end {fs : List Int} {ds : List DescD} {lg : List Event} {n i : Nat} {c : Int} (h : codeAt fs ds lg i = c) (hc : ¬ c = 0) : explTo fs ds lg (n+1) i = ((i : Int), c) := by
  show (if _ then _ else _) = _; rw [if_neg (by rw [h]; exact hc), h]
theorem codeAt_com {fs : List Int} {ds : List DescD} {lg : List Event} {i : Nat} (h : i < lg.length) (hk : lg[i].kind_ = 3) : codeAt fs ds lg i = if canL (stateN fs ds lg i) (entsAt ds lg[i].object_) = true then 0 else 2 := by
  unfold codeAt; rw [List.getElem?_eq_getElem h]; exact if_pos hk
theorem codeAt_see {fs : List Int} {ds : List DescD} {lg : List Event} {i : Nat} (h : i < lg.length) (hk : lg[i].kind_ = 2) : codeAt fs ds lg i = if seen12 fs ds lg i = true then 0 else 3 := by
  unfold codeAt; rw [List.getElem?_eq_getElem h]; show (if _ then _ else _) = _; rw [if_neg (by omega), if_pos hk]
theorem codeAt_not {fs : List Int} {ds : List DescD} {lg : List Event} {i : Nat} (h : i < lg.length) (hk : ¬ lg[i].kind_ = 3) (hk2 : ¬ lg[i].kind_ = 2) : codeAt fs ds lg i = 0 := by
  unfold codeAt; rw [List.getElem?_eq_getElem h]; show (if _ then _ else _) = _; rw [if_neg hk, if_neg hk2]
set_option maxHeartbeats 16000000 in
theorem spec_Explained0 (d : WorldD) (v0 v1 v2 v3 v4 : Value) (w : World) (h0 : rdsL w v0 d.first_) (h1 : rdsL w v1 d.store_.heads_) (h2 : rdsL w v2 d.store_.descs_) (h3 : rdsL w v3 d.threads_) (h4 : rdsL w v4 d.log_) (hb : WorldB d) :
    Calls Tryz.prog 57 #[.agg #[v0, v1, v2, v3, v4]] w fun e w' => e = .returned (.tuple #[.int .i64 (explC d).1, .int .i64 (explC d).2]) ∧ Below w.heap.size w w' := by
  obtain ⟨fs, ⟨hs, ds⟩, ts, lg⟩ := d
  have Hok := hid (fun w r0 r1 r2 r3 r4 => spec_WorldOk0 ⟨fs, ⟨hs, ds⟩, ts, lg⟩ v0 v1 v2 v3 v4 w r0 r1 r2 r3 r4 hb)
  have Hst := hid (fun (hk : worldOk ⟨fs, ⟨hs, ds⟩, ts, lg⟩ = true) (p : Nat) (hp : p ≤ lg.length) w r0 r1 r2 r3 r4 => spec_l12State0 ⟨fs, ⟨hs, ds⟩, ts, lg⟩ p v0 v1 v2 v3 v4 w r0 r1 r2 r3 r4 hk hp)
  have Hse := hid (fun (hk : worldOk ⟨fs, ⟨hs, ds⟩, ts, lg⟩ = true) (p : Nat) (hp : p < lg.length) w r0 r1 r2 r3 r4 => spec_l12Seen0 ⟨fs, ⟨hs, ds⟩, ts, lg⟩ p v0 v1 v2 v3 v4 w r0 r1 r2 r3 r4 hk hp hb)
  have Hex := hid (show explC ⟨fs, ⟨hs, ds⟩, ts, lg⟩ = if worldOk ⟨fs, ⟨hs, ds⟩, ts, lg⟩ = true then explTo fs ds lg lg.length 0 else (-1, 1) from rfl)
  have Hev := hid (fun hk => worldOk_ev (d := ⟨fs, ⟨hs, ds⟩, ts, lg⟩) hk)
  have Hfi := hid (fun hk => And.intro (worldOk_first (d := ⟨fs, ⟨hs, ds⟩, ts, lg⟩) hk).1 (worldOk_first (d := ⟨fs, ⟨hs, ds⟩, ts, lg⟩) hk).2.1)
  have Hen := hid (fun hk => worldOk_ents (d := ⟨fs, ⟨hs, ds⟩, ts, lg⟩) hk)
  dsimp only at h0 h1 h2 h3 h4 Hok Hst Hse Hev Hfi Hen ⊢
  obtain ⟨a0, cap0, rfl, hl0, hm0, -⟩ := rdsL_open h0
  obtain ⟨a1, cap1, rfl, hl1, hm1, -⟩ := rdsL_open h1
  obtain ⟨a2, cap2, rfl, hl2, hm2, hc2⟩ := rdsL_open h2
  obtain ⟨a3, cap3, rfl, hl3, hm3, -⟩ := rdsL_open h3
  obtain ⟨a4, cap4, rfl, hl4, hm4, hc4⟩ := rdsL_open h4
  have hlfs_ : fs.length ≤ 9223372036854775807 := by omega
  have hlhs_ : hs.length ≤ 9223372036854775807 := by omega
  have hlds_ : ds.length ≤ 9223372036854775807 := by omega
  have hlts_ : ts.length ≤ 9223372036854775807 := by omega
  have hllg_ : lg.length ≤ 9223372036854775807 := by omega
  have R0 := hid h0
  have R1 := hid h1
  have R2 := hid h2
  have R3 := hid h3
  have R4 := hid h4
  have HC2 := hid hc2
  have HC4 := hid hc4
  obtain ⟨EX, hEX⟩ : ∃ EX, Hid (explC ⟨fs, ⟨hs, ds⟩, ts, lg⟩ = EX) := ⟨_, hid rfl⟩
  rw [hEX.out]
  rw [hEX.out] at Hex
  generalize worldOk ⟨fs, ⟨hs, ds⟩, ts, lg⟩ = R at *
  clear h0 h1 h2 h3 h4 hb hc2 hc4 hEX
  obtain ⟨W1, hW1⟩ : ∃ X, w.alloc (.cells #[Value.slice a0 fs.length cap0, Value.slice a1 hs.length cap1, Value.slice a2 ds.length cap2, Value.slice a3 ts.length cap3, Value.slice a4 lg.length cap4] 32) = X := ⟨_, rfl⟩
  have hB1 : Below w.heap.size w W1 := by rw [← hW1]; exact (Below.refl _ _).alloc (Nat.le_refl _) _
  have bw : Box W1 w.heap.size [Value.slice a0 fs.length cap0, Value.slice a1 hs.length cap1, Value.slice a2 ds.length cap2, Value.slice a3 ts.length cap3, Value.slice a4 lg.length cap4] := by rw [← hW1]; exact Box.alloc _ _ _
  have k0 : W1.cell? ⟨w.heap.size, 0, none⟩ = some (Value.slice a0 fs.length cap0) := bw.2 0 (by simp)
  have k1 : W1.cell? ⟨w.heap.size, 1, none⟩ = some (Value.slice a1 hs.length cap1) := bw.2 1 (by simp)
  have k2 : W1.cell? ⟨w.heap.size, 2, none⟩ = some (Value.slice a2 ds.length cap2) := bw.2 2 (by simp)
  have k3 : W1.cell? ⟨w.heap.size, 3, none⟩ = some (Value.slice a3 ts.length cap3) := bw.2 3 (by simp)
  have k4 : W1.cell? ⟨w.heap.size, 4, none⟩ = some (Value.slice a4 lg.length cap4) := bw.2 4 (by simp)
  have HW1 := hid hW1
  have BW := hid bw
  clear hW1 bw
  go_enter Tryz.func57, Tryz.ntmps57
  go_wp2_with fail
  rw [HW1.out]
  refine (Hok.out _ (rdsL.below R0.out hB1) (rdsL.below R1.out hB1) (rdsL.below R2.out hB1) (rdsL.below R3.out hB1) (rdsL.below R4.out hB1)).mono ?_
  rintro e w2 ⟨rfl, b2⟩
  have B2 := hB1.trans (b2.mono hB1.size)
  have HB2 := hid B2
  have BX2 := hid (BW.out.below b2)
  clear k0 k1 k2 k3 k4 b2 hB1 BW HW1
  cases R with
  | false =>
    have hv : EX = (-1, 1) := by rw [Hex.out]; simp
    subst hv
    clear Hex
    go_wp2
    go_ret2
    exact ⟨rfl, HB2.out⟩
  | true =>
  have Hex2 := hid (show EX = explTo fs ds lg lg.length 0 by rw [Hex.out]; simp)
  have hev := hid (Hev.out (by first | exact rfl | trivial))
  have hfi := Hfi.out (by first | exact rfl | trivial)
  have hen := hid (Hen.out (by first | exact rfl | trivial))
  have HS9 := hid (Hst.out (by first | exact rfl | trivial))
  have HE9 := hid (Hse.out (by first | exact rfl | trivial))
  clear Hex Hev Hfi Hen Hst Hse Hok
  have hsz2 := BX2.out.1
  go_wp2
  go_loopw [4] (fun i wr => ∃ k m : Nat, k + m = lg.length ∧ i = .int .i64 k ∧ Same (explTo fs ds lg m k) (explTo fs ds lg lg.length 0) ∧ Below w2.heap.size w2 wr) (fun i _ => lg.length - (intOf i).toNat)
  case atStart => exact ⟨0, lg.length, by omega, rfl, .rfl, Below.refl _ _⟩
  case round =>
    obtain ⟨k, m, hkm, rfl, hS, hB⟩ := hrel
    have HBr := hid (B2.trans (hB.mono B2.size))
    have HX := hid (BX2.out.below hB)
    have hsr := hB.size
    have hs2 := B2.size
    have HS := hid hS
    have q0 : wr.cell? ⟨w.heap.size, 0, none⟩ = some (Value.slice a0 fs.length cap0) := HX.out.2 0 (by simp)
    have q1 : wr.cell? ⟨w.heap.size, 1, none⟩ = some (Value.slice a1 hs.length cap1) := HX.out.2 1 (by simp)
    have q2 : wr.cell? ⟨w.heap.size, 2, none⟩ = some (Value.slice a2 ds.length cap2) := HX.out.2 2 (by simp)
    have q3 : wr.cell? ⟨w.heap.size, 3, none⟩ = some (Value.slice a3 ts.length cap3) := HX.out.2 3 (by simp)
    have q4 : wr.cell? ⟨w.heap.size, 4, none⟩ = some (Value.slice a4 lg.length cap4) := HX.out.2 4 (by simp)
    have T0 := hid (rdsL.below R0.out HBr.out)
    have T1 := hid (rdsL.below R1.out HBr.out)
    have T2 := hid (rdsL.below R2.out HBr.out)
    have T3 := hid (rdsL.below R3.out HBr.out)
    have T4 := hid (rdsL.below R4.out HBr.out)
    by_cases hlt : k < lg.length
    · obtain ⟨m', rfl⟩ : ∃ m', m = m' + 1 := ⟨m - 1, by omega⟩
      obtain ⟨bb, off, cs, rfl, hbs, hel, hcell⟩ := HC4.out k hlt
      have hel : cs = Event.enc lg[k] := hel
      subst hel
      have c0 : w.cell? ⟨bb, off + k * 4, none⟩ = some (.int .i64 lg[k].kind_) := hcell 0 (show 0 < 4 by omega)
      have c2 : w.cell? ⟨bb, off + k * 4 + 2, none⟩ = some (.int .i64 lg[k].object_) := hcell 2 (show 2 < 4 by omega)
      have e0 := (HBr.out.cell (p := ⟨bb, off + k * 4, none⟩) hbs).trans c0
      have e2 := (HBr.out.cell (p := ⟨bb, off + k * 4 + 2, none⟩) hbs).trans c2
      have hki : (k : Int) < (lg.length : Int) := by omega
      have hk0 : (0 : Int) ≤ (k : Int) := by omega
      have hbr : bb < wr.heap.size := by omega
      by_cases hk3 : lg[k].kind_ = 3
      · have hco := evOk_com (hev.out k hlt) hk3
        have Hc := hid (codeAt_com (fs := fs) (ds := ds) hlt hk3)
        obtain ⟨n, hn⟩ := Int.eq_ofNat_of_zero_le hco.1
        rw [hn] at e2 hco Hc
        rw [hk3] at e0 c0
        have HK0 := hid c0
        have hnl : n < ds.length := by omega
        rw [entsAt_eq hnl] at Hc
        obtain ⟨b2_, of2, cs2, rfl, hbs2, ⟨u2, rfl, r2⟩, hcell2⟩ := HC2.out n hnl
        have d0 : w.cell? ⟨b2_, of2 + n * 3, none⟩ = some (.int .i64 ds[n].owner_) := hcell2 0 (show 0 < 3 by omega)
        have d1 : w.cell? ⟨b2_, of2 + n * 3 + 1, none⟩ = some (.int .i64 ds[n].status_) := hcell2 1 (show 1 < 3 by omega)
        have d2 : w.cell? ⟨b2_, of2 + n * 3 + 2, none⟩ = some u2 := hcell2 2 (show 2 < 3 by omega)
        have hn0 : (0 : Int) ≤ (n : Int) := by omega
        have hni : (n : Int) < (ds.length : Int) := by omega
        have HEN := hid (hen.out n hnl)
        obtain ⟨st, hst⟩ : ∃ st, Hid (stateN fs ds lg k = st) := ⟨_, hid rfl⟩
        have HST := hid (HS9.out k (by omega))
        rw [hst.out] at HST Hc
        have hstl : st.length = fs.length := by rw [← hst.out]; exact stateN_len fs ds lg k
        obtain ⟨es, hes⟩ : ∃ es, Hid (ds[n].entries_ = es) := ⟨_, hid rfl⟩
        rw [hes.out] at Hc r2 
        have HENs := hid (show ∀ i, (h : i < es.length) → 0 ≤ es[i].object_ ∧ es[i].object_ < (fs.length : Int) by rw [← hes.out]; exact HEN.out)
        generalize ds[n].owner_ = ow at *
        generalize ds[n].status_ = sx at *
        obtain ⟨ua, uc, rfl, hel2, hem2, ec2⟩ := rdsL_open r2
        have EC := hid ec2
        have hle_ : es.length ≤ 9223372036854775807 := by omega
        clear c0 c2 hcell hcell2 HC2 r2 hn ec2 hS hst hes HEN
        go_wp2_with fail
        refine (HST.out _ T0.out T1.out T2.out T3.out T4.out).mono ?_
        rintro e w5 ⟨u5, rfl, o5, b5⟩
        obtain ⟨gs, gsc, rfl, -, -, -, hgs, -, -⟩ := owns_at o5 (by omega)
        have HB5 := hid (HBr.out.trans (b5.mono HBr.out.size))
        have HR5 := hid (hB.trans (b5.mono hsr))
        have HX5 := hid (HX.out.below b5)
        have hs5 := b5.size
        have HSV := hid (show ∀ i, (h : i < fs.length) → w5.cell? ⟨gs, i, none⟩ = some (.int .i64 (st.getD i 0)) from fun i h => by
          rw [World.ownsRow.cellAt o5 i (by omega), encI_get _ i (show i < st.length by omega)]; simp [show i < st.length by omega])
        have hwx : w.heap.size < w5.heap.size := HX5.out.1
        have hb5 : bb < w5.heap.size := by omega
        have hb25 : b2_ < w5.heap.size := by have := HB5.out.size; omega
        have X0 := Ext.cell hb25 ((HB5.out.cell (p := ⟨b2_, of2 + n * 3, none⟩) hbs2).trans d0)
        have X1 := Ext.cell hb25 ((HB5.out.cell (p := ⟨b2_, of2 + n * 3 + 1, none⟩) hbs2).trans d1)
        have X2 := Ext.cell hb25 ((HB5.out.cell (p := ⟨b2_, of2 + n * 3 + 2, none⟩) hbs2).trans d2)
        have X3 := Ext.cell hb5 ((b5.cell (p := ⟨bb, off + k * 4 + 2, none⟩) hbr).trans e2)
        have X4 := Ext.cell hwx (show w5.cell? ⟨w.heap.size, 4, none⟩ = some (Value.slice (some ⟨bb, off, none⟩) lg.length cap4) from HX5.out.2 4 (by simp))
        have X5 := Ext.cell hwx (show w5.cell? ⟨w.heap.size, 2, none⟩ = some (Value.slice (some ⟨b2_, of2, none⟩) ds.length cap2) from HX5.out.2 2 (by simp))
        clear d0 d1 d2 e0 e2 q0 q1 q2 q3 q4 T0 T1 T2 T3 T4 o5 HX HST hco
        have mk1 : ∀ (P : Program) (o : Oper) (a : Act) (w : World) (v : Value), Oper.plainAt P o a w v = Oper.plainUpon w v ((execOp a.eval o).run P w) := fun _ _ _ _ _ => rfl; have mk2 : ∀ (w w' : World) (v u : Value), Oper.plainUpon w v (.ok (.value u) w') = (w' = w ∧ u = v) := fun _ _ _ _ => rfl
        go_upto_region 8 with fail
        refine Go.wp_region_rel [Rel.none, Rel.none, Rel.none, Rel.none, Rel.none, Rel.none, Rel.none, Rel.none, Rel.none, Rel.none, Rel.none, Rel.box w5.heap.size 3, Rel.wrote] [[], [], [], [], [], [], [], [], [], [], [], [], [11]] [.plain, .plain, .plain, .plain, .plain, .plain, .plain, .plain, .plain, .plain, .plain, .make, .write 11] (by kernel_rfl) (by kernel_rfl) (by kernel_rfl) (by kernel_rfl) (by kernel_rfl) ?_
        (refine Go.wpR_plain (Go.clsExt _) rfl rfl (fun K hK => ?_); go_simp; refine hK _ ?_; clear hK K)
        (refine Go.wpR_plain (Go.clsExt _) rfl rfl (fun K hK => ?_); go_simp; refine hK _ ?_; clear hK K)
        (refine Go.wpR_plain (Go.clsExt _) rfl rfl (fun K hK => ?_); go_simp; refine hK _ ?_; clear hK K)
        (refine Go.wpR_plain (Go.clsExt _) rfl rfl (fun K hK => ?_); go_simp; refine hK _ ?_; clear hK K)
        (refine Go.wpR_plain (Go.clsExt _) rfl rfl (fun K hK => ?_); go_simp; refine hK _ ?_; clear hK K)
        (refine Go.wpR_plain (Go.clsExt _) rfl rfl (fun K hK => ?_); go_simp; refine hK _ ?_; clear hK K)
        (refine Go.wpR_plain (Go.clsExt _) rfl rfl (fun K hK => ?_); go_simp; refine hK _ ?_; clear hK K)
        (refine Go.wpR_plain (Go.clsExt _) rfl rfl (fun K hK => ?_); go_simp; refine hK _ ?_; clear hK K)
        (refine Go.wpR_plain (Go.clsExt _) rfl rfl (fun K hK => ?_); go_simp; refine hK _ ?_; clear hK K)
        (refine Go.wpR_plain (Go.clsExt _) rfl rfl (fun K hK => ?_); go_simp; refine hK _ ?_; clear hK K)
        (refine Go.wpR_plain (Go.clsExt _) rfl rfl (fun K hK => ?_); go_simp; refine hK _ ?_; clear hK K)
        refine Go.wpR_box (Go.clsExt _) 3 #[.int .i64 0, .int .i64 0, Value.slice none 0 0] 54 rfl rfl rfl rfl rfl (fun w => by go_simp) (fun lo => ?_)
        refine Go.wpR_store (Go.clsExt _) 11 3 lo _ (.agg #[.int .i64 ow, .int .i64 sx, Value.slice ua es.length uc]) [.int .i64 ow, .int .i64 sx, Value.slice ua es.length uc] rfl rfl rfl (by decide) rfl (by first | rfl | (simp [Go.Oper.stored]; go_simp)) (fun w h => Go.wrote_r h) (fun w cs0 hn hB => ⟨_, (by obtain ⟨z0, z1, z2, kz0, kz1, kz2, fz0, fz1, fz2⟩ := box_any3 hn hB; go_simp), boxset3 hn hB _ _ _⟩) rfl ?_
        refine Go.wpR_nil ?_
        intro E9 hm9
        have bx := (hm9.one 12 _ _ _ rfl).1.2 _ rfl
        have hE9 := E9.h
        obtain ⟨X, hX⟩ : ∃ X, X = E9.w := ⟨_, rfl⟩
        rw [← hX] at bx hE9 ⊢
        have HBX := hid (HB5.out.trans (hE9.mono HB5.out.size))
        have HRX := hid (HR5.out.trans (hE9.mono (by have := HR5.out.size; omega)))
        have BXX := hid (HX5.out.below hE9)
        have BLO := hid bx
        have HSX := hid (show ∀ i, (h : i < fs.length) → X.cell? ⟨gs, i, none⟩ = some (.int .i64 (st.getD i 0)) from fun i h => (hE9.cell (p := ⟨gs, i, none⟩) hgs).trans (HSV.out i h))
        have hgX : gs < X.heap.size := by have := hE9.size; omega
        clear hX hm9 E9 X0 X1 X2 X3 X4 X5 mk1 mk2 bx hE9 HSV HX5 HB5 HR5
        go_wp2
        go_loopw [7] (fun i wr => ∃ j : Nat, j ≤ es.length ∧ i = .int .i64 j ∧ Same ((es.drop j).all (fun e => st.getD e.object_.toNat 0 == e.old_)) (es.all (fun e => st.getD e.object_.toNat 0 == e.old_)) ∧ Below X.heap.size X wr) (fun i _ => es.length - (intOf i).toNat)
        case atStart => exact ⟨0, by omega, rfl, .rfl, Below.refl _ _⟩
        case round =>
          obtain ⟨j, hj, rfl, hSj, hB2⟩ := hrel
          have HB2r := hid (HBX.out.trans (hB2.mono HBX.out.size))
          have HR2r := hid (HRX.out.trans (hB2.mono HRX.out.size))
          have bl := BLO.out.below hB2
          have m2 : wr.cell? ⟨lo, 2, none⟩ = some (Value.slice ua es.length uc) := bl.1.2 2 (by simp)
          by_cases hlj : j < es.length
          · obtain ⟨b3, of3, cs3, rfl, hbs3, hel3, hcell3⟩ := EC.out j hlj
            have hel3 : cs3 = Entry.enc es[j] := hel3
            subst hel3
            have hst2 := hid (all_step (fun e : Entry => st.getD e.object_.toNat 0 == e.old_) es j hlj)
            have hobk := HENs.out j hlj
            obtain ⟨E, hE⟩ : ∃ E, es[j] = E := ⟨_, rfl⟩
            have g0 : w.cell? ⟨b3, of3 + j * 5, none⟩ = some (.int .i64 es[j].object_) := hcell3 0 (show 0 < 5 by omega)
            have g2 : w.cell? ⟨b3, of3 + j * 5 + 2, none⟩ = some (.int .i64 es[j].old_) := hcell3 2 (show 2 < 5 by omega)
            have f0 := (HB2r.out.cell (p := ⟨b3, of3 + j * 5, none⟩) hbs3).trans g0
            have f2 := (HB2r.out.cell (p := ⟨b3, of3 + j * 5 + 2, none⟩) hbs3).trans g2
            rw [hE] at f0 f2 hst2 hobk
            clear g0 g2 hcell3 hE bl
            obtain ⟨eo, ev, el, en, ew⟩ := E
            dsimp only at f0 f2 hobk hst2
            obtain ⟨o, rfl⟩ := Int.eq_ofNat_of_zero_le hobk.1
            have hol : o < fs.length := by omega
            have s0 := (hB2.cell (p := ⟨gs, o, none⟩) hgX).trans (HSX.out o hol)
            have ho0 : (0 : Int) ≤ (o : Int) := by omega
            have hoi : (o : Int) < (fs.length : Int) := by omega
            have hji : (j : Int) < (es.length : Int) := by omega
            have hj0 : (0 : Int) ≤ (j : Int) := by omega
            rw [Int.toNat_natCast] at hst2
            generalize st.getD o 0 = x at *
            clear hobk
            by_cases hx : x = el
            · subst hx
              have Hn := hid (show Same ((es.drop (j+1)).all (fun e => st.getD e.object_.toNat 0 == e.old_)) (es.all (fun e => st.getD e.object_.toNat 0 == e.old_)) from .mk (by rw [← hSj.out, hst2.out]; simp))
              clear hst2 hSj
              go_wp2
              go_region
              all_goals go_wp2
              all_goals go_roundw
              case rel => exact ⟨j+1, by omega, by go_num, Hn.out, hB2.drew⟩
              case measure => simp [intOf]; omega
            · have Hcl := hid (show canL st es = false by show es.all _ = false; rw [← hSj.out, hst2.out]; simp [hx])
              have hbn : (x != el) = true := by simpa using hx
              have Hn := hid (show EX = ((k : Int), 2) by rw [Hex2.out, ← HS.out.out]; exact explTo_end (by rw [Hc.out, Hcl.out]; rfl) (by decide))
              clear hst2 hSj hx Hcl
              go_wp2
              go_region
              all_goals go_wp2
              all_goals go_ret2
              all_goals exact ⟨by have h9 := Hn.out; simp [results, Tryz.results57, go_sem, h9], HB2r.out.drew⟩
          · obtain rfl : j = es.length := by omega
            have Hcl := hid (show canL st es = true by show es.all _ = true; rw [← hSj.out, List.drop_length]; rfl)
            have Hn := hid (show Same (explTo fs ds lg m' (k+1)) (explTo fs ds lg lg.length 0) from .mk (by rw [← HS.out.out, explTo_go (by rw [Hc.out, Hcl.out]; rfl)]))
            have p4 : wr.cell? ⟨w.heap.size, 4, none⟩ = some (Value.slice (some ⟨bb, off, none⟩) lg.length cap4) := (BXX.out.below hB2).2 4 (by simp)
            have e0 : wr.cell? ⟨bb, off + k * 4, none⟩ = some (.int .i64 3) := (HB2r.out.cell (p := ⟨bb, off + k * 4, none⟩) hbs).trans HK0.out
            clear Hc HS hSj bl
            go_wp2
            go_roundw
            case rel => exact ⟨k+1, m', by omega, by go_num, Hn.out, HR2r.out⟩
            case measure => simp [intOf]; omega
      by_cases hk2 : lg[k].kind_ = 2
      · have Hc := hid (codeAt_see (fs := fs) (ds := ds) hlt hk2)
        rw [hk2] at e0
        have HSE := hid (HE9.out k hlt)
        obtain ⟨sb, hsb⟩ : ∃ sb, Hid (seen12 fs ds lg k = sb) := ⟨_, hid rfl⟩
        rw [hsb.out] at Hc HSE
        clear c0 c2 hcell hk3 hk2 e2 hS hsb
        go_wp2_with fail
        refine (HSE.out _ T0.out T1.out T2.out T3.out T4.out).mono ?_
        rintro e w5 ⟨rfl, b5⟩
        have HB5 := hid (HBr.out.trans (b5.mono HBr.out.size))
        have HR5 := hid (hB.trans (b5.mono hsr))
        cases sb with
        | true =>
          have Hn := hid (show Same (explTo fs ds lg m' (k+1)) (explTo fs ds lg lg.length 0) from .mk (by rw [← HS.out.out, explTo_go (by rw [Hc.out]; rfl)]))
          clear Hc HS
          go_wp2
          go_roundw
          case rel => exact ⟨k+1, m', by omega, by go_num, Hn.out, HR5.out⟩
          case measure => simp [intOf]; omega
        | false =>
          have Hn := hid (show EX = ((k : Int), 3) by rw [Hex2.out, ← HS.out.out]; exact explTo_end (by rw [Hc.out]; rfl) (by decide))
          clear Hc HS
          go_wp2
          go_ret2
          exact ⟨by have h9 := Hn.out; first | (simp only [h9]; done) | (rw [h9]; done) | (simp [results, Tryz.results57, go_sem, h9]), HB5.out⟩
      · have Hn := hid (show Same (explTo fs ds lg m' (k+1)) (explTo fs ds lg lg.length 0) from .mk (by rw [← hS.out, explTo_go (codeAt_not hlt hk3 hk2)]))
        have h3b : (lg[k].kind_ == 3) = false := by simp [hk3]
        have h2b : (lg[k].kind_ == 2) = false := by simp [hk2]
        generalize lg[k].kind_ = kd at *
        clear c0 c2 hcell e2 hS HS
        go_wp2
        go_roundw
        case rel => exact ⟨k+1, m', by omega, by go_num, Hn.out, hB⟩
        case measure => simp [intOf]; omega
    · obtain rfl : m = 0 := by omega
      have Hn := hid (show EX = (-1, 0) by rw [Hex2.out, ← hS.out]; rfl)
      have hkl : ¬ (k : Int) < (lg.length : Int) := by omega
      go_wp2
      go_ret2
      exact ⟨by have h9 := Hn.out; first | (simp only [h9]; done) | (rw [h9]; done) | (simp [results, Tryz.results57, go_sem, h9]), HBr.out⟩
end Go.Proofs.YtbbdchlabdilcaaGreat
