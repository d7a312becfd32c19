/- Chapter 12's program: Mended. -/
import Derived.Test.YtbbdchlabdilcabGreatM14
import Derived.Test.YtbbdchlabdilcabGreatI11w
import Derived.Test.YtbbdchlabdilcabGreatM4
import Derived.StillTailTactics
import Derived.Test.YtbbdchlabdilcabGreatM15
import Derived.Test.YtbbdchlabdilcabGreatM9
namespace Go.Proofs.YtbbdchlabdilcabGreat
set_option maxRecDepth 100000
open Go.RowKit Go.Proofs Go.Own
open Go Go.BigFrame
set_option linter.unusedVariables false
set_option linter.unusedSimpArgs false
set_option maxHeartbeats 16000000 in
theorem impl_Mended0 (d : WorldD) (v0 v1 v2 v3 v4 : Value) (w : World) (h0 : rdsL w v0 d.first_) (h1 : rdsL w v1 d.store_.heads_) (h2 : rdsL w v2 d.store_.descs_) (h3 : rdsL w v3 d.threads_) (h4 : rdsL w v4 d.log_) (hb : WorldB d) :
    Calls Tryz.prog 7 #[.agg #[v0, v1, v2, v3, v4]] w fun e w' => ∃ u : Value, e = .returned (.tuple #[u, .bool (mendOk d)]) ∧ w'.ownsRow w.heap.size 3 1 u (mendC d).length ((mendC d).flatMap encI) ∧ Below w.heap.size w w' := by
  obtain ⟨j0, hj, hy0, hy1, hy2⟩ := info_parts infoInt
  obtain ⟨fs, ⟨hs, ds⟩, ts, lg⟩ := d
  have Hok := hid (fun w r0 r1 r2 r3 r4 => impl_WorldOk0 ⟨fs, ⟨hs, ds⟩, ts, lg⟩ v0 v1 v2 v3 v4 w r0 r1 r2 r3 r4 (storeB_parts (worldB_parts hb).2.1).2.1)
  have Hfa := hid (fun w r1 r2 => impl_FinishAll0 hs ds v1 v2 w (storeB_parts (worldB_parts hb).2.1).1 (storeB_parts (worldB_parts hb).2.1).2.1 (storeB_parts (worldB_parts hb).2.1).2.2.1 r1 r2)
  dsimp only at h0 h1 h2 h3 h4 Hok ⊢
  obtain ⟨a0, cap0, rfl, hl0, hm0, -⟩ := rdsL_open h0
  obtain ⟨a1, cap1, rfl, hl1, hm1, -⟩ := rdsL_open h1
  obtain ⟨a2, cap2, rfl, hl2, hm2, -⟩ := rdsL_open h2
  obtain ⟨a3, cap3, rfl, hl3, hm3, -⟩ := rdsL_open h3
  obtain ⟨a4, cap4, rfl, hl4, hm4, -⟩ := rdsL_open h4
  have R0 := hid h0
  have R1 := hid h1
  have R2 := hid h2
  have R3 := hid h3
  have R4 := hid h4
  have Hm := hid (show mendOk ⟨fs, ⟨hs, ds⟩, ts, lg⟩ = (worldOk ⟨fs, ⟨hs, ds⟩, ts, lg⟩ && (finAllA hs ds).b) from rfl)
  have Hc := hid (show mendC ⟨fs, ⟨hs, ds⟩, ts, lg⟩ = if mendOk ⟨fs, ⟨hs, ds⟩, ts, lg⟩ = true then valsTo (finAllA hs ds).x.1 (finAllA hs ds).x.1.length else [] from rfl)
  have Hln := hid (show (finAllA hs ds).x.1.length ≤ 1048576 from (storeB_parts (finAllB_ (worldB_parts hb).2.1)).1)
  generalize mendC ⟨fs, ⟨hs, ds⟩, ts, lg⟩ = MC at *
  generalize mendOk ⟨fs, ⟨hs, ds⟩, ts, lg⟩ = MO at *
  generalize worldOk ⟨fs, ⟨hs, ds⟩, ts, lg⟩ = R at *
  obtain ⟨XH, hXH⟩ : ∃ y, (finAllA hs ds).x.1 = y := ⟨_, rfl⟩
  obtain ⟨XD, hXD⟩ : ∃ y, (finAllA hs ds).x.2 = y := ⟨_, rfl⟩
  obtain ⟨XB, hXB⟩ : ∃ y, (finAllA hs ds).b = y := ⟨_, rfl⟩
  rw [hXH] at Hc
  rw [hXB] at Hm
  rw [hXH] at Hln
  rw [hXH, hXD, hXB] at Hfa
  clear h0 h1 h2 h3 h4 hb hXH hXD hXB
  obtain ⟨W1, hW1⟩ : ∃ X, w.alloc (.cells #[Value.slice a0 fs.length cap0, Value.slice a1 hs.length cap1, Value.slice a2 ds.length cap2, Value.slice a3 ts.length cap3, Value.slice a4 lg.length cap4] 41) = X := ⟨_, rfl⟩
  have hB1 : Below w.heap.size w W1 := by rw [← hW1]; exact (Below.refl _ _).alloc (Nat.le_refl _) _
  have BW : Hid (Box W1 w.heap.size [Value.slice a0 fs.length cap0, Value.slice a1 hs.length cap1, Value.slice a2 ds.length cap2, Value.slice a3 ts.length cap3, Value.slice a4 lg.length cap4]) := by rw [← hW1]; exact hid (Box.alloc _ _ _)
  have k0 : W1.cell? ⟨w.heap.size, 0, none⟩ = some (Value.slice a0 fs.length cap0) := BW.out.2 0 (by simp)
  have k1 : W1.cell? ⟨w.heap.size, 1, none⟩ = some (Value.slice a1 hs.length cap1) := BW.out.2 1 (by simp)
  have k2 : W1.cell? ⟨w.heap.size, 2, none⟩ = some (Value.slice a2 ds.length cap2) := BW.out.2 2 (by simp)
  have k3 : W1.cell? ⟨w.heap.size, 3, none⟩ = some (Value.slice a3 ts.length cap3) := BW.out.2 3 (by simp)
  have k4 : W1.cell? ⟨w.heap.size, 4, none⟩ = some (Value.slice a4 lg.length cap4) := BW.out.2 4 (by simp)
  have HW1 := hid hW1
  clear hW1
  go_enter Tryz.func7, Tryz.ntmps7
  go_wp2_with fail
  rw [HW1.out]
  refine (Hok.out _ (rdsL.below R0.out hB1) (rdsL.below R1.out hB1) (rdsL.below R2.out hB1) (rdsL.below R3.out hB1) (rdsL.below R4.out hB1)).mono ?_
  rintro e w2 ⟨rfl, b2⟩
  have hB2 := hB1.trans (b2.mono hB1.size)
  have HB2 := hid hB2
  have bx2 := BW.out.below b2
  have x1 : w2.cell? ⟨w.heap.size, 1, none⟩ = some (Value.slice a1 hs.length cap1) := bx2.2 1 (by simp)
  have x2 : w2.cell? ⟨w.heap.size, 2, none⟩ = some (Value.slice a2 ds.length cap2) := bx2.2 2 (by simp)
  have Hfc := hid (Hfa.out w2 (rdsL.below R1.out hB2) (rdsL.below R2.out hB2))
  clear k0 k1 k2 k3 k4 bx2 Hok Hfa
  cases R with
  | false =>
    have hm : MO = false := by rw [Hm.out]; rfl
    have hc : MC = [] := by rw [Hc.out, hm]; simp
    subst hm
    subst hc
    clear Hm Hc
    go_wp2
    go_ret2
    exact ⟨_, rfl, (⟨rfl, .inl ⟨rfl, rfl⟩⟩ : (w2).ownsRow w.heap.size 3 1 (.slice none 0 0) 0 []), HB2.out⟩
  | true =>
  go_wp2_with fail
  refine Hfc.out.mono ?_
  rintro e w3 ⟨u0, u1, rfl, hown, b3⟩
  obtain ⟨S0, S1, o0, o1, rg0, rg1, dj⟩ := hown
  have HB3 := hid (hB2.trans (b3.mono hB2.size))
  have RH := hid o0.rds
  obtain ⟨ua, uc, rfl, huc1, huc2, hch⟩ := rdsL_open o0.rds
  obtain ⟨ub, ud, rfl, -, -, -⟩ := rdsL_open o1.rds
  have HCH := hid hch
  obtain ⟨W4, hW4⟩ : ∃ X, w3.alloc (.cells #[.slice ua XH.length uc, .slice ub XD.length ud] 37) = X := ⟨_, rfl⟩
  have b4 : Below w3.heap.size w3 W4 := by rw [← hW4]; exact (Below.refl _ _).alloc (Nat.le_refl _) _
  have BS : Hid (Box W4 w3.heap.size [.slice ua XH.length uc, .slice ub XD.length ud]) := by rw [← hW4]; exact hid (Box.alloc _ _ _)
  have HB4 := hid (HB3.out.trans (b4.mono HB3.out.size))
  have hs3 := HB3.out.size
  have hs4 := BS.out.1
  have y0 : W4.cell? ⟨w3.heap.size, 0, none⟩ = some (.slice ua XH.length uc) := BS.out.2 0 (by simp)
  have HW4 := hid hW4
  have B34 := hid b4
  clear x1 x2 o0 o1 rg0 rg1 dj hch b3 b4 hB2 Hfc
  cases XB with
  | false =>
    have hm : MO = false := by rw [Hm.out]; rfl
    have hc : MC = [] := by rw [Hc.out, hm]; simp
    subst hm
    subst hc
    clear Hm Hc
    go_wp2
    go_ret2
    exact ⟨_, rfl, (⟨rfl, .inl ⟨rfl, rfl⟩⟩ : (W4).ownsRow w.heap.size 3 1 (.slice none 0 0) 0 []), HB4.out⟩
  | true =>
  have hm : MO = true := by rw [Hm.out]; rfl
  have hc : MC = valsTo XH XH.length := by rw [Hc.out, hm]; simp
  have hxl : XH.length ≤ 1048576 := Hln.out
  subst hm
  subst hc
  clear Hm Hc Hln
  have O5 := hid (show W4.ownsRow W4.heap.size 3 1 (.slice none 0 0) 0 [] from ⟨rfl, .inl ⟨rfl, rfl⟩⟩)
  have hB5 : Below W4.heap.size W4 W4 := Below.refl _ _
  go_wp2
  go_loopw [23, 6] (fun i u wr => ∃ (k : Nat) (ya : Option Addr) (ym yc : Nat), k ≤ XH.length ∧ i = .int .i64 k ∧ u = Value.slice ya ym yc ∧ Below W4.heap.size W4 wr ∧ Hid (wr.ownsRow W4.heap.size 3 1 (.slice ya ym yc) (valsTo XH k).length ((valsTo XH k).flatMap encI))) (fun i _ _ => XH.length - (intOf i).toNat)
  case atStart => exact ⟨0, _, _, _, by omega, rfl, rfl, hB5, O5⟩
  case round =>
    clear O5 hB5 y0
    obtain ⟨k, ya, ym, yc, hk, rfl, rfl, hB, O1⟩ := hrel
    have q0 : wr.cell? ⟨w3.heap.size, 0, none⟩ = some (.slice ua XH.length uc) := (BS.out.below hB).2 0 (by simp)
    have HBr := hid (HB4.out.trans (hB.mono HB4.out.size))
    by_cases hlt : k < XH.length
    · obtain ⟨bb, off, cs, rfl, hbs, rfl, hcell⟩ := HCH.out k hlt
      have hB3r := B34.out.trans (hB.mono B34.out.size)
      have c0 : w3.cell? ⟨bb, off + k * 3, none⟩ = some (.int .i64 XH[k].value_) := hcell 0 (show 0 < 3 by omega)
      have c1 : w3.cell? ⟨bb, off + k * 3 + 1, none⟩ = some (.int .i64 XH[k].version_) := hcell 1 (show 1 < 3 by omega)
      have c2 : w3.cell? ⟨bb, off + k * 3 + 2, none⟩ = some (.int .i64 XH[k].desc_) := hcell 2 (show 2 < 3 by omega)
      have e0 := (hB3r.cell (p := ⟨bb, off + k * 3, none⟩) hbs).trans c0
      have e1 := (hB3r.cell (p := ⟨bb, off + k * 3 + 1, none⟩) hbs).trans c1
      have e2 := (hB3r.cell (p := ⟨bb, off + k * 3 + 2, none⟩) hbs).trans c2
      have Hs := hid (valsTo_succ hlt)
      have hcl := valsTo_len (hs := XH) (k := k) (by omega)
      clear c0 c1 c2 hcell HCH RH
      generalize XH[k].value_ = hv at *
      generalize XH[k].version_ = hr at *
      generalize XH[k].desc_ = hd at *
      obtain ⟨V, hV⟩ : ∃ X, wr.alloc (.cells #[.int .i64 hv, .int .i64 hr, .int .i64 hd] 55) = X := ⟨_, rfl⟩
      have b9 : Below wr.heap.size wr V := by rw [← hV]; exact (Below.refl _ _).alloc (Nat.le_refl _) _
      have bv : Box V wr.heap.size [.int .i64 hv, .int .i64 hr, .int .i64 hd] := by rw [← hV]; exact Box.alloc _ _ _
      have z0 : V.cell? ⟨wr.heap.size, 0, none⟩ = some (.int .i64 hv) := bv.2 0 (by simp)
      have hBV := hB.trans (b9.mono hB.size)
      have OV := hid (owns_below O1.out b9)
      clear bv b9
      obtain ⟨W5, hW5⟩ : ∃ Y, V.alloc (.cells #[.int .i64 hv] 3) = Y := ⟨_, rfl⟩
      have b23 : Below V.heap.size V W5 := by rw [← hW5]; exact (Below.refl _ _).alloc (Nat.le_refl _) _
      have hB3 := hBV.trans (b23.mono hBV.size)
      have hl3 : Flat W5 (.slice (some ⟨V.heap.size, 0, none⟩) 1 1) 1 1 [.int .i64 hv] := by rw [← hW5]; exact Flat.of_owns (owns_litN V 3 1 1 #[.int .i64 hv] 0 (Nat.zero_le _) rfl (by decide))
      have O3 := owns_below OV.out b23
      have hone := oneCell_1 hv
      have hs5 := hB3.size
      have Hcl := hid hcl
      have hcl2 : (valsTo XH k).length + 1 ≤ 1048577 := by omega
      clear hcl
      go_wp2_with (at_builtin; refine wpList_append_flat rfl _ _ 22 rfl W4.heap.size 3 j0 (.int .i64 0) 1 8 Tryz.underlying22 hj hy0 hy1 hy2 rfl (by decide) _ _ _ rfl O3 _ _ _ rfl hl3 hone (by unfold maxLen; omega) (by omega) hs5 ?_)
      intro v4 w6 o4 g4
      obtain ⟨za, zm, zc, rfl⟩ := owns_form3 o4
      have hB6 : Below W4.heap.size W4 w6 := hB3.trans (below_grown g4 hB3.size fun b e => by have := (World.ownsRow.lt O3 b e).1; omega)
      have O4 := hid o4
      clear o4 g4 O3 OV hl3 hW5 b23 hone hcl2
      go_wp2
      go_roundw
      case rel => exact ⟨k+1, _, _, _, by omega, by go_num, rfl, hB6, hid (by rw [Hs.out, encI_snoc, List.length_append]; exact O4.out)⟩
      case measure => simp [intOf]; omega
    · obtain rfl : k = XH.length := by omega
      have hs44 : w.heap.size ≤ W4.heap.size := by omega
      go_wp2
      go_ret2
      exact ⟨_, rfl, owns_mono O1.out hs44, HBr.out⟩
end Go.Proofs.YtbbdchlabdilcabGreat
/- Chapter 12: Mended's contracts as the law's walk takes them. -/
namespace Go.Proofs.YtbbdchlabdilcabGreat
set_option maxRecDepth 100000
open Go.RowKit Go.Proofs Go.Own
set_option linter.unusedVariables false
theorem Mended_B {d : WorldD} (hb : WorldB d) : IntSB (mendC d) := by
  have h : (mendH d).length ≤ 1048576 := (storeB_parts (finAllB_ (worldB_parts hb).2.1)).1
  unfold mendC IntSB
  split
  · rw [valsTo_len (Nat.le_refl _)]; exact h
  · simp
theorem spec_MendedW (d : WorldD) (v0 v1 v2 v3 v4 : Value) (w : World) (r0 : rdsL w v0 d.first_) (r1 : rdsL w v1 d.store_.heads_) (r2 : rdsL w v2 d.store_.descs_) (r3 : rdsL w v3 d.threads_) (r4 : rdsL w v4 d.log_) (hb : WorldB d) :
    Calls Tryz.prog 5 #[.agg #[v0, v1, v2, v3, v4]] w fun e w' => ∃ u : Value, e = .returned (.tuple #[u, .bool (mendOk d)]) ∧ rdsL w' u (mendC d) ∧ Below w.heap.size w w' :=
  (spec_Mended0 d v0 v1 v2 v3 v4 w r0 r1 r2 r3 r4 hb).mono fun _ _ ⟨u, he, ho, b⟩ => ⟨u, he, rdsInts.2 (Flat.of_owns ho), b⟩
theorem impl_MendedW (d : WorldD) (v0 v1 v2 v3 v4 : Value) (w : World) (r0 : rdsL w v0 d.first_) (r1 : rdsL w v1 d.store_.heads_) (r2 : rdsL w v2 d.store_.descs_) (r3 : rdsL w v3 d.threads_) (r4 : rdsL w v4 d.log_) (hb : WorldB d) :
    Calls Tryz.prog 7 #[.agg #[v0, v1, v2, v3, v4]] w fun e w' => ∃ u : Value, ∃ S : Nat → Prop, e = .returned (.tuple #[u, .bool (mendOk d)]) ∧ ownL S w' u (mendC d) ∧ (∀ k, S k → Rg w.heap.size w'.heap.size k) ∧ IntSB (mendC d) ∧ Below w.heap.size w w' :=
  (impl_Mended0 d v0 v1 v2 v3 v4 w r0 r1 r2 r3 r4 hb).mono fun _ _ ⟨u, he, ho, b⟩ => ⟨u, _, he, ownI_of ho, fun _ h => h, Mended_B hb, b⟩
end Go.Proofs.YtbbdchlabdilcabGreat
