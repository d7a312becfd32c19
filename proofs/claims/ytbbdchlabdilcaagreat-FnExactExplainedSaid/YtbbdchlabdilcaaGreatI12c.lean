/- Chapter 12's program: the numbers of the commits, Commits12, StateAt. -/
import Derived.Test.YtbbdchlabdilcaaGreatM15
import Derived.Test.YtbbdchlabdilcaaGreatI12
import Derived.Test.YtbbdchlabdilcaaGreatI11w
import Derived.StillTailTactics
namespace Go.Proofs.YtbbdchlabdilcaaGreat
set_option maxRecDepth 100000
open Go.RowKit Go.Proofs Go.Own
open Go Go.BigFrame
set_option linter.unusedVariables false
set_option linter.unusedSimpArgs false
theorem nilRow12 (W : World) (b e : Nat) : W.ownsRow b e 1 (.slice none 0 0) 0 [] := ⟨rfl, .inl ⟨rfl, rfl⟩⟩
set_option maxHeartbeats 16000000 in
theorem impl_commitsOf (lg : List Event) (v : Value) (w : World) (h : rdsL w v lg) (hlg : lg.length ≤ 1048576) :
    Calls Tryz.prog 72 #[v] w fun e w' => ∃ u : Value, e = .returned u ∧ w'.ownsRow w.heap.size 3 1 u (comsTo lg lg.length).length ((comsTo lg lg.length).flatMap encI) ∧ Below w.heap.size w w' := by
  obtain ⟨j0, hj, hy0, hy1, hy2⟩ := info_parts infoInt
  obtain ⟨a4, cap4, rfl, hl4, hm4, hc4⟩ := rdsL_open h
  have HC4 := hid hc4
  have hll : lg.length ≤ 9223372036854775807 := by omega
  have hB0 := Below.refl w.heap.size w
  clear h hc4
  go_enter Tryz.func72, Tryz.ntmps72
  go_wp2
  go_loopw [8, 3] (fun i u wr => ∃ (k : Nat) (ua : Option Addr) (um uc : Nat), k ≤ lg.length ∧ i = .int .i64 k ∧ u = Value.slice ua um uc ∧ Below w.heap.size w wr ∧ Hid (wr.ownsRow w.heap.size 3 1 (.slice ua um uc) (comsTo lg k).length ((comsTo lg k).flatMap encI))) (fun i _ _ => lg.length - (intOf i).toNat)
  case atStart => exact ⟨0, _, _, _, by omega, rfl, rfl, hB0, hid (nilRow12 _ _ _)⟩
  case round =>
    obtain ⟨k, ua, um, uc, hk, rfl, rfl, hB, O1⟩ := hrel
    by_cases hlt : k < lg.length
    · obtain ⟨bb, off, cs, rfl, hbs, hel, hcell⟩ := HC4.out k hlt
      have hel : cs = Event.enc lg[k] := hel
      subst hel
      have c0 : w.cell? ⟨bb, off + k * 4, none⟩ = some (.int .i64 lg[k].kind_) := hcell 0 (show 0 < 4 by omega)
      have c1 : w.cell? ⟨bb, off + k * 4 + 1, none⟩ = some (.int .i64 lg[k].thread_) := hcell 1 (show 1 < 4 by omega)
      have c2 : w.cell? ⟨bb, off + k * 4 + 2, none⟩ = some (.int .i64 lg[k].object_) := hcell 2 (show 2 < 4 by omega)
      have c3 : w.cell? ⟨bb, off + k * 4 + 3, none⟩ = some (.int .i64 lg[k].value_) := hcell 3 (show 3 < 4 by omega)
      have e0 := (hB.cell (p := ⟨bb, off + k * 4, none⟩) hbs).trans c0
      have e1 := (hB.cell (p := ⟨bb, off + k * 4 + 1, none⟩) hbs).trans c1
      have e2 := (hB.cell (p := ⟨bb, off + k * 4 + 2, none⟩) hbs).trans c2
      have e3 := (hB.cell (p := ⟨bb, off + k * 4 + 3, none⟩) hbs).trans c3
      have hcl := comsTo_len lg k
      have Hyes := hid (fun hk3 => comsTo_yes hlt hk3)
      have Hno := hid (fun hk3 => comsTo_no hlt hk3)
      clear c0 c1 c2 c3 hcell HC4
      generalize lg[k].kind_ = kd at *
      generalize lg[k].thread_ = th at *
      generalize lg[k].object_ = ob at *
      generalize lg[k].value_ = va at *
      obtain ⟨V, hV⟩ : ∃ X, wr.alloc (.cells #[.int .i64 kd, .int .i64 th, .int .i64 ob, .int .i64 va] 106) = X := ⟨_, rfl⟩
      have hBV : Below wr.heap.size wr V := by rw [← hV]; exact (Below.refl _ _).alloc (Nat.le_refl _) _
      have bv : Box V wr.heap.size [.int .i64 kd, .int .i64 th, .int .i64 ob, .int .i64 va] := by rw [← hV]; exact Box.alloc _ _ _
      have y0 : V.cell? ⟨wr.heap.size, 0, none⟩ = some (.int .i64 kd) := bv.2 0 (by simp)
      have y2 : V.cell? ⟨wr.heap.size, 2, none⟩ = some (.int .i64 ob) := bv.2 2 (by simp)
      have hBw := hB.trans (hBV.mono hB.size)
      have OV := hid (owns_below O1.out hBV)
      clear bv O1
      by_cases hk3 : kd = 3
      · subst hk3
        have Hs := hid (Hyes.out rfl)
        clear Hyes Hno
        obtain ⟨W3, hW3⟩ : ∃ Y, V.alloc (.cells #[.int .i64 ob] 3) = Y := ⟨_, rfl⟩
        have b23 : Below V.heap.size V W3 := by rw [← hW3]; exact (Below.refl _ _).alloc (Nat.le_refl _) _
        have hB3 := hBw.trans (b23.mono hBw.size)
        have hl3 : Flat W3 (.slice (some ⟨V.heap.size, 0, none⟩) 1 1) 1 1 [.int .i64 ob] := by rw [← hW3]; exact Flat.of_owns (owns_litN V 3 1 1 #[.int .i64 ob] 0 (Nat.zero_le _) rfl (by decide))
        have O3 := owns_below OV.out b23
        have hone := oneCell_1 ob
        have hs3 := hB3.size
        go_wp2_with (at_builtin; refine wpList_append_flat rfl _ _ 24 rfl w.heap.size 3 j0 (.int .i64 0) 1 8 Tryz.underlying24 hj hy0 hy1 hy2 rfl (by decide) _ _ _ rfl O3 _ _ _ rfl hl3 hone (by unfold maxLen; omega) (by omega) hs3 ?_)
        intro v4 w4 o4 g4
        obtain ⟨ya, ym, yc, rfl⟩ := owns_form3 o4
        have hB4 : Below w.heap.size w w4 := hB3.trans (below_grown g4 hB3.size fun b e => by have := (World.ownsRow.lt O3 b e).1; omega)
        have O4 := hid o4
        clear o4 g4 O3 OV hl3 hW3 b23 hone
        go_wp2
        go_roundw
        case rel => exact ⟨k+1, _, _, _, by omega, by go_num, rfl, hB4, hid (by rw [Hs.out, encI_snoc, List.length_append]; exact O4.out)⟩
        case measure => simp [intOf]; omega
      · have Hs := hid (Hno.out hk3)
        clear Hyes Hno
        go_wp2
        go_roundw
        case rel => exact ⟨k+1, _, _, _, by omega, by go_num, rfl, hBw, hid (by rw [Hs.out]; exact OV.out)⟩
        case measure => simp [intOf]; omega
    · obtain rfl : k = lg.length := by omega
      go_wp2
      go_ret
      exact ⟨_, rfl, O1.out, hB⟩
set_option maxHeartbeats 16000000 in
theorem impl_Commits0 (d : WorldD) (v0 v1 v2 v3 v4 : Value) (w : World) (h0 : rdsL w v0 d.first_) (h1 : rdsL w v1 d.store_.heads_) (h2 : rdsL w v2 d.store_.descs_) (h3 : rdsL w v3 d.threads_) (h4 : rdsL w v4 d.log_) (hb : WorldB d) :
    Calls Tryz.prog 19 #[.agg #[v0, v1, v2, v3, v4]] w fun e w' => ∃ u : Value, e = .returned (.tuple #[u, .bool (worldOk d)]) ∧ w'.ownsRow w.heap.size 3 1 u (comsC d).length ((comsC d).flatMap encI) ∧ Below w.heap.size w w' := by
  obtain ⟨fs, ⟨hs, ds⟩, ts, lg⟩ := d
  have Hok := hid (fun w r0 r1 r2 r3 r4 => impl_WorldOk0 ⟨fs, ⟨hs, ds⟩, ts, lg⟩ v0 v1 v2 v3 v4 w r0 r1 r2 r3 r4 (storeB_parts (worldB_parts hb).2.1).2.1)
  have hlg : lg.length ≤ 1048576 := by have h := (worldB_parts hb).2.2.2; exact h
  dsimp only at h0 h1 h2 h3 h4 Hok ⊢
  obtain ⟨a0, cap0, rfl, hl0, hm0, -⟩ := rdsL_open h0
  obtain ⟨a1, cap1, rfl, hl1, hm1, -⟩ := rdsL_open h1
  obtain ⟨a2, cap2, rfl, hl2, hm2, -⟩ := rdsL_open h2
  obtain ⟨a3, cap3, rfl, hl3, hm3, -⟩ := rdsL_open h3
  obtain ⟨a4, cap4, rfl, hl4, hm4, -⟩ := rdsL_open h4
  have R0 := hid h0
  have R1 := hid h1
  have R2 := hid h2
  have R3 := hid h3
  have R4 := hid h4
  have Hsc := hid (show comsC ⟨fs, ⟨hs, ds⟩, ts, lg⟩ = if worldOk ⟨fs, ⟨hs, ds⟩, ts, lg⟩ = true then comsTo lg lg.length else [] from rfl)
  generalize comsC ⟨fs, ⟨hs, ds⟩, ts, lg⟩ = SC at *
  generalize worldOk ⟨fs, ⟨hs, ds⟩, ts, lg⟩ = R at *
  clear h0 h1 h2 h3 h4 hb
  obtain ⟨W1, hW1⟩ : ∃ X, w.alloc (.cells #[Value.slice a0 fs.length cap0, Value.slice a1 hs.length cap1, Value.slice a2 ds.length cap2, Value.slice a3 ts.length cap3, Value.slice a4 lg.length cap4] 32) = X := ⟨_, rfl⟩
  have hB1 : Below w.heap.size w W1 := by rw [← hW1]; exact (Below.refl _ _).alloc (Nat.le_refl _) _
  have BW : Hid (Box W1 w.heap.size [Value.slice a0 fs.length cap0, Value.slice a1 hs.length cap1, Value.slice a2 ds.length cap2, Value.slice a3 ts.length cap3, Value.slice a4 lg.length cap4]) := by rw [← hW1]; exact hid (Box.alloc _ _ _)
  have k0 : W1.cell? ⟨w.heap.size, 0, none⟩ = some (Value.slice a0 fs.length cap0) := BW.out.2 0 (by simp)
  have k1 : W1.cell? ⟨w.heap.size, 1, none⟩ = some (Value.slice a1 hs.length cap1) := BW.out.2 1 (by simp)
  have k2 : W1.cell? ⟨w.heap.size, 2, none⟩ = some (Value.slice a2 ds.length cap2) := BW.out.2 2 (by simp)
  have k3 : W1.cell? ⟨w.heap.size, 3, none⟩ = some (Value.slice a3 ts.length cap3) := BW.out.2 3 (by simp)
  have k4 : W1.cell? ⟨w.heap.size, 4, none⟩ = some (Value.slice a4 lg.length cap4) := BW.out.2 4 (by simp)
  have HW1 := hid hW1
  clear hW1
  go_enter Tryz.func19, Tryz.ntmps19
  go_wp2_with fail
  rw [HW1.out]
  refine (Hok.out _ (rdsL.below R0.out hB1) (rdsL.below R1.out hB1) (rdsL.below R2.out hB1) (rdsL.below R3.out hB1) (rdsL.below R4.out hB1)).mono ?_
  rintro e w2 ⟨rfl, b2⟩
  have hB2 := hB1.trans (b2.mono hB1.size)
  have bx2 := BW.out.below b2
  have x4 : w2.cell? ⟨w.heap.size, 4, none⟩ = some (Value.slice a4 lg.length cap4) := bx2.2 4 (by simp)
  have T4 := hid (rdsL.below R4.out hB2)
  clear k0 k1 k2 k3 k4 bx2
  cases R with
  | false =>
    have Hn := hid (show SC = [] by rw [Hsc.out]; simp)
    go_wp2
    go_ret2
    exact ⟨_, rfl, by rw [Hn.out]; exact nilRow12 _ _ _, hB2⟩
  | true =>
    have Hn := hid (show SC = comsTo lg lg.length by rw [Hsc.out]; simp)
    go_wp2_with fail
    refine (impl_commitsOf lg _ _ T4.out hlg).mono ?_
    rintro e w3 ⟨u, rfl, o3, b3⟩
    have hB3 := hB2.trans (b3.mono hB2.size)
    have O3 := hid (owns_mono o3 hB2.size)
    clear o3
    go_wp2
    go_ret2
    exact ⟨_, rfl, by rw [Hn.out]; exact O3.out, hB3⟩
end Go.Proofs.YtbbdchlabdilcaaGreat
