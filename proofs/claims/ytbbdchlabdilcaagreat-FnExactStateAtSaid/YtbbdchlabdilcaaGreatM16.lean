/- Chapter 12's program: the numbers of the commits, Commits12, StateAt. -/
import Derived.Test.YtbbdchlabdilcaaGreatM12
import Derived.Test.YtbbdchlabdilcaaGreatI12
import Derived.Test.YtbbdchlabdilcaaGreatI11w
import Derived.StillTailTactics
import Derived.Test.YtbbdchlabdilcaaGreatS7d
namespace Go.Proofs.YtbbdchlabdilcaaGreat
set_option maxRecDepth 100000
open Go.RowKit Go.Proofs Go.Own
open Go Go.BigFrame
set_option linter.unusedVariables false
set_option linter.unusedSimpArgs false
theorem nilRow12 (W : World) (b e : Nat) : W.ownsRow b e 1 (.slice none 0 0) 0 [] := ⟨rfl, .inl ⟨rfl, rfl⟩⟩
set_option maxHeartbeats 16000000 in
theorem impl_commitsOf (lg : List Event) (v : Value) (w : World) (h : rdsL w v lg) (hlg : lg.length ≤ 1048576) :
    Calls Tryz.prog 72 #[v] w fun e w' => ∃ u : Value, e = .returned u ∧ w'.ownsRow w.heap.size 3 1 u (comsTo lg lg.length).length ((comsTo lg lg.length).flatMap encI) ∧ Below w.heap.size w w' := by
  obtain ⟨j0, hj, hy0, hy1, hy2⟩ := info_parts infoInt
  obtain ⟨a4, cap4, rfl, hl4, hm4, hc4⟩ := rdsL_open h
  have HC4 := hid hc4
  have hll : lg.length ≤ 9223372036854775807 := by omega
  have hB0 := Below.refl w.heap.size w
  clear h hc4
  go_enter Tryz.func72, Tryz.ntmps72
  go_wp2
  go_loopw [8, 3] (fun i u wr => ∃ (k : Nat) (ua : Option Addr) (um uc : Nat), k ≤ lg.length ∧ i = .int .i64 k ∧ u = Value.slice ua um uc ∧ Below w.heap.size w wr ∧ Hid (wr.ownsRow w.heap.size 3 1 (.slice ua um uc) (comsTo lg k).length ((comsTo lg k).flatMap encI))) (fun i _ _ => lg.length - (intOf i).toNat)
  case atStart => exact ⟨0, _, _, _, by omega, rfl, rfl, hB0, hid (nilRow12 _ _ _)⟩
  case round =>
    obtain ⟨k, ua, um, uc, hk, rfl, rfl, hB, O1⟩ := hrel
    by_cases hlt : k < lg.length
    · obtain ⟨bb, off, cs, rfl, hbs, hel, hcell⟩ := HC4.out k hlt
      have hel : cs = Event.enc lg[k] := hel
      subst hel
      have c0 : w.cell? ⟨bb, off + k * 4, none⟩ = some (.int .i64 lg[k].kind_) := hcell 0 (show 0 < 4 by omega)
      have c1 : w.cell? ⟨bb, off + k * 4 + 1, none⟩ = some (.int .i64 lg[k].thread_) := hcell 1 (show 1 < 4 by omega)
      have c2 : w.cell? ⟨bb, off + k * 4 + 2, none⟩ = some (.int .i64 lg[k].object_) := hcell 2 (show 2 < 4 by omega)
      have c3 : w.cell? ⟨bb, off + k * 4 + 3, none⟩ = some (.int .i64 lg[k].value_) := hcell 3 (show 3 < 4 by omega)
      have e0 := (hB.cell (p := ⟨bb, off + k * 4, none⟩) hbs).trans c0
      have e1 := (hB.cell (p := ⟨bb, off + k * 4 + 1, none⟩) hbs).trans c1
      have e2 := (hB.cell (p := ⟨bb, off + k * 4 + 2, none⟩) hbs).trans c2
      have e3 := (hB.cell (p := ⟨bb, off + k * 4 + 3, none⟩) hbs).trans c3
      have hcl := comsTo_len lg k
      have Hyes := hid (fun hk3 => comsTo_yes hlt hk3)
      have Hno := hid (fun hk3 => comsTo_no hlt hk3)
      clear c0 c1 c2 c3 hcell HC4
      generalize lg[k].kind_ = kd at *
      generalize lg[k].thread_ = th at *
      generalize lg[k].object_ = ob at *
      generalize lg[k].value_ = va at *
      obtain ⟨V, hV⟩ : ∃ X, wr.alloc (.cells #[.int .i64 kd, .int .i64 th, .int .i64 ob, .int .i64 va] 106) = X := ⟨_, rfl⟩
      have hBV : Below wr.heap.size wr V := by rw [← hV]; exact (Below.refl _ _).alloc (Nat.le_refl _) _
      have bv : Box V wr.heap.size [.int .i64 kd, .int .i64 th, .int .i64 ob, .int .i64 va] := by rw [← hV]; exact Box.alloc _ _ _
      have y0 : V.cell? ⟨wr.heap.size, 0, none⟩ = some (.int .i64 kd) := bv.2 0 (by simp)
      have y2 : V.cell? ⟨wr.heap.size, 2, none⟩ = some (.int .i64 ob) := bv.2 2 (by simp)
      have hBw := hB.trans (hBV.mono hB.size)
      have OV := hid (owns_below O1.out hBV)
      clear bv O1
      by_cases hk3 : kd = 3
      · subst hk3
        have Hs := hid (Hyes.out rfl)
        clear Hyes Hno
        obtain ⟨W3, hW3⟩ : ∃ Y, V.alloc (.cells #[.int .i64 ob] 3) = Y := ⟨_, rfl⟩
        have b23 : Below V.heap.size V W3 := by rw [← hW3]; exact (Below.refl _ _).alloc (Nat.le_refl _) _
        have hB3 := hBw.trans (b23.mono hBw.size)
        have hl3 : Flat W3 (.slice (some ⟨V.heap.size, 0, none⟩) 1 1) 1 1 [.int .i64 ob] := by rw [← hW3]; exact Flat.of_owns (owns_litN V 3 1 1 #[.int .i64 ob] 0 (Nat.zero_le _) rfl (by decide))
        have O3 := owns_below OV.out b23
        have hone := oneCell_1 ob
        have hs3 := hB3.size
        go_wp2_with (at_builtin; refine wpList_append_flat rfl _ _ 24 rfl w.heap.size 3 j0 (.int .i64 0) 1 8 Tryz.underlying24 hj hy0 hy1 hy2 rfl (by decide) _ _ _ rfl O3 _ _ _ rfl hl3 hone (by unfold maxLen; omega) (by omega) hs3 ?_)
        intro v4 w4 o4 g4
        obtain ⟨ya, ym, yc, rfl⟩ := owns_form3 o4
        have hB4 : Below w.heap.size w w4 := hB3.trans (below_grown g4 hB3.size fun b e => by have := (World.ownsRow.lt O3 b e).1; omega)
        have O4 := hid o4
        clear o4 g4 O3 OV hl3 hW3 b23 hone
        go_wp2
        go_roundw
        case rel => exact ⟨k+1, _, _, _, by omega, by go_num, rfl, hB4, hid (by rw [Hs.out, encI_snoc, List.length_append]; exact O4.out)⟩
        case measure => simp [intOf]; omega
      · have Hs := hid (Hno.out hk3)
        clear Hyes Hno
        go_wp2
        go_roundw
        case rel => exact ⟨k+1, _, _, _, by omega, by go_num, rfl, hBw, hid (by rw [Hs.out]; exact OV.out)⟩
        case measure => simp [intOf]; omega
    · obtain rfl : k = lg.length := by omega
      go_wp2
      go_ret
      exact ⟨_, rfl, O1.out, hB⟩
set_option maxHeartbeats 16000000 in
theorem impl_Commits0 (d : WorldD) (v0 v1 v2 v3 v4 : Value) (w : World) (h0 : rdsL w v0 d.first_) (h1 : rdsL w v1 d.store_.heads_) (h2 : rdsL w v2 d.store_.descs_) (h3 : rdsL w v3 d.threads_) (h4 : rdsL w v4 d.log_) (hb : WorldB d) :
    Calls Tryz.prog 19 #[.agg #[v0, v1, v2, v3, v4]] w fun e w' => ∃ u : Value, e = .returned (.tuple #[u, .bool (worldOk d)]) ∧ w'.ownsRow w.heap.size 3 1 u (comsC d).length ((comsC d).flatMap encI) ∧ Below w.heap.size w w' := by
  obtain ⟨fs, ⟨hs, ds⟩, ts, lg⟩ := d
  have Hok := hid (fun w r0 r1 r2 r3 r4 => impl_WorldOk0 ⟨fs, ⟨hs, ds⟩, ts, lg⟩ v0 v1 v2 v3 v4 w r0 r1 r2 r3 r4 (storeB_parts (worldB_parts hb).2.1).2.1)
  have hlg : lg.length ≤ 1048576 := by have h := (worldB_parts hb).2.2.2; exact h
  dsimp only at h0 h1 h2 h3 h4 Hok ⊢
  obtain ⟨a0, cap0, rfl, hl0, hm0, -⟩ := rdsL_open h0
  obtain ⟨a1, cap1, rfl, hl1, hm1, -⟩ := rdsL_open h1
  obtain ⟨a2, cap2, rfl, hl2, hm2, -⟩ := rdsL_open h2
  obtain ⟨a3, cap3, rfl, hl3, hm3, -⟩ := rdsL_open h3
  obtain ⟨a4, cap4, rfl, hl4, hm4, -⟩ := rdsL_open h4
  have R0 := hid h0
  have R1 := hid h1
  have R2 := hid h2
  have R3 := hid h3
  have R4 := hid h4
  have Hsc := hid (show comsC ⟨fs, ⟨hs, ds⟩, ts, lg⟩ = if worldOk ⟨fs, ⟨hs, ds⟩, ts, lg⟩ = true then comsTo lg lg.length else [] from rfl)
  generalize comsC ⟨fs, ⟨hs, ds⟩, ts, lg⟩ = SC at *
  generalize worldOk ⟨fs, ⟨hs, ds⟩, ts, lg⟩ = R at *
  clear h0 h1 h2 h3 h4 hb
  obtain ⟨W1, hW1⟩ : ∃ X, w.alloc (.cells #[Value.slice a0 fs.length cap0, Value.slice a1 hs.length cap1, Value.slice a2 ds.length cap2, Value.slice a3 ts.length cap3, Value.slice a4 lg.length cap4] 32) = X := ⟨_, rfl⟩
  have hB1 : Below w.heap.size w W1 := by rw [← hW1]; exact (Below.refl _ _).alloc (Nat.le_refl _) _
  have BW : Hid (Box W1 w.heap.size [Value.slice a0 fs.length cap0, Value.slice a1 hs.length cap1, Value.slice a2 ds.length cap2, Value.slice a3 ts.length cap3, Value.slice a4 lg.length cap4]) := by rw [← hW1]; exact hid (Box.alloc _ _ _)
  have k0 : W1.cell? ⟨w.heap.size, 0, none⟩ = some (Value.slice a0 fs.length cap0) := BW.out.2 0 (by simp)
  have k1 : W1.cell? ⟨w.heap.size, 1, none⟩ = some (Value.slice a1 hs.length cap1) := BW.out.2 1 (by simp)
  have k2 : W1.cell? ⟨w.heap.size, 2, none⟩ = some (Value.slice a2 ds.length cap2) := BW.out.2 2 (by simp)
  have k3 : W1.cell? ⟨w.heap.size, 3, none⟩ = some (Value.slice a3 ts.length cap3) := BW.out.2 3 (by simp)
  have k4 : W1.cell? ⟨w.heap.size, 4, none⟩ = some (Value.slice a4 lg.length cap4) := BW.out.2 4 (by simp)
  have HW1 := hid hW1
  clear hW1
  go_enter Tryz.func19, Tryz.ntmps19
  go_wp2_with fail
  rw [HW1.out]
  refine (Hok.out _ (rdsL.below R0.out hB1) (rdsL.below R1.out hB1) (rdsL.below R2.out hB1) (rdsL.below R3.out hB1) (rdsL.below R4.out hB1)).mono ?_
  rintro e w2 ⟨rfl, b2⟩
  have hB2 := hB1.trans (b2.mono hB1.size)
  have bx2 := BW.out.below b2
  have x4 : w2.cell? ⟨w.heap.size, 4, none⟩ = some (Value.slice a4 lg.length cap4) := bx2.2 4 (by simp)
  have T4 := hid (rdsL.below R4.out hB2)
  clear k0 k1 k2 k3 k4 bx2
  cases R with
  | false =>
    have Hn := hid (show SC = [] by rw [Hsc.out]; simp)
    go_wp2
    go_ret2
    exact ⟨_, rfl, by rw [Hn.out]; exact nilRow12 _ _ _, hB2⟩
  | true =>
    have Hn := hid (show SC = comsTo lg lg.length by rw [Hsc.out]; simp)
    go_wp2_with fail
    refine (impl_commitsOf lg _ _ T4.out hlg).mono ?_
    rintro e w3 ⟨u, rfl, o3, b3⟩
    have hB3 := hB2.trans (b3.mono hB2.size)
    have O3 := hid (owns_mono o3 hB2.size)
    clear o3
    go_wp2
    go_ret2
    exact ⟨_, rfl, by rw [Hn.out]; exact O3.out, hB3⟩
end Go.Proofs.YtbbdchlabdilcaaGreat
/- Chapter 12's program: StateAt. -/
namespace Go.Own
open Go.RowKit
theorem flat_take {N : Nat} {w : World} {a : Option Addr} {n cap sz : Nat} {cs : List Value} (h : FlatB N w (.slice a n cap) n sz cs) (p : Nat) (hp : p ≤ n) : FlatB N w (.slice a p cap) p sz (cs.take (p * sz)) := by
  obtain ⟨hl, a', cap', e, h1, h2, h0, h3⟩ := h
  obtain ⟨rfl, rfl⟩ : a = a' ∧ cap = cap' := by simpa using e
  have hps : p * sz ≤ n * sz := Nat.mul_le_mul_right sz hp
  refine ⟨by rw [List.length_take]; omega, a, cap, rfl, by omega, h2, h0, ?_⟩
  rcases h3 with h3 | ⟨b, off, ha, hs, hc⟩
  · exact .inl (by omega)
  · exact .inr ⟨b, off, ha, hs, fun j hj => by rw [List.length_take] at hj; rw [hc j (by omega), List.getElem_take]⟩
theorem owns_get {w : World} {base e n : Nat} {a : Option Addr} {cap : Nat} {xs : List Int} (h : w.ownsRow base e 1 (.slice a n cap) xs.length (xs.flatMap encI)) (k : Nat) (hk : k < xs.length) : ∃ b off, a = some ⟨b, off, none⟩ ∧ base ≤ b ∧ b < w.heap.size ∧ w.cell? ⟨b, off + k, none⟩ = some (.int .i64 xs[k]) := by
  obtain ⟨a', cap', e1, -, -, hc⟩ := Ints.open (Flat.of_owns h : Ints w _ xs)
  obtain ⟨b, off, ha, hb, hcell⟩ := hc k hk
  obtain rfl : a = a' := by injection e1
  subst ha
  have z := World.ownsRow.lt h b rfl
  exact ⟨b, off, rfl, z.1, hb, hcell⟩
end Go.Own
namespace Go.Proofs.YtbbdchlabdilcaaGreat
set_option maxRecDepth 100000
open Go.RowKit Go.Proofs Go.Own
open Go Go.BigFrame
set_option linter.unusedVariables false
set_option linter.unusedSimpArgs false
theorem rds_take {w : World} {a : Option Addr} {cap : Nat} {lg : List Event} (h : rdsL w (.slice a lg.length cap) lg) (p : Nat) (hp : p ≤ lg.length) : rdsL w (.slice a p cap) (lg.take p) := by
  have z := flat_take (rdsEvents.1 h) p hp
  refine rdsEvents.2 ?_
  show Flat w _ (lg.take p).length 4 ((lg.take p).flatMap Event.enc)
  rw [← take_flatMap Event.enc 4 (fun _ => rfl) lg p, List.length_take, Nat.min_eq_left hp]
  exact z
set_option maxHeartbeats 16000000 in
theorem impl_StateAt0 (d : WorldD) (p : Int) (v0 v1 v2 v3 v4 : Value) (w : World) (h0 : rdsL w v0 d.first_) (h1 : rdsL w v1 d.store_.heads_) (h2 : rdsL w v2 d.store_.descs_) (h3 : rdsL w v3 d.threads_) (h4 : rdsL w v4 d.log_) (hb : WorldB d) :
    Calls Tryz.prog 20 #[.agg #[v0, v1, v2, v3, v4], .int .i64 p] w fun e w' => ∃ u : Value, e = .returned (.tuple #[u, .bool (placeOk12 d p)]) ∧ w'.ownsRow w.heap.size 3 1 u (stateC d p).length ((stateC d p).flatMap encI) ∧ Below w.heap.size w w' := by
  obtain ⟨fs, ⟨hs, ds⟩, ts, lg⟩ := d
  have Hok := hid (fun w r0 r1 r2 r3 r4 => impl_WorldOk0 ⟨fs, ⟨hs, ds⟩, ts, lg⟩ v0 v1 v2 v3 v4 w r0 r1 r2 r3 r4 (storeB_parts (worldB_parts hb).2.1).2.1)
  have hlg : lg.length ≤ 1048576 := by have h := (worldB_parts hb).2.2.2; exact h
  have Hf := hid (fun (hk : worldOk ⟨fs, ⟨hs, ds⟩, ts, lg⟩ = true) => worldOk_first hk)
  have Hev := hid (fun (hk : worldOk ⟨fs, ⟨hs, ds⟩, ts, lg⟩ = true) => worldOk_ev hk)
  have Hen := hid (fun (hk : worldOk ⟨fs, ⟨hs, ds⟩, ts, lg⟩ = true) => worldOk_ents hk)
  dsimp only at h0 h1 h2 h3 h4 Hok Hf Hev Hen ⊢
  obtain ⟨a0, cap0, rfl, hl0, hm0, -⟩ := rdsL_open h0
  obtain ⟨a1, cap1, rfl, hl1, hm1, -⟩ := rdsL_open h1
  obtain ⟨a2, cap2, rfl, hl2, hm2, hc2⟩ := rdsL_open h2
  obtain ⟨a3, cap3, rfl, hl3, hm3, -⟩ := rdsL_open h3
  obtain ⟨a4, cap4, rfl, hl4, hm4, -⟩ := rdsL_open h4
  have HC2 := hid hc2
  have hlf : fs.length ≤ 9223372036854775807 := by omega
  have hlh : hs.length ≤ 9223372036854775807 := by omega
  have hld : ds.length ≤ 9223372036854775807 := by omega
  have hlt_ : ts.length ≤ 9223372036854775807 := by omega
  have hll : lg.length ≤ 9223372036854775807 := by omega
  have R0 := hid h0
  have R1 := hid h1
  have R2 := hid h2
  have R3 := hid h3
  have R4 := hid h4
  have Hp := hid (show placeOk12 ⟨fs, ⟨hs, ds⟩, ts, lg⟩ p = (worldOk ⟨fs, ⟨hs, ds⟩, ts, lg⟩ && inB p 0 lg.length) from rfl)
  have Hsc := hid (show stateC ⟨fs, ⟨hs, ds⟩, ts, lg⟩ p = if placeOk12 ⟨fs, ⟨hs, ds⟩, ts, lg⟩ p = true then stateN fs ds lg p.toNat else [] from rfl)
  generalize placeOk12 ⟨fs, ⟨hs, ds⟩, ts, lg⟩ p = PO at *
  generalize stateC ⟨fs, ⟨hs, ds⟩, ts, lg⟩ p = SC at *
  generalize worldOk ⟨fs, ⟨hs, ds⟩, ts, lg⟩ = R at *
  clear h0 h1 h2 h3 h4 hb hc2
  obtain ⟨W1, hW1⟩ : ∃ X, w.alloc (.cells #[Value.slice a0 fs.length cap0, Value.slice a1 hs.length cap1, Value.slice a2 ds.length cap2, Value.slice a3 ts.length cap3, Value.slice a4 lg.length cap4] 32) = X := ⟨_, rfl⟩
  have hB1 : Below w.heap.size w W1 := by rw [← hW1]; exact (Below.refl _ _).alloc (Nat.le_refl _) _
  have BW : Hid (Box W1 w.heap.size [Value.slice a0 fs.length cap0, Value.slice a1 hs.length cap1, Value.slice a2 ds.length cap2, Value.slice a3 ts.length cap3, Value.slice a4 lg.length cap4]) := by rw [← hW1]; exact hid (Box.alloc _ _ _)
  have k0 : W1.cell? ⟨w.heap.size, 0, none⟩ = some (Value.slice a0 fs.length cap0) := BW.out.2 0 (by simp)
  have k1 : W1.cell? ⟨w.heap.size, 1, none⟩ = some (Value.slice a1 hs.length cap1) := BW.out.2 1 (by simp)
  have k2 : W1.cell? ⟨w.heap.size, 2, none⟩ = some (Value.slice a2 ds.length cap2) := BW.out.2 2 (by simp)
  have k3 : W1.cell? ⟨w.heap.size, 3, none⟩ = some (Value.slice a3 ts.length cap3) := BW.out.2 3 (by simp)
  have k4 : W1.cell? ⟨w.heap.size, 4, none⟩ = some (Value.slice a4 lg.length cap4) := BW.out.2 4 (by simp)
  have HW1 := hid hW1
  clear hW1
  go_enter Tryz.func20, Tryz.ntmps20
  go_wp2_with fail
  rw [HW1.out]
  refine (Hok.out _ (rdsL.below R0.out hB1) (rdsL.below R1.out hB1) (rdsL.below R2.out hB1) (rdsL.below R3.out hB1) (rdsL.below R4.out hB1)).mono ?_
  rintro e w2 ⟨rfl, b2⟩
  have hB2 := hB1.trans (b2.mono hB1.size)
  have HB2 := hid hB2
  have BW2 := hid (BW.out.below b2)
  have x0 : w2.cell? ⟨w.heap.size, 0, none⟩ = some (Value.slice a0 fs.length cap0) := BW2.out.2 0 (by simp)
  have x4 : w2.cell? ⟨w.heap.size, 4, none⟩ = some (Value.slice a4 lg.length cap4) := BW2.out.2 4 (by simp)
  have T0 := hid (rdsL.below R0.out hB2)
  have T4 := hid (rdsL.below R4.out hB2)
  clear k0 k1 k2 k3 k4 BW Hok
  cases R with
  | false =>
    have hp0 : PO = false := by rw [Hp.out]; rfl
    have Hs0 := hid (show SC = [] by rw [Hsc.out, hp0]; simp)
    subst hp0
    go_wp2
    go_ret2
    exact ⟨_, rfl, by rw [Hs0.out]; exact nilRow12 _ _ _, HB2.out⟩
  | true =>
  by_cases hp1 : p < 0
  · have hp0 : PO = false := by rw [Hp.out, inB_no (by omega)]; rfl
    have Hs0 := hid (show SC = [] by rw [Hsc.out, hp0]; simp)
    subst hp0
    go_wp2
    go_ret2
    exact ⟨_, rfl, by rw [Hs0.out]; exact nilRow12 _ _ _, HB2.out⟩
  by_cases hp2 : (lg.length : Int) < p
  · have hp0 : PO = false := by rw [Hp.out, inB_no (by omega)]; rfl
    have Hs0 := hid (show SC = [] by rw [Hsc.out, hp0]; simp)
    subst hp0
    go_wp2
    go_ret2
    exact ⟨_, rfl, by rw [Hs0.out]; exact nilRow12 _ _ _, HB2.out⟩
  have hp0 : PO = true := by rw [Hp.out, inB_yes (by omega)]; rfl
  obtain ⟨q, rfl⟩ := Int.eq_ofNat_of_zero_le (show 0 ≤ p by omega)
  have Hs0 := hid (show SC = stateN fs ds lg q by rw [Hsc.out, hp0, if_pos rfl, Int.toNat_natCast])
  subst hp0
  have hfl1 := (Hf.out rfl).1
  have hfl2 := (Hf.out rfl).2.1
  have HEV := hid (Hev.out rfl)
  have HEN := hid (Hen.out rfl)
  have hql : q ≤ lg.length := by omega
  have hqc : (q : Int) ≤ (cap4 : Int) := by omega
  have hq0 : (0 : Int) ≤ (q : Int) := by omega
  have hqm : (q : Int) ≤ 9223372036854775807 := by omega
  clear Hf Hev Hen Hp Hsc
  go_wp2_with fail
  refine (impl_stateOf fs _ _ (rdsInts.1 T0.out) (by omega)).mono ?_
  rintro e w3 ⟨u3, rfl, o3, b3⟩
  have hB3 := hB2.trans (b3.mono hB2.size)
  have HB3 := hid hB3
  have BW3 := hid (BW2.out.below b3)
  obtain ⟨gv, gc, rfl, hgc1, hgc2, hgv1, hgv2, -, -⟩ := owns_at o3 (by omega)
  have HO3 := hid o3
  have hs2 := hB2.size
  have hs2b := BW2.out.1
  have z4 : w3.cell? ⟨w.heap.size, 4, none⟩ = some (Value.slice a4 lg.length cap4) := BW3.out.2 4 (by simp)
  have T43 := hid (rds_take (rdsL.below T4.out b3) q hql)
  clear o3 x0 x4 T0 T4 BW2
  go_wp2_with fail
  refine (impl_commitsOf (lg.take q) _ _ T43.out (by rw [List.length_take]; omega)).mono ?_
  rintro e w4 ⟨u4, rfl, o4, b4⟩
  have hB4 := hB3.trans (b4.mono hB3.size)
  have HB4 := hid hB4
  have BW4 := hid (BW3.out.below b4)
  have HO4 := hid (owns_below HO3.out b4)
  have hs3 := hB3.size
  have hs4 := b4.size
  rw [comsTo_take lg q hql] at o4
  have HCM := hid (comsTo_mem (p := q) HEV.out)
  have Hfin := hid (done_state fs ds lg q hql)
  have hcl := comsTo_len lg q
  generalize comsTo lg q = cs at *
  obtain ⟨ua, uc, rfl, huc1, huc2⟩ := owns_form o4
  have O4 := hid o4
  clear o4 z4 T43 BW3 HO3
  go_wp2
  go_loopw [32] (fun i wr => ∃ k : Nat, k ≤ cs.length ∧ i = .int .i64 k ∧ Hid (wr.ownsRow w2.heap.size 3 1 (.slice (some ⟨gv, 0, none⟩) fs.length gc) fs.length ((doneTo fs ds cs k).flatMap encI)) ∧ Hid (ChgS (fun b => b = gv) w4 wr)) (fun i _ => cs.length - (intOf i).toNat)
  case atStart => exact ⟨0, by omega, rfl, HO4, hid (ChgS.refl _ _)⟩
  case round =>
    clear HO4
    obtain ⟨k, hk, rfl, HO, HC⟩ := hrel
    have hBr := below_chg HB4.out HC.out HB4.out.size (fun b hb => by omega)
    have HBr := hid hBr
    by_cases hlt : k < cs.length
    · obtain ⟨b4', of4, rfl, hb41, hb42, hcell4⟩ := owns_get O4.out k hlt
      have e9 := (cell_chg HC.out hb42 (show ¬ b4' = gv by omega)).trans hcell4
      have q2 : wr.cell? ⟨w.heap.size, 2, none⟩ = some (Value.slice a2 ds.length cap2) := (cell_chg HC.out BW4.out.1 (show ¬ w.heap.size = gv by omega)).trans (BW4.out.2 2 (by simp))
      have hx := HCM.out cs[k] (List.getElem_mem hlt)
      have Hsucc := hid (doneTo_succ (fs := fs) (ds := ds) hlt)
      have Hlen := hid (doneTo_len fs ds cs k)
      obtain ⟨x, hx9⟩ := Int.eq_ofNat_of_zero_le hx.1
      rw [hx9] at e9 hx Hsucc
      have hxl : x < ds.length := by omega
      have hx0 : (0 : Int) ≤ (x : Int) := by omega
      have hxi : (x : Int) < (ds.length : Int) := by omega
      rw [entsAt_eq hxl] at Hsucc
      obtain ⟨bb, off, cc, rfl, hbs, ⟨v2, rfl, h2⟩, hcell⟩ := HC2.out x hxl
      have c0 : w.cell? ⟨bb, off + x * 3, none⟩ = some (.int .i64 ds[x].owner_) := hcell 0 (show 0 < 3 by omega)
      have c1 : w.cell? ⟨bb, off + x * 3 + 1, none⟩ = some (.int .i64 ds[x].status_) := hcell 1 (show 1 < 3 by omega)
      have c2 : w.cell? ⟨bb, off + x * 3 + 2, none⟩ = some v2 := hcell 2 (show 2 < 3 by omega)
      have e0 := (hBr.cell (p := ⟨bb, off + x * 3, none⟩) hbs).trans c0
      have e1 := (hBr.cell (p := ⟨bb, off + x * 3 + 1, none⟩) hbs).trans c1
      have e2 := (hBr.cell (p := ⟨bb, off + x * 3 + 2, none⟩) hbs).trans c2
      have HENk := hid (HEN.out x hxl)
      have HR2 := hid h2
      obtain ⟨ub, uc2, rfl, -, -, -⟩ := rdsL_open h2
      clear c0 c1 c2 hcell HC2 h2 hx hx9 hcell4
      generalize ds[x].entries_ = es at *
      generalize ds[x].owner_ = ow at *
      generalize ds[x].status_ = st at *
      generalize doneTo fs ds cs k = X at *
      go_wp2_with fail
      refine (impl_do0 X ow st es fs.length Hlen.out w2.heap.size gv gc _ w _ HBr.out (by omega) HR2.out HO.out (fun i hi => HENk.out i hi) (by omega)).mono ?_
      rintro e w6 ⟨rfl, o6, C6⟩
      have HO6 := hid (show w6.ownsRow w2.heap.size 3 1 (.slice (some ⟨gv, 0, none⟩) fs.length gc) fs.length ((doneTo fs ds cs (k+1)).flatMap encI) by rw [Hsucc.out]; exact o6)
      have HC6 := hid (HC.out.trans C6)
      clear o6 C6 Hsucc HO HC e0 e1 e2 e9 q2
      go_wp2
      go_roundw
      case rel => exact ⟨k+1, by omega, by go_num, HO6, HC6⟩
      case measure => simp [intOf]; omega
    · obtain rfl : k = cs.length := by omega
      have Hl := hid (show SC.length = fs.length by rw [Hs0.out, stateN_len])
      go_wp2
      go_ret2
      exact ⟨_, rfl, by rw [Hl.out, Hs0.out, ← Hfin.out]; exact owns_mono HO.out hs2, HBr.out⟩
end Go.Proofs.YtbbdchlabdilcaaGreat
/- Chapter 12: StateAt's contracts as the law's walk takes them. -/
namespace Go.Proofs.YtbbdchlabdilcaaGreat
set_option maxRecDepth 100000
open Go.RowKit Go.Proofs Go.Own
set_option linter.unusedVariables false
theorem StateAt_B {d : WorldD} {p : Int} (hb : WorldB d) : IntSB (stateC d p) := by
  have h := (worldB_parts hb).1
  unfold stateC IntSB
  split
  · rw [stateN_len]; exact h
  · simp
theorem spec_StateAtW (d : WorldD) (v0 v1 v2 v3 v4 : Value) (p : Int) (w : World) (r0 : rdsL w v0 d.first_) (r1 : rdsL w v1 d.store_.heads_) (r2 : rdsL w v2 d.store_.descs_) (r3 : rdsL w v3 d.threads_) (r4 : rdsL w v4 d.log_) (hb : WorldB d) :
    Calls Tryz.prog 54 #[.agg #[v0, v1, v2, v3, v4], .int .i64 p] w fun e w' => ∃ u : Value, e = .returned (.tuple #[u, .bool (placeOk12 d p)]) ∧ rdsL w' u (stateC d p) ∧ Below w.heap.size w w' :=
  (spec_StateAt0 d p v0 v1 v2 v3 v4 w r0 r1 r2 r3 r4 hb).mono fun _ _ ⟨u, he, ho, b⟩ => ⟨u, he, rdsInts.2 (Flat.of_owns ho), b⟩
theorem impl_StateAtW (d : WorldD) (v0 v1 v2 v3 v4 : Value) (p : Int) (w : World) (r0 : rdsL w v0 d.first_) (r1 : rdsL w v1 d.store_.heads_) (r2 : rdsL w v2 d.store_.descs_) (r3 : rdsL w v3 d.threads_) (r4 : rdsL w v4 d.log_) (hb : WorldB d) :
    Calls Tryz.prog 20 #[.agg #[v0, v1, v2, v3, v4], .int .i64 p] w fun e w' => ∃ u : Value, ∃ S : Nat → Prop, e = .returned (.tuple #[u, .bool (placeOk12 d p)]) ∧ ownL S w' u (stateC d p) ∧ (∀ k, S k → Rg w.heap.size w'.heap.size k) ∧ IntSB (stateC d p) ∧ Below w.heap.size w w' :=
  (impl_StateAt0 d p v0 v1 v2 v3 v4 w r0 r1 r2 r3 r4 hb).mono fun _ _ ⟨u, he, ho, b⟩ => ⟨u, _, he, ownI_of ho, fun _ h => h, StateAt_B hb, b⟩
end Go.Proofs.YtbbdchlabdilcaaGreat
