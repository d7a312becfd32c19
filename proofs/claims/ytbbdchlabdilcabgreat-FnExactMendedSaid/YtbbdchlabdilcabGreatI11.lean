/- Chapter 11: what the program's predicates on worlds answer. (printed by tools/mk_i11.py) -/
import Derived.Test.YtbbdchlabdilcabGreatS11
import Derived.Test.YtbbdchlabdilcabGreatI10
namespace Go.Proofs.YtbbdchlabdilcabGreat
set_option maxRecDepth 100000
open Go.RowKit Go.Proofs Go.Own
open Go Go.BigFrame
set_option linter.unusedVariables false
set_option linter.unusedSimpArgs false
theorem isIn_inB (n : Nat) (o : Int) : isIn n o = inB o 0 ((n : Int) - 1) := by
  unfold isIn inB
  by_cases h0 : 0 ≤ o
  · by_cases h1 : o < (n : Int)
    · simp [h0, h1]; omega
    · simp [h0, h1]; omega
  · simp [h0]
theorem impl_hasThread (v0 v1 v2 v4 : Value) (a3 : Option Addr) (n c3 : Nat) (x : Int) (w : World) (hn : n ≤ 9223372036854775807) :
    Calls Tryz.prog 87 #[.agg #[v0, v1, v2, .slice a3 n c3, v4], .int .i64 x] w fun e w' => e = .returned (.bool (isIn n x)) ∧ Below w.heap.size w w' := by
  have hB := hid (show Below w.heap.size w (w.alloc (.cells #[v0, v1, v2, .slice a3 n c3, v4] 41)) from (Below.refl _ _).alloc (Nat.le_refl _) _)
  by_cases h0 : 0 ≤ x
  · by_cases h1 : x < (n : Int)
    · have he := hid (show isIn n x = true by unfold isIn; rw [decide_eq_true h0, decide_eq_true h1]; rfl)
      go_enter Tryz.func87, Tryz.ntmps87
      go_wp2
      go_ret
      exact ⟨ret_bool he.out.symm, hB.out⟩
    · have he := hid (show isIn n x = false by unfold isIn; rw [decide_eq_false h1]; simp)
      go_enter Tryz.func87, Tryz.ntmps87
      go_wp2
      go_ret
      exact ⟨ret_bool he.out.symm, hB.out⟩
  · have he := hid (show isIn n x = false by unfold isIn; rw [decide_eq_false h0]; rfl)
    go_enter Tryz.func87, Tryz.ntmps87
    go_wp2
    go_ret
    exact ⟨ret_bool he.out.symm, hB.out⟩
theorem evOk_cases (n m k : Nat) (e : Event) : evOk n m k e = ((decide (1 ≤ e.kind_) && decide (e.kind_ ≤ 6) && isIn k e.thread_) && (if e.kind_ = 1 then (isIn n e.object_ && isVal e.value_) else if e.kind_ = 3 then isIn m e.object_ else true)) := by
  unfold evOk
  rw [isIn_inB, isIn_inB, isIn_inB]
  by_cases h1 : e.kind_ = 1
  · rw [if_pos h1, h1]; simp [inB]
  · by_cases h3 : e.kind_ = 3
    · rw [if_neg h1, if_pos h3, h3]; simp [inB]
    · rw [if_neg h1, if_neg h3]
      have z1 : (e.kind_ == 1) = false := by simpa using h1
      have z3 : (e.kind_ == 3) = false := by simpa using h3
      rw [z1, z3]; simp [inB]
set_option maxHeartbeats 8000000 in
theorem impl_eventOk (v0 v4 : Value) (a1 a2 a3 : Option Addr) (n c1 m c2 k c3 : Nat) (kd th ob va : Int) (w : World) (hn : n ≤ 9223372036854775807) (hm : m ≤ 9223372036854775807) (hk : k ≤ 9223372036854775807) :
    Calls Tryz.prog 88 #[.agg #[v0, .slice a1 n c1, .slice a2 m c2, .slice a3 k c3, v4], .agg #[.int .i64 kd, .int .i64 th, .int .i64 ob, .int .i64 va]] w fun e w' => e = .returned (.bool (evOk n m k ⟨kd, th, ob, va⟩)) ∧ Below w.heap.size w w' := by
  obtain ⟨W1, hW1⟩ : ∃ X, (w.alloc (.cells #[v0, .slice a1 n c1, .slice a2 m c2, .slice a3 k c3, v4] 41)).alloc (.cells #[.int .i64 kd, .int .i64 th, .int .i64 ob, .int .i64 va] 96) = X := ⟨_, rfl⟩
  have hB1 : Below w.heap.size w W1 := by rw [← hW1]; exact ((Below.refl _ _).alloc (Nat.le_refl _) _).alloc (by simp) _
  have bw : Box W1 w.heap.size [v0, .slice a1 n c1, .slice a2 m c2, .slice a3 k c3, v4] := by
    rw [← hW1]; exact (Box.alloc w #[v0, .slice a1 n c1, .slice a2 m c2, .slice a3 k c3, v4] 41).below ((Below.refl _ _).alloc (Nat.le_refl _) _)
  have be : Box W1 (w.heap.size + 1) [.int .i64 kd, .int .i64 th, .int .i64 ob, .int .i64 va] := by
    rw [← hW1]
    have h9 := Box.alloc (w.alloc (.cells #[v0, .slice a1 n c1, .slice a2 m c2, .slice a3 k c3, v4] 41)) #[.int .i64 kd, .int .i64 th, .int .i64 ob, .int .i64 va] 96
    rw [show (w.alloc (.cells #[v0, .slice a1 n c1, .slice a2 m c2, .slice a3 k c3, v4] 41)).heap.size = w.heap.size + 1 by simp] at h9
    exact h9
  have hu := hid (evOk_cases n m k ⟨kd, th, ob, va⟩)
  dsimp only at hu
  have HB := hid hB1
  have HW := hid hW1
  have Hbw := hid bw
  have Hbe := hid be

  have xw0 : W1.cell? ⟨w.heap.size, 0, none⟩ = some (v0) := bw.2 0 (by simp)
  have xw1 : W1.cell? ⟨w.heap.size, 1, none⟩ = some (.slice a1 n c1) := bw.2 1 (by simp)
  have xw2 : W1.cell? ⟨w.heap.size, 2, none⟩ = some (.slice a2 m c2) := bw.2 2 (by simp)
  have xw3 : W1.cell? ⟨w.heap.size, 3, none⟩ = some (.slice a3 k c3) := bw.2 3 (by simp)
  have xw4 : W1.cell? ⟨w.heap.size, 4, none⟩ = some (v4) := bw.2 4 (by simp)
  have xe0 : W1.cell? ⟨w.heap.size + 1, 0, none⟩ = some (.int .i64 kd) := be.2 0 (by simp)
  have xe1 : W1.cell? ⟨w.heap.size + 1, 1, none⟩ = some (.int .i64 th) := be.2 1 (by simp)
  have xe2 : W1.cell? ⟨w.heap.size + 1, 2, none⟩ = some (.int .i64 ob) := be.2 2 (by simp)
  have xe3 : W1.cell? ⟨w.heap.size + 1, 3, none⟩ = some (.int .i64 va) := be.2 3 (by simp)
  clear bw be hB1 hW1
  go_enter Tryz.func88, Tryz.ntmps88
  by_cases h1 : kd < 1
  · have Hn := hid (decide_eq_false (show ¬ (1 ≤ kd) by omega))
    go_wp2
    rw [HW.out]
    (go_ret; exact ⟨ret_bool (by rw [hu.out, Hn.out]; rfl), HB.out⟩)
  by_cases h6 : 6 < kd
  · have Hn := hid (decide_eq_false (show ¬ (kd ≤ 6) by omega))
    go_wp2
    rw [HW.out]
    go_ret
    exact ⟨ret_bool (by rw [hu.out, Hn.out]; simp), HB.out⟩
  have hu2 := hid (show evOk n m k ⟨kd, th, ob, va⟩ = (isIn k th && (if kd = 1 then (isIn n ob && isVal va) else if kd = 3 then isIn m ob else true)) by rw [hu.out, decide_eq_true (show 1 ≤ kd by omega), decide_eq_true (show kd ≤ 6 by omega)]; rfl)
  go_wp2_with fail
  rw [HW.out]
  refine (impl_hasThread v0 (.slice a1 n c1) (.slice a2 m c2) v4 a3 k c3 th _ hk).mono ?_
  rintro e w2 ⟨rfl, b2⟩
  have HB2 := hid (HB.out.trans (b2.mono HB.out.size))
  have bw2 := Hbw.out.below b2
  have be2 := Hbe.out.below b2
  clear xw0 xw1 xw2 xw3 xw4 xe0 xe1 xe2 xe3
  have yw0 : w2.cell? ⟨w.heap.size, 0, none⟩ = some (v0) := bw2.2 0 (by simp)
  have yw1 : w2.cell? ⟨w.heap.size, 1, none⟩ = some (.slice a1 n c1) := bw2.2 1 (by simp)
  have yw2 : w2.cell? ⟨w.heap.size, 2, none⟩ = some (.slice a2 m c2) := bw2.2 2 (by simp)
  have yw3 : w2.cell? ⟨w.heap.size, 3, none⟩ = some (.slice a3 k c3) := bw2.2 3 (by simp)
  have yw4 : w2.cell? ⟨w.heap.size, 4, none⟩ = some (v4) := bw2.2 4 (by simp)
  have ye0 : w2.cell? ⟨w.heap.size + 1, 0, none⟩ = some (.int .i64 kd) := be2.2 0 (by simp)
  have ye1 : w2.cell? ⟨w.heap.size + 1, 1, none⟩ = some (.int .i64 th) := be2.2 1 (by simp)
  have ye2 : w2.cell? ⟨w.heap.size + 1, 2, none⟩ = some (.int .i64 ob) := be2.2 2 (by simp)
  have ye3 : w2.cell? ⟨w.heap.size + 1, 3, none⟩ = some (.int .i64 va) := be2.2 3 (by simp)
  clear bw2 be2
  cases g1 : isIn k th with
  | false =>
    go_wp2
    go_ret
    exact ⟨ret_bool (by rw [hu2.out, g1]; rfl), HB2.out⟩
  | true =>
  have hu3 := hid (show evOk n m k ⟨kd, th, ob, va⟩ = (if kd = 1 then (isIn n ob && isVal va) else if kd = 3 then isIn m ob else true) by rw [hu2.out, g1]; rfl)
  by_cases k1 : kd = 1
  · subst k1
    go_wp2_with fail
    refine (impl_isObject a1 n c1 a2 m c2 ob _ hn).mono ?_
    rintro e w3 ⟨rfl, b3⟩
    have HB3 := hid (HB2.out.trans (b3.mono HB2.out.size))
    have be3 := (Hbe.out.below b2).below b3
    have z3 : w3.cell? ⟨w.heap.size + 1, 3, none⟩ = some (.int .i64 va) := be3.2 3 (by simp)
    cases g2 : isIn n ob with
    | false =>
      go_wp2
      go_ret
      exact ⟨ret_bool (by rw [hu3.out, g2]; simp), HB3.out⟩
    | true =>
    go_wp2_with ((go_at_call 83; refine (impl_isValue _ _).mono ?_; rintro e w' ⟨rfl, rfl⟩))
    go_ret
    exact ⟨ret_bool (by rw [hu3.out]; simp [g2]), HB3.out⟩
  by_cases k3 : kd = 3
  · subst k3
    go_wp2_with fail
    refine (impl_isDesc a1 n c1 a2 m c2 ob _ hm).mono ?_
    rintro e w3 ⟨rfl, b3⟩
    have HB3 := hid (HB2.out.trans (b3.mono HB2.out.size))
    go_wp2
    go_ret
    exact ⟨ret_bool (by rw [hu3.out]; simp), HB3.out⟩
  have Hr := hid (show evOk n m k ⟨kd, th, ob, va⟩ = true by rw [hu3.out, if_neg k1, if_neg k3])
  go_wp2
  go_ret
  exact ⟨ret_bool Hr.out.symm, HB2.out⟩
set_option maxHeartbeats 16000000 in
theorem impl_logOk0 (d : WorldD) (v0 v1 v2 v3 v4 : Value) (w : World) (h0 : rdsL w v0 d.first_) (h1 : rdsL w v1 d.store_.heads_) (h2 : rdsL w v2 d.store_.descs_) (h3 : rdsL w v3 d.threads_) (h4 : rdsL w v4 d.log_) (hd0 : d.store_.descs_.length ≤ 1048576) :
    Calls Tryz.prog 49 #[.agg #[v0, v1, v2, v3, v4]] w fun e w' => e = .returned (.bool (logOk d.log_ d.store_.descs_ d.store_.heads_.length d.threads_.length)) ∧ Below w.heap.size w w' := by
  obtain ⟨fs, ⟨hs, ds⟩, ts, lg⟩ := d
  dsimp only at h0 h1 h2 h3 h4 hd0 ⊢
  obtain ⟨a0, cap0, rfl, hl0, hm0, -⟩ := rdsL_open h0
  obtain ⟨a1, cap1, rfl, hl1, hm1, -⟩ := rdsL_open h1
  obtain ⟨a2, cap2, rfl, hl2, hm2, hc2⟩ := rdsL_open h2
  obtain ⟨a3, cap3, rfl, hl3, hm3, hc3⟩ := rdsL_open h3
  obtain ⟨a4, cap4, rfl, hl4, hm4, hc4⟩ := rdsL_open h4
  have HC2 := hid hc2
  have HC3 := hid hc3
  have HC4 := hid hc4
  have hlf : fs.length ≤ 9223372036854775807 := by omega
  have hlh : hs.length ≤ 9223372036854775807 := by omega
  have hld : ds.length ≤ 9223372036854775807 := by omega
  have hlt_ : ts.length ≤ 9223372036854775807 := by omega
  have hll : lg.length ≤ 9223372036854775807 := by omega
  obtain ⟨W1, hW1⟩ : ∃ X, w.alloc (.cells #[Value.slice a0 fs.length cap0, Value.slice a1 hs.length cap1, Value.slice a2 ds.length cap2, Value.slice a3 ts.length cap3, Value.slice a4 lg.length cap4] 41) = X := ⟨_, rfl⟩
  have hB1 : Below w.heap.size w W1 := by rw [← hW1]; exact (Below.refl _ _).alloc (Nat.le_refl _) _
  have bw : Box W1 w.heap.size [Value.slice a0 fs.length cap0, Value.slice a1 hs.length cap1, Value.slice a2 ds.length cap2, Value.slice a3 ts.length cap3, Value.slice a4 lg.length cap4] := by rw [← hW1]; exact Box.alloc _ _ _
  have hN := bw.1
  have Hu := hid (show logOk lg ds hs.length ts.length = (lg.all (evOk hs.length ds.length ts.length) && (List.range ds.length).all (cntAt lg ds) && decide ((lg.length : Int) ≤ 3000)) from rfl)
  generalize hres : logOk lg ds hs.length ts.length = R at *
  have BW := hid bw
  have k3 : W1.cell? ⟨w.heap.size, 3, none⟩ = some (Value.slice a3 ts.length cap3) := bw.2 3 (by simp)
  have k4 : W1.cell? ⟨w.heap.size, 4, none⟩ = some (Value.slice a4 lg.length cap4) := bw.2 4 (by simp)
  have k2 : W1.cell? ⟨w.heap.size, 2, none⟩ = some (Value.slice a2 ds.length cap2) := bw.2 2 (by simp)
  have HW1 := hid hW1
  obtain ⟨i0, hi, hz0, hz1, hz2⟩ := info_parts infoInt11
  clear bw hres h0 h1 h2 h3 h4 hc2 hc3 hc4 hW1
  by_cases h9 : (3000 : Int) < lg.length
  · have Hn := hid (decide_eq_false (show ¬ ((lg.length : Int) ≤ 3000) by omega))
    have HB := hid hB1
    go_enter Tryz.func49, Tryz.ntmps49
    go_wp2
    rw [HW1.out]
    go_wp2
    go_ret
    exact ⟨ret_bool (by rw [Hu.out, Hn.out]; simp), HB.out⟩
  have h9b : (lg.length : Int) ≤ 3000 := by omega
  have Hu := hid (show R = (lg.all (evOk hs.length ds.length ts.length) && (List.range ds.length).all (cntAt lg ds)) by rw [Hu.out, decide_eq_true h9b]; simp)
  have W1e : w.alloc (.cells #[Value.slice a0 fs.length cap0, Value.slice a1 hs.length cap1, Value.slice a2 ds.length cap2, Value.slice a3 ts.length cap3, Value.slice a4 lg.length cap4] 41) = W1 := HW1.out
  go_enter Tryz.func49, Tryz.ntmps49
  go_wp2_with (at_make; refine wpList_make_full _ rfl _ _ 22 rfl (W1.heap.size) 3 i0 (.int .i64 0) 1 Tryz.underlying22 hi hz0 hz1 _ _ _ _ ds.length rfl rfl rfl rfl (by rw [hz2]; omega) (by unfold maxLen; omega) (Nat.le_refl _) ?_)
  intro w1 hown hgrow
  have hB := (Below.refl W1.heap.size W1).grown hgrow (Nat.le_refl _) (by simp)
  have hO : w1.ownsRow W1.heap.size 3 1 (.slice (some ⟨W1.heap.size, 0, none⟩) ds.length ds.length) ds.length ((cntRow lg 0 ds.length).flatMap encI) := by
    rw [cntRow_zero, encI_map, List.map_replicate]; have z := hown; rw [toList_madeCells_one] at z; exact z
  have k4w := (hB.cell (p := ⟨w.heap.size, 4, none⟩) hN).trans k4
  clear hown hgrow W1e k2 k3 k4
  go_wp2
  go_loopw [21] (fun i wr => ∃ j : Nat, j ≤ lg.length ∧ i = .int .i64 j ∧ Same ((lg.drop j).all (evOk hs.length ds.length ts.length)) (lg.all (evOk hs.length ds.length ts.length)) ∧ Hid (wr.ownsRow W1.heap.size 3 1 (.slice (some ⟨W1.heap.size, 0, none⟩) ds.length ds.length) ds.length ((cntRow lg j ds.length).flatMap encI)) ∧ Below W1.heap.size W1 wr) (fun i _ => lg.length - (intOf i).toNat)
  case atStart => exact ⟨0, by omega, rfl, .rfl, hid hO, hB⟩
  case round =>
    clear hO hB k4w
    obtain ⟨j, hj, rfl, hS, HO, hB⟩ := hrel
    have hBr : Below w.heap.size w wr := hB1.trans (hB.mono hB1.size)
    have hNr : w.heap.size < wr.heap.size := Nat.lt_of_lt_of_le hN hB.size
    have bwr := BW.out.below (hB : Below W1.heap.size W1 wr)
    by_cases hlt : j < lg.length
    · obtain ⟨bb, off, cs, rfl, hbs, hel, hcell⟩ := HC4.out j hlt
      have hel : cs = Event.enc lg[j] := hel
      subst hel
      have hst := hid (all_step (evOk hs.length ds.length ts.length) lg j hlt)
      have hsame := hid (fun hk => cntRow_same lg j ds.length hlt hk)
      have hset := hid (fun o hk ho => cntRow_set lg j ds.length o hlt hk ho)
      obtain ⟨D, hD⟩ : ∃ D, lg[j] = D := ⟨_, rfl⟩
      have c0 : w.cell? ⟨bb, off + j * 4, none⟩ = some (.int .i64 lg[j].kind_) := hcell 0 (show 0 < 4 by omega)
      have c1 : w.cell? ⟨bb, off + j * 4 + 1, none⟩ = some (.int .i64 lg[j].thread_) := hcell 1 (show 1 < 4 by omega)
      have c2 : w.cell? ⟨bb, off + j * 4 + 2, none⟩ = some (.int .i64 lg[j].object_) := hcell 2 (show 2 < 4 by omega)
      have c3 : w.cell? ⟨bb, off + j * 4 + 3, none⟩ = some (.int .i64 lg[j].value_) := hcell 3 (show 3 < 4 by omega)
      have e0 := (hBr.cell (p := ⟨bb, off + j * 4, none⟩) hbs).trans c0
      have e1 := (hBr.cell (p := ⟨bb, off + j * 4 + 1, none⟩) hbs).trans c1
      have e2 := (hBr.cell (p := ⟨bb, off + j * 4 + 2, none⟩) hbs).trans c2
      have e3 := (hBr.cell (p := ⟨bb, off + j * 4 + 3, none⟩) hbs).trans c3
      rw [hD] at e0 e1 e2 e3 hst hsame hset
      clear c0 c1 c2 c3 hcell HC4 hD
      obtain ⟨kd, th, ob, va⟩ := D
      dsimp only at e0 e1 e2 e3 hsame hset
      obtain ⟨V, hV⟩ : ∃ X, wr.alloc (.cells #[.int .i64 kd, .int .i64 th, .int .i64 ob, .int .i64 va] 96) = X := ⟨_, rfl⟩
      have hBV : Below wr.heap.size wr V := by rw [← hV]; exact (Below.refl _ _).alloc (Nat.le_refl _) _
      have bv : Box V wr.heap.size [.int .i64 kd, .int .i64 th, .int .i64 ob, .int .i64 va] := by rw [← hV]; exact Box.alloc _ _ _
      have bwv := bwr.below hBV
      have y0 : V.cell? ⟨wr.heap.size, 0, none⟩ = some (.int .i64 kd) := bv.2 0 (by simp)
      have y1 : V.cell? ⟨wr.heap.size, 1, none⟩ = some (.int .i64 th) := bv.2 1 (by simp)
      have y2 : V.cell? ⟨wr.heap.size, 2, none⟩ = some (.int .i64 ob) := bv.2 2 (by simp)
      have y3 : V.cell? ⟨wr.heap.size, 3, none⟩ = some (.int .i64 va) := bv.2 3 (by simp)
      have z0 : V.cell? ⟨w.heap.size, 0, none⟩ = some (Value.slice a0 fs.length cap0) := bwv.2 0 (by simp)
      have z1 : V.cell? ⟨w.heap.size, 1, none⟩ = some (Value.slice a1 hs.length cap1) := bwv.2 1 (by simp)
      have z2 : V.cell? ⟨w.heap.size, 2, none⟩ = some (Value.slice a2 ds.length cap2) := bwv.2 2 (by simp)
      have z3 : V.cell? ⟨w.heap.size, 3, none⟩ = some (Value.slice a3 ts.length cap3) := bwv.2 3 (by simp)
      have z4 : V.cell? ⟨w.heap.size, 4, none⟩ = some (Value.slice (some ⟨bb, off, none⟩) lg.length cap4) := bwv.2 4 (by simp)
      have HBV := hid (hBr.trans (hBV.mono hBr.size))
      have HB2 := hid (hB.trans (hBV.mono hB.size))
      have HOV := hid (owns_below HO.out hBV)
      have Hbv := hid bv
      have HV := hid hV
      clear bv bwv HO
      have hu := hid (show R = (((lg.drop j).all (evOk hs.length ds.length ts.length)) && (List.range ds.length).all (cntAt lg ds)) by rw [hS.out]; exact Hu.out)
      go_wp2_with fail
      clear hV
      refine (impl_eventOk _ _ a1 a2 a3 hs.length cap1 ds.length cap2 ts.length cap3 kd th ob va _ hlh hld hlt_).mono ?_
      rintro e w5 ⟨rfl, b5⟩
      have HB5 := hid (HBV.out.trans (b5.mono HBV.out.size))
      have HB6 := hid (HB2.out.trans (b5.mono HB2.out.size))
      have HO5 := hid (owns_below HOV.out b5)
      have bv5 := Hbv.out.below b5
      have s0 : w5.cell? ⟨wr.heap.size, 0, none⟩ = some (.int .i64 kd) := bv5.2 0 (by simp)
      have s2 : w5.cell? ⟨wr.heap.size, 2, none⟩ = some (.int .i64 ob) := bv5.2 2 (by simp)
      clear y0 y1 y2 y3 z0 z1 z2 z3 z4 e0 e1 e2 e3 HOV bv5 Hbv HV
      cases g1 : evOk hs.length ds.length ts.length ⟨kd, th, ob, va⟩ with
      | false =>
        have Hn := hid (show (lg.drop j).all (evOk hs.length ds.length ts.length) = false by rw [hst.out, g1]; rfl)
        go_wp2
        go_ret
        exact ⟨ret_bool (by rw [hu.out, Hn.out]; rfl), HB5.out⟩
      | true =>
      have Hn := hid (show Same ((lg.drop (j+1)).all (evOk hs.length ds.length ts.length)) (lg.all (evOk hs.length ds.length ts.length)) from .mk (by rw [← hS.out, hst.out, g1]; rfl))
      by_cases k3 : kd = 3
      · subst k3
        have g5 : isIn ds.length ob = true := by
          have z := g1
          rw [evOk_cases] at z
          dsimp only at z
          rw [if_neg (by omega), if_pos rfl, Bool.and_eq_true] at z
          exact z.2
        rw [isIn_inB] at g5
        have ho : 0 ≤ ob ∧ ob ≤ (ds.length : Int) - 1 := by simpa [inB] using g5
        obtain ⟨o, rfl⟩ := Int.eq_ofNat_of_zero_le ho.1
        have hom : o < ds.length := by omega
        have Hnr := hid (hset.out o rfl rfl)
        have r0 : w5.cell? ⟨W1.heap.size, o, none⟩ = some (.int .i64 (cntEv (lg.take j) o)) := by
          rw [HO5.out.cellAt o (by omega), encI_get _ o (by rw [cntRow_len]; exact hom), cntRow_get _ _ _ _ hom]
        have r1 : w5.frozen? ⟨W1.heap.size, o, none⟩ = false := HO5.out.frozenAt o
        have hcl : cntEv (lg.take j) o ≤ 1048576 := by have := cntEv_le (lg.take j) o; rw [List.length_take] at this; omega
        generalize cntEv (lg.take j) o = c at *
        have hc1 : (c : Int) + 1 ≤ 1048577 := by omega
        obtain ⟨V2, hV2⟩ : ∃ X, w5.setCell ⟨W1.heap.size, o, none⟩ (.int .i64 ((c : Int) + 1)) = X := ⟨_, rfl⟩
        have HOV2 := hid (show V2.ownsRow W1.heap.size 3 1 (.slice (some ⟨W1.heap.size, 0, none⟩) ds.length ds.length) ds.length ((cntRow lg (j+1) ds.length).flatMap encI) by
          have z := owns_put HO5.out o (.int .i64 ((c : Int) + 1))
          rw [encI_set, Hnr.out, hV2] at z; exact z)
        have HB3 := hid (show Below W1.heap.size W1 V2 by rw [← hV2]; exact HB6.out.setCell (Nat.le_refl _) _)
        have HV2 := hid hV2
        clear hst hu hS hset hsame HO5 hV2 g1
        go_wp2
        rw [HV2.out]
        go_roundw
        case rel => exact ⟨j+1, by omega, by go_num, Hn.out, HOV2, HB3.out⟩
        case measure => simp [intOf]; omega
      have k3' : (kd == 3) = false := by simpa using k3
      have Hnr := hid (hsame.out k3')
      clear hst hu hS hset hsame g1
      go_wp2
      go_roundw
      case rel => exact ⟨j+1, by omega, by go_num, Hn.out, hid (by rw [Hnr.out]; exact HO5.out), HB6.out⟩
      case measure => simp [intOf]; omega
    · obtain rfl : j = lg.length := by omega
      have hall := hid (show R = (List.range ds.length).all (cntAt lg ds) by rw [Hu.out, ← hS.out, List.drop_length]; rfl)
      have HO2 := hid (show wr.ownsRow W1.heap.size 3 1 (.slice (some ⟨W1.heap.size, 0, none⟩) ds.length ds.length) ds.length ((cntRow lg lg.length ds.length).flatMap encI) from HO.out)
      have q2 : wr.cell? ⟨w.heap.size, 2, none⟩ = some (Value.slice a2 ds.length cap2) := bwr.2 2 (by simp)
      have N1r := hB.size
      clear hS Hu HO HC4 bwr
      go_wp2
      clear q2
      obtain ⟨wo, rfl⟩ : ∃ X, X = wr := ⟨_, rfl⟩
      go_loopw [44] (fun i wr => ∃ k : Nat, k ≤ ds.length ∧ i = .int .i64 k ∧ Same (((List.range ds.length).drop k).all (cntAt lg ds)) ((List.range ds.length).all (cntAt lg ds)) ∧ Below wo.heap.size wo wr) (fun i _ => ds.length - (intOf i).toNat)
      case atStart => exact ⟨0, by omega, rfl, .rfl, Below.refl _ _⟩
      case round =>
        obtain ⟨k, hk, rfl, hS, hB9⟩ := hrel
        have hB0 := hBr.trans (hB9.mono hBr.size)
        by_cases hlk : k < ds.length
        · have hst := hid (all_step (cntAt lg ds) (List.range ds.length) k (by rw [List.length_range]; exact hlk))
          rw [List.getElem_range, cntAt_of lg ds k hlk] at hst
          obtain ⟨b2, of2, cs2, rfl, hbs2, ⟨u2, rfl, z2⟩, hcell2⟩ := HC2.out k hlk
          have c0 : w.cell? ⟨b2, of2 + k * 3, none⟩ = some (.int .i64 ds[k].owner_) := hcell2 0 (show 0 < 3 by omega)
          have c1 : w.cell? ⟨b2, of2 + k * 3 + 1, none⟩ = some (.int .i64 ds[k].status_) := hcell2 1 (show 1 < 3 by omega)
          have c2 : w.cell? ⟨b2, of2 + k * 3 + 2, none⟩ = some u2 := hcell2 2 (show 2 < 3 by omega)
          have e0 := (hB0.cell (p := ⟨b2, of2 + k * 3, none⟩) hbs2).trans c0
          have e1 := (hB0.cell (p := ⟨b2, of2 + k * 3 + 1, none⟩) hbs2).trans c1
          have e2 := (hB0.cell (p := ⟨b2, of2 + k * 3 + 2, none⟩) hbs2).trans c2
          have hu := hid (show R = (((List.range ds.length).drop k).all (cntAt lg ds)) by rw [hall.out, hS.out])
          have hrow := owns_below HO2.out hB9
          have hgl : W1.heap.size < wo.heap.size := by
            have z := World.ownsRow.lt HO2.out _ rfl
            exact z.2
          have hOc : wr.cell? ⟨W1.heap.size, k, none⟩ = some (.int .i64 (cntEv lg k)) := by
            rw [hrow.cellAt k (by omega), encI_get _ k (by rw [cntRow_len]; exact hlk), cntRow_get _ _ _ _ hlk, List.take_length]
          generalize ds[k].status_ = s at *
          generalize ds[k].owner_ = ow at *
          generalize cntEv lg k = c at *
          obtain ⟨x2, hx2⟩ : ∃ Y, u2 = Y := ⟨_, rfl⟩
          obtain ⟨V, hV⟩ : ∃ X, wr.alloc (.cells #[.int .i64 ow, .int .i64 s, u2] 85) = X := ⟨_, rfl⟩
          have hBV : Below wr.heap.size wr V := by rw [← hV]; exact (Below.refl _ _).alloc (Nat.le_refl _) _
          have bv : Box V wr.heap.size [.int .i64 ow, .int .i64 s, u2] := by rw [← hV]; exact Box.alloc _ _ _
          have y1 : V.cell? ⟨wr.heap.size, 1, none⟩ = some (.int .i64 s) := bv.2 1 (by simp)
          have r0 : V.cell? ⟨W1.heap.size, k, none⟩ = some (.int .i64 c) := (hBV.cell (p := ⟨W1.heap.size, k, none⟩) (show W1.heap.size < wr.heap.size from Nat.lt_of_lt_of_le hgl hB9.size)).trans hOc
          have HBr := hid (hB0.trans (hBV.mono hB0.size))
          have HB9 := hid (hB9.trans (hBV.mono hB9.size))
          obtain ⟨ua, uc, rfl, -, -, -⟩ := rdsL_open z2
          clear c0 c1 c2 hcell2 HC2 z2 hrow hOc bv hx2
          by_cases hs1 : s = 1
          · subst hs1
            by_cases hc : (c : Int) = 1
            · have Hn := hid (show Same (((List.range ds.length).drop (k+1)).all (cntAt lg ds)) ((List.range ds.length).all (cntAt lg ds)) from .mk (by rw [← hS.out, hst.out, hc]; rfl))
              rw [hc] at r0
              clear hst hu hS
              go_wp2
              go_roundw
              case rel => exact ⟨k+1, by omega, by go_num, Hn.out, HB9.out⟩
              case measure => simp [intOf]; omega
            · have Hn := hid (show ((List.range ds.length).drop k).all (cntAt lg ds) = false by rw [hst.out]; simp [hc])
              clear hst hS
              go_wp2
              go_ret
              exact ⟨ret_bool (by rw [hu.out, Hn.out]), HBr.out⟩
          · have hs1' : (s == 1) = false := by simpa using hs1
            by_cases hc : (c : Int) = 0
            · have Hn := hid (show Same (((List.range ds.length).drop (k+1)).all (cntAt lg ds)) ((List.range ds.length).all (cntAt lg ds)) from .mk (by rw [← hS.out, hst.out, hc, hs1']; rfl))
              rw [hc] at r0
              clear hst hu hS
              go_wp2
              go_roundw
              case rel => exact ⟨k+1, by omega, by go_num, Hn.out, HB9.out⟩
              case measure => simp [intOf]; omega
            · have Hn := hid (show ((List.range ds.length).drop k).all (cntAt lg ds) = false by rw [hst.out, hs1']; simp; omega)
              clear hst hS
              go_wp2
              go_ret
              exact ⟨ret_bool (by rw [hu.out, Hn.out]), HBr.out⟩
        · obtain rfl : k = ds.length := by omega
          have hu := hid (show R = true by rw [hall.out, ← hS.out, List.drop_eq_nil_of_le (by rw [List.length_range]; omega)]; rfl)
          have HBr := hid hB0
          clear hS hall HO2 HC2
          go_wp2
          go_ret
          exact ⟨ret_bool hu.out.symm, HBr.out⟩
end Go.Proofs.YtbbdchlabdilcabGreat
