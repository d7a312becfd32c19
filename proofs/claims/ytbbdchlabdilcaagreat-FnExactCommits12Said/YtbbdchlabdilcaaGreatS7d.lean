/- Chapter 7's model: the next frame. -/
import Derived.Test.YtbbdchlabdilcaaGreatS7b
/- Chapter 7's model: Look, FrameOk, Held. -/
namespace Go.Proofs.YtbbdchlabdilcaaGreat
set_option maxRecDepth 100000
open Go.RowKit Go.Proofs Go.Own
open Go Go.BigFrame
set_option linter.unusedVariables false
set_option linter.unusedSimpArgs false
set_option maxHeartbeats 8000000 in
theorem spec_FrameOk0 (hs : List Head) (ds : List DescD) (v0 v1 : Value) (f : Frame) (w : World) (h0 : rdsL w v0 hs) (h1 : rdsL w v1 ds) :
    Calls Tryz.prog 214 #[.agg #[v0, v1], .agg #[.int .i64 f.desc_, .int .i64 f.phase_, .int .i64 f.at_]] w fun e w' => e = .returned (.bool (frameOk hs ds f)) ∧ Below w.heap.size w w' := by
  have H0 := hid h0
  have H1 := hid h1
  obtain ⟨a0, cap0, rfl, hl0, hm0, -⟩ := rdsL_open h0
  obtain ⟨a1, cap1, rfl, hl1, hm1, hc1⟩ := rdsL_open h1
  clear h0 h1
  have hlen1 : ds.length ≤ 9223372036854775807 := by omega
  have DC := hid hc1
  clear hc1
  obtain ⟨fd, fp, fa⟩ := f
  have hu := hid (show frameOk hs ds ⟨fd, fp, fa⟩ = (storeOk hs ds && inB fd 0 ((ds.length : Int) - 1) && inB fp 0 5 && (if fp = 1 ∨ fp = 4 then inB fa 0 (((entsAt ds fd).length : Int) - 1) else decide (fa = 0))) from rfl)
  generalize frameOk hs ds ⟨fd, fp, fa⟩ = R at *
  obtain ⟨W1, hW1⟩ : ∃ X, (w.alloc (.cells #[Value.slice a0 hs.length cap0, Value.slice a1 ds.length cap1] 28)).alloc (.cells #[.int .i64 fd, .int .i64 fp, .int .i64 fa] 221) = X := ⟨_, rfl⟩
  have hB1 : Below w.heap.size w W1 := by rw [← hW1]; exact ((Below.refl _ _).alloc (Nat.le_refl _) _).alloc (by simp) _
  have hN : W1.heap.size = w.heap.size + 2 := by rw [← hW1]; simp
  have bp : BoxF W1 w.heap.size [Value.slice a0 hs.length cap0, Value.slice a1 ds.length cap1] := by
    rw [← hW1]
    exact (BoxF.alloc w #[Value.slice a0 hs.length cap0, Value.slice a1 ds.length cap1] 28).below ((Below.refl _ _).alloc (Nat.le_refl _) _)
  have br : BoxF W1 (w.heap.size + 1) [.int .i64 fd, .int .i64 fp, .int .i64 fa] := by
    rw [← hW1]
    have h1 := BoxF.alloc (w.alloc (.cells #[Value.slice a0 hs.length cap0, Value.slice a1 ds.length cap1] 28)) #[.int .i64 fd, .int .i64 fp, .int .i64 fa] 221
    rw [show (w.alloc (.cells #[Value.slice a0 hs.length cap0, Value.slice a1 ds.length cap1] 28)).heap.size = w.heap.size + 1 by simp] at h1
    exact h1
  have k0 : W1.cell? ⟨w.heap.size, 0, none⟩ = some (Value.slice a0 hs.length cap0) := bp.1.2 0 (by simp)
  have k1 : W1.cell? ⟨w.heap.size, 1, none⟩ = some (Value.slice a1 ds.length cap1) := bp.1.2 1 (by simp)
  have R0 := hid (rdsL.below H0.out hB1)
  have R1 := hid (rdsL.below H1.out hB1)
  clear H0 H1
  go_enter Tryz.func214, Tryz.ntmps214
  go_wp2_with fail
  try rw [hW1]
  clear hW1
  refine (spec_StoreOk0 hs ds _ _ _ R0.out R1.out).mono ?_
  rintro e w2 ⟨rfl, b2⟩
  have hB2 := hB1.trans (b2.mono hB1.size)
  have hN2 : w.heap.size + 1 < w2.heap.size := by have := b2.size; omega
  have hN20 : w.heap.size < w2.heap.size := by omega
  have l1 : w2.cell? ⟨w.heap.size, 1, none⟩ = some (Value.slice a1 ds.length cap1) := (bp.below b2).1.2 1 (by simp)
  have m0 : w2.cell? ⟨w.heap.size + 1, 0, none⟩ = some (.int .i64 fd) := (br.below b2).1.2 0 (by simp)
  have m1 : w2.cell? ⟨w.heap.size + 1, 1, none⟩ = some (.int .i64 fp) := (br.below b2).1.2 1 (by simp)
  have m2 : w2.cell? ⟨w.heap.size + 1, 2, none⟩ = some (.int .i64 fa) := (br.below b2).1.2 2 (by simp)
  clear R0 R1 bp br b2 k0 k1 hN
  cases hs0 : storeOk hs ds with
  | false =>
    go_wp2
    go_ret
    exact ⟨ret_bool (by rw [hu.out, hs0]; rfl), hB2⟩
  | true =>
  cases hb : inB fd 0 ((ds.length : Int) - 1) with
  | false =>
    go_wp2_with (go_at_call 128; refine (spec_l1In _ _ _ _).mono ?_; rintro e w' ⟨rfl, rfl⟩)
    go_ret
    exact ⟨ret_bool (by rw [hu.out, hs0, hb]; rfl), hB2⟩
  | true =>
  cases hp : inB fp 0 5 with
  | false =>
    go_wp2_with (go_at_call 128; refine (spec_l1In _ _ _ _).mono ?_; rintro e w' ⟨rfl, rfl⟩)
    go_ret
    exact ⟨ret_bool (by rw [hu.out, hs0, hb, hp]; rfl), hB2⟩
  | true =>
  have hu2 := hid (show R = (if fp = 1 ∨ fp = 4 then inB fa 0 (((entsAt ds fd).length : Int) - 1) else decide (fa = 0)) by rw [hu.out, hs0, hb, hp]; rfl)
  obtain ⟨hd1, hd2⟩ : 0 ≤ fd ∧ fd ≤ (ds.length : Int) - 1 := by simpa [inB] using hb
  obtain ⟨k, rfl⟩ := Int.eq_ofNat_of_zero_le hd1
  have hk : k < ds.length := by omega
  have hki : (k : Int) < (ds.length : Int) := by omega
  have hk0 : (0 : Int) ≤ (k : Int) := by omega
  clear hd1 hd2 hu
  by_cases hph : fp = 1 ∨ fp = 4
  · have HR := hid (show R = inB fa 0 ((ds[k].entries_.length : Int) - 1) by rw [hu2.out, if_pos hph, entsAt_eq hk])
    obtain ⟨bb, off, cs, rfl, hbs, ⟨v2, rfl, h2⟩, hcell⟩ := DC.out k hk
    obtain ⟨ea, ecap, rfl, hle, hlm⟩ := (rdsEntrys.1 h2).form
    have e2 := (hB2.cell (p := ⟨bb, off + k * 3 + 2, none⟩) hbs).trans (show w.cell? ⟨bb, off + k * 3 + 2, none⟩ = some _ from hcell 2 (show 2 < 3 by omega))
    have hlen2 : ds[k].entries_.length ≤ 9223372036854775807 := by omega
    have hb2 := Nat.lt_of_lt_of_le hbs hB2.size
    clear hcell h2 DC hu2
    rcases hph with rfl | rfl
    all_goals go_wp2_with (first | (go_at_call 128; refine (spec_l1In _ _ _ _).mono ?_; rintro e w' ⟨rfl, rfl⟩))
    all_goals (go_quiet ((go_at_call 128; exact quiet_eq (spec_l1In _ _ _ _))))
    all_goals go_wp2
    all_goals go_ret
    all_goals exact ⟨ret_bool (by rw [HR.out]), by first | exact below_drewN hB2 _ | exact hB2⟩
  · obtain ⟨hp1, hp4⟩ : (fp == 1) = false ∧ (fp == 4) = false := by constructor <;> (rw [beq_eq_false_iff_ne]; intro e; exact hph (by simp [e]))
    have HR := hid (show R = decide (fa = 0) by rw [hu2.out, if_neg hph])
    clear hph hu2
    go_wp2_with (first | (go_at_call 128; refine (spec_l1In _ _ _ _).mono ?_; rintro e w' ⟨rfl, rfl⟩))
    go_ret
    exact ⟨ret_bool (by rw [HR.out]; rfl), hB2⟩
theorem oneCell_1 (x : Int) : ∀ c ∈ [Value.int .i64 x], c.oneCell' = true := by intro c hc; simp at hc; subst hc; rfl
theorem encI_snoc (xs : List Int) (x : Int) : (xs ++ [x]).flatMap encI = xs.flatMap encI ++ [Value.int .i64 x] := by simp [encI]
end Go.Proofs.YtbbdchlabdilcaaGreat
namespace Go.Proofs.YtbbdchlabdilcaaGreat
set_option maxRecDepth 100000
open Go.RowKit Go.Proofs Go.Own
open Go Go.BigFrame
set_option linter.unusedVariables false
set_option linter.unusedSimpArgs false
set_option maxHeartbeats 8000000 in
theorem spec_l7Next0 (hs : List Head) (ds : List DescD) (v0 v1 : Value) (f : Frame) (b : Int) (w : World) (h0 : rdsL w v0 hs) (h1 : rdsL w v1 ds) (k : Nat) (hf : f.desc_ = k) (hk : k < ds.length) (ha : 0 ≤ f.at_ ∧ f.at_ ≤ 1048576) :
    Calls Tryz.prog 263 #[.agg #[v0, v1], .agg #[.int .i64 f.desc_, .int .i64 f.phase_, .int .i64 f.at_], .int .i64 b] w fun e w' => e = .returned (.agg #[.int .i64 (nextF ds f b).desc_, .int .i64 (nextF ds f b).phase_, .int .i64 (nextF ds f b).at_]) ∧ Below w.heap.size w w' := by
  obtain ⟨a0, cap0, rfl, hl0, hm0, -⟩ := rdsL_open h0
  obtain ⟨a1, cap1, rfl, hl1, hm1, hc1⟩ := rdsL_open h1
  clear h0 h1
  have hlen1 : ds.length ≤ 9223372036854775807 := by omega
  obtain ⟨fd, fp, fa⟩ := f
  simp only at hf ha ⊢
  subst hf
  have hki : (k : Int) < (ds.length : Int) := by omega
  have hk0 : (0 : Int) ≤ (k : Int) := by omega
  have hu := hid (show nextF ds ⟨(k : Int), fp, fa⟩ b = if fa + 1 < (ds[k].entries_.length : Int) then ⟨(k : Int), fp, fa + 1⟩ else ⟨(k : Int), b, 0⟩ by unfold nextF; rw [entsAt_eq hk])
  generalize nextF ds ⟨(k : Int), fp, fa⟩ b = R at *
  obtain ⟨bb, off, cs, rfl, hbs, ⟨v2, rfl, h2⟩, hcell⟩ := hc1 k hk
  obtain ⟨ea, ecap, rfl, hle, hlm⟩ := (rdsEntrys.1 h2).form
  have hlen2 : ds[k].entries_.length ≤ 9223372036854775807 := by omega
  obtain ⟨W1, hW1⟩ : ∃ X, ((w.alloc (.cells #[Value.slice a0 hs.length cap0, Value.slice (some ⟨bb, off, none⟩) ds.length cap1] 28)).alloc (.cells #[.int .i64 k, .int .i64 fp, .int .i64 fa] 221)).alloc (.cells #[.int .i64 0, .int .i64 0, .int .i64 0] 221) = X := ⟨_, rfl⟩
  have hB1 : Below w.heap.size w W1 := by rw [← hW1]; exact (((Below.refl _ _).alloc (Nat.le_refl _) _).alloc (by simp) _).alloc (by simp; omega) _
  have hN : W1.heap.size = w.heap.size + 3 := by rw [← hW1]; simp
  have k1 : W1.cell? ⟨w.heap.size, 1, none⟩ = some (Value.slice (some ⟨bb, off, none⟩) ds.length cap1) := by rw [← hW1]; simp [go_sem]
  have m0 : W1.cell? ⟨w.heap.size + 1, 0, none⟩ = some (.int .i64 (k : Int)) := by rw [← hW1]; simp [go_sem]
  have m1 : W1.cell? ⟨w.heap.size + 1, 1, none⟩ = some (.int .i64 fp) := by rw [← hW1]; simp [go_sem]
  have m2 : W1.cell? ⟨w.heap.size + 1, 2, none⟩ = some (.int .i64 fa) := by rw [← hW1]; simp [go_sem]
  have f2 : W1.frozen? ⟨w.heap.size + 1, 2, none⟩ = false := by rw [← hW1]; simp [go_sem]
  have n0 : W1.cell? ⟨w.heap.size + 1 + 1, 0, none⟩ = some (.int .i64 0) := by rw [← hW1]; simp [go_sem]
  have n1 : W1.cell? ⟨w.heap.size + 1 + 1, 1, none⟩ = some (.int .i64 0) := by rw [← hW1]; simp [go_sem]
  have n2 : W1.cell? ⟨w.heap.size + 1 + 1, 2, none⟩ = some (.int .i64 0) := by rw [← hW1]; simp [go_sem]
  have g0 : W1.frozen? ⟨w.heap.size + 1 + 1, 0, none⟩ = false := by rw [← hW1]; simp [go_sem]
  have g1 : W1.frozen? ⟨w.heap.size + 1 + 1, 1, none⟩ = false := by rw [← hW1]; simp [go_sem]
  have g2 : W1.frozen? ⟨w.heap.size + 1 + 1, 2, none⟩ = false := by rw [← hW1]; simp [go_sem]
  have e2 := (hB1.cell (p := ⟨bb, off + k * 3 + 2, none⟩) hbs).trans (show w.cell? ⟨bb, off + k * 3 + 2, none⟩ = some _ from hcell 2 (show 2 < 3 by omega))
  have hb2 := Nat.lt_of_lt_of_le hbs hB1.size
  clear hcell h2 hc1
  go_enter Tryz.func263, Tryz.ntmps263
  go_wp2_with fail
  go_quiet (fail)
  by_cases hlt : fa + 1 < (ds[k].entries_.length : Int)
  · have HR := hid (show R = ⟨(k : Int), fp, fa + 1⟩ by rw [hu.out, if_pos hlt])
    clear hu
    go_wp2
    refine bodyPost_ret (v := .agg #[.int .i64 (k : Int), .int .i64 fp, .int .i64 (fa + 1)]) ?_ rfl ⟨?_, ?_⟩
    · simp [results, Tryz.results263, go_sem, m0, m1, m2, n0, n1, n2, f2, g0, g1, g2]
    · rw [HR.out]
    · exact ((((below_drewN hB1 _).setCell (by show w.heap.size ≤ w.heap.size + 1; omega) _).setCell (by show w.heap.size ≤ w.heap.size + 1 + 1; omega) _).setCell (by show w.heap.size ≤ w.heap.size + 1 + 1; omega) _).setCell (by show w.heap.size ≤ w.heap.size + 1 + 1; omega) _
  · have HR := hid (show R = ⟨(k : Int), b, 0⟩ by rw [hu.out, if_neg hlt])
    clear hu
    go_wp2
    refine bodyPost_ret (v := .agg #[.int .i64 (k : Int), .int .i64 b, .int .i64 0]) ?_ rfl ⟨?_, ?_⟩
    · simp [results, Tryz.results263, go_sem, m0, m1, m2, n0, n1, n2, f2, g0, g1, g2]
    · rw [HR.out]
    · exact (((below_drewN hB1 _).setCell (by show w.heap.size ≤ w.heap.size + 1 + 1; omega) _).setCell (by show w.heap.size ≤ w.heap.size + 1 + 1; omega) _).setCell (by show w.heap.size ≤ w.heap.size + 1 + 1; omega) _
end Go.Proofs.YtbbdchlabdilcaaGreat
