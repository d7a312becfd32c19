/- Chapter 7's program: Look, FrameOk. -/
import Derived.Test.YtpdgpblekbongaaI7b
namespace Go.Proofs.Ytpdgpblekbongaa
set_option maxRecDepth 100000
open Go.RowKit Go.Proofs Go.Own
open Go Go.BigFrame Go.Shelf
set_option linter.unusedVariables false
set_option linter.unusedSimpArgs false
theorem isIn_eq (n : Nat) (o : Int) : inB o 0 ((n : Int) - 1) = isIn n o := by
  unfold inB isIn
  rw [← Bool.decide_and]
  exact decide_eq_decide.2 (by omega)
theorem inB_yes {x a b : Int} (h : a ≤ x ∧ x ≤ b) : inB x a b = true := decide_eq_true h
theorem inB_no {x a b : Int} (h : ¬ (a ≤ x ∧ x ≤ b)) : inB x a b = false := decide_eq_false h
set_option maxHeartbeats 4000000 in
theorem impl_Look0 (hs : List Head) (ds : List DescD) (v0 v1 : Value) (o : Int) (w : World) (h0 : rdsL w v0 hs) (h1 : rdsL w v1 ds) :
    Calls Try.prog 23 #[.agg #[v0, v1], .int .i64 o] w fun e w' => e = .returned (.tuple #[.agg #[.int .i64 (lookH hs ds o).value_, .int .i64 (lookH hs ds o).version_, .int .i64 (lookH hs ds o).desc_], .bool (lookOk hs ds o)]) ∧ Below w.heap.size w w' := by
  have H0 := hid h0
  have H1 := hid h1
  obtain ⟨a0, cap0, rfl, hl0, hm0, hc0⟩ := rdsL_open h0
  obtain ⟨a1, cap1, rfl, hl1, hm1, -⟩ := rdsL_open h1
  clear h0 h1
  have hlen0 : hs.length ≤ 9223372036854775807 := by omega
  have HC := hid hc0
  clear hc0
  obtain ⟨W1, hW1⟩ : ∃ X, (w.alloc (.cells #[Value.slice a0 hs.length cap0, Value.slice a1 ds.length cap1] 31)).alloc (.cells #[.int .i64 0, .int .i64 0, .int .i64 0] 44) = X := ⟨_, rfl⟩
  have hB1 : Below w.heap.size w W1 := by rw [← hW1]; exact ((Below.refl _ _).alloc (Nat.le_refl _) _).alloc (by simp) _
  have hN : W1.heap.size = w.heap.size + 2 := by rw [← hW1]; simp
  have bp : BoxF W1 w.heap.size [Value.slice a0 hs.length cap0, Value.slice a1 ds.length cap1] := by
    rw [← hW1]
    exact (BoxF.alloc w #[Value.slice a0 hs.length cap0, Value.slice a1 ds.length cap1] 31).below ((Below.refl _ _).alloc (Nat.le_refl _) _)
  have br : BoxF W1 (w.heap.size + 1) [.int .i64 0, .int .i64 0, .int .i64 0] := by
    rw [← hW1]
    have h1 := BoxF.alloc (w.alloc (.cells #[Value.slice a0 hs.length cap0, Value.slice a1 ds.length cap1] 31)) #[.int .i64 0, .int .i64 0, .int .i64 0] 44
    rw [show (w.alloc (.cells #[Value.slice a0 hs.length cap0, Value.slice a1 ds.length cap1] 31)).heap.size = w.heap.size + 1 by simp] at h1
    exact h1
  have k0 : W1.cell? ⟨w.heap.size, 0, none⟩ = some (Value.slice a0 hs.length cap0) := bp.1.2 0 (by simp)
  have k1 : W1.cell? ⟨w.heap.size, 1, none⟩ = some (Value.slice a1 ds.length cap1) := bp.1.2 1 (by simp)
  have R0 := hid (rdsL.below H0.out hB1)
  have R1 := hid (rdsL.below H1.out hB1)
  clear H0 H1
  go_enter Try.func23, Try.ntmps23
  go_wp2_with fail
  try rw [hW1]
  clear hW1
  refine (impl_StoreOk0 hs ds _ _ _ R0.out R1.out).mono ?_
  rintro e w2 ⟨rfl, b2⟩
  have hB2 := hB1.trans (b2.mono hB1.size)
  have bp2 := bp.below b2
  have br2 := br.below b2
  have l0 : w2.cell? ⟨w.heap.size, 0, none⟩ = some (Value.slice a0 hs.length cap0) := bp2.1.2 0 (by simp)
  have l1 : w2.cell? ⟨w.heap.size, 1, none⟩ = some (Value.slice a1 ds.length cap1) := bp2.1.2 1 (by simp)
  have m0 : w2.cell? ⟨w.heap.size + 1, 0, none⟩ = some (.int .i64 0) := br2.1.2 0 (by simp)
  have m1 : w2.cell? ⟨w.heap.size + 1, 1, none⟩ = some (.int .i64 0) := br2.1.2 1 (by simp)
  have m2 : w2.cell? ⟨w.heap.size + 1, 2, none⟩ = some (.int .i64 0) := br2.1.2 2 (by simp)
  have m3 : w2.frozen? ⟨w.heap.size + 1, 0, none⟩ = false := br2.2 0 (by simp)
  have m4 : w2.frozen? ⟨w.heap.size + 1, 1, none⟩ = false := br2.2 1 (by simp)
  have m5 : w2.frozen? ⟨w.heap.size + 1, 2, none⟩ = false := br2.2 2 (by simp)
  have hu := hid (show lookOk hs ds o = (storeOk hs ds && inB o 0 ((hs.length : Int) - 1)) from rfl)
  have BP2 := hid bp2
  have BR2 := hid br2
  clear R0 R1 bp br b2 k0 k1 bp2 br2
  cases hs0 : storeOk hs ds with
  | false =>
    have hB3 : ∀ x y z : Value, Below w.heap.size w (((w2.setCell ⟨w.heap.size + 1, 0, none⟩ x).setCell ⟨w.heap.size + 1, 1, none⟩ y).setCell ⟨w.heap.size + 1, 2, none⟩ z) := fun x y z => ((hB2.setCell (by show w.heap.size ≤ w.heap.size + 1; omega) _).setCell (by show w.heap.size ≤ w.heap.size + 1; omega) _).setCell (by show w.heap.size ≤ w.heap.size + 1; omega) _
    have Hn := hid (show lookOk hs ds o = false by rw [hu.out, hs0]; rfl)
    have Hz := hid (lookH_no Hn.out)
    go_wp2
    refine bodyPost_ret (v := .tuple #[.agg #[.int .i64 0, .int .i64 0, .int .i64 0], .bool false]) ?_ rfl ⟨?_, ?_⟩
    · simp [results, Try.results23, go_sem, m0, m1, m2, m3, m4, m5]
    · rw [Hz.out, Hn.out]
    · first | exact hB2 | exact hB3 _ _ _
  | true =>
  clear m0 m1 m2 m3 m4 m5
  have hq2 := hid (show inB o 0 ((hs.length : Int) - 1) = isIn hs.length o by
    exact isIn_eq _ _)
  go_wp2_with fail
  refine (impl_isObject a0 hs.length cap0 a1 ds.length cap1 o _ hlen0).mono ?_
  rintro e w3 ⟨rfl, b3⟩
  have hB3' := hB2.trans (b3.mono hB2.size)
  have bp3 := BP2.out.below b3
  have br3 := BR2.out.below b3
  have l0' : w3.cell? ⟨w.heap.size, 0, none⟩ = some (Value.slice a0 hs.length cap0) := bp3.1.2 0 (by simp)
  have m0 : w3.cell? ⟨w.heap.size + 1, 0, none⟩ = some (.int .i64 0) := br3.1.2 0 (by simp)
  have m1 : w3.cell? ⟨w.heap.size + 1, 1, none⟩ = some (.int .i64 0) := br3.1.2 1 (by simp)
  have m2 : w3.cell? ⟨w.heap.size + 1, 2, none⟩ = some (.int .i64 0) := br3.1.2 2 (by simp)
  have m3 : w3.frozen? ⟨w.heap.size + 1, 0, none⟩ = false := br3.2 0 (by simp)
  have m4 : w3.frozen? ⟨w.heap.size + 1, 1, none⟩ = false := br3.2 1 (by simp)
  have m5 : w3.frozen? ⟨w.heap.size + 1, 2, none⟩ = false := br3.2 2 (by simp)
  have hB3 : ∀ x y z : Value, Below w.heap.size w (((w3.setCell ⟨w.heap.size + 1, 0, none⟩ x).setCell ⟨w.heap.size + 1, 1, none⟩ y).setCell ⟨w.heap.size + 1, 2, none⟩ z) := fun x y z => ((hB3'.setCell (by show w.heap.size ≤ w.heap.size + 1; omega) _).setCell (by show w.heap.size ≤ w.heap.size + 1; omega) _).setCell (by show w.heap.size ≤ w.heap.size + 1; omega) _
  clear BP2 BR2 b3 l0 l1 bp3 br3
  cases hb : isIn hs.length o with
  | false =>
    have Hn := hid (show lookOk hs ds o = false by rw [hu.out, hq2.out, hb, Bool.and_false])
    have Hz := hid (lookH_no Hn.out)
    go_wp2
    refine bodyPost_ret (v := .tuple #[.agg #[.int .i64 0, .int .i64 0, .int .i64 0], .bool false]) ?_ rfl ⟨?_, ?_⟩
    · simp [results, Try.results23, go_sem, m0, m1, m2, m3, m4, m5]
    · rw [Hz.out, Hn.out]
    · first | exact hB3' | exact hB3 _ _ _
  | true =>
    obtain ⟨hd1, hd2⟩ : 0 ≤ o ∧ o < (hs.length : Int) := by simpa [isIn] using hb
    obtain ⟨k, rfl⟩ := Int.eq_ofNat_of_zero_le hd1
    have hk : k < hs.length := by omega
    have hki : (k : Int) < (hs.length : Int) := by omega
    have hk0 : (0 : Int) ≤ (k : Int) := by omega
    have Hy := hid (show lookOk hs ds k = true by rw [hu.out, hs0, hq2.out, hb]; rfl)
    have Hz := hid (lookH_yes Hy.out hk)
    obtain ⟨bb, off, cs, rfl, hbs, rfl, hcell⟩ := HC.out k hk
    have e0 := (hB3'.cell (p := ⟨bb, off + k * 3, none⟩) hbs).trans (show w.cell? ⟨bb, off + k * 3, none⟩ = some (.int .i64 hs[k].value_) from hcell 0 (show 0 < 3 by omega))
    have e1 := (hB3'.cell (p := ⟨bb, off + k * 3 + 1, none⟩) hbs).trans (show w.cell? ⟨bb, off + k * 3 + 1, none⟩ = some (.int .i64 hs[k].version_) from hcell 1 (show 1 < 3 by omega))
    have e2 := (hB3'.cell (p := ⟨bb, off + k * 3 + 2, none⟩) hbs).trans (show w.cell? ⟨bb, off + k * 3 + 2, none⟩ = some (.int .i64 hs[k].desc_) from hcell 2 (show 2 < 3 by omega))
    clear hcell HC hd1 hd2 hu hq2
    go_wp2
    refine bodyPost_ret (v := .tuple #[.agg #[.int .i64 hs[k].value_, .int .i64 hs[k].version_, .int .i64 hs[k].desc_], .bool true]) ?_ rfl ⟨?_, ?_⟩
    · simp [results, Try.results23, go_sem, m0, m1, m2, m3, m4, m5]
    · rw [Hz.out, Hy.out]
    · exact hB3 _ _ _
set_option maxHeartbeats 8000000 in
theorem impl_FrameOk0 (hs : List Head) (ds : List DescD) (v0 v1 : Value) (f : Frame) (w : World) (h0 : rdsL w v0 hs) (h1 : rdsL w v1 ds) :
    Calls Try.prog 33 #[.agg #[v0, v1], .agg #[.int .i64 f.desc_, .int .i64 f.phase_, .int .i64 f.at_]] w fun e w' => e = .returned (.bool (frameOk hs ds f)) ∧ Below w.heap.size w w' := by
  have H0 := hid h0
  have H1 := hid h1
  obtain ⟨a0, cap0, rfl, hl0, hm0, -⟩ := rdsL_open h0
  obtain ⟨a1, cap1, rfl, hl1, hm1, hc1⟩ := rdsL_open h1
  clear h0 h1
  have hlen1 : ds.length ≤ 9223372036854775807 := by omega
  have DC := hid hc1
  clear hc1
  obtain ⟨fd, fp, fa⟩ := f
  have hu := hid (show frameOk hs ds ⟨fd, fp, fa⟩ = (storeOk hs ds && inB fd 0 ((ds.length : Int) - 1) && inB fp 0 5 && (if fp = 1 ∨ fp = 4 then inB fa 0 (((entsAt ds fd).length : Int) - 1) else decide (fa = 0))) from rfl)
  generalize frameOk hs ds ⟨fd, fp, fa⟩ = R at *
  obtain ⟨W1, hW1⟩ : ∃ X, (w.alloc (.cells #[Value.slice a0 hs.length cap0, Value.slice a1 ds.length cap1] 31)).alloc (.cells #[.int .i64 fd, .int .i64 fp, .int .i64 fa] 65) = X := ⟨_, rfl⟩
  have hB1 : Below w.heap.size w W1 := by rw [← hW1]; exact ((Below.refl _ _).alloc (Nat.le_refl _) _).alloc (by simp) _
  have hN : W1.heap.size = w.heap.size + 2 := by rw [← hW1]; simp
  have bp : BoxF W1 w.heap.size [Value.slice a0 hs.length cap0, Value.slice a1 ds.length cap1] := by
    rw [← hW1]
    exact (BoxF.alloc w #[Value.slice a0 hs.length cap0, Value.slice a1 ds.length cap1] 31).below ((Below.refl _ _).alloc (Nat.le_refl _) _)
  have br : BoxF W1 (w.heap.size + 1) [.int .i64 fd, .int .i64 fp, .int .i64 fa] := by
    rw [← hW1]
    have h1 := BoxF.alloc (w.alloc (.cells #[Value.slice a0 hs.length cap0, Value.slice a1 ds.length cap1] 31)) #[.int .i64 fd, .int .i64 fp, .int .i64 fa] 65
    rw [show (w.alloc (.cells #[Value.slice a0 hs.length cap0, Value.slice a1 ds.length cap1] 31)).heap.size = w.heap.size + 1 by simp] at h1
    exact h1
  have k0 : W1.cell? ⟨w.heap.size, 0, none⟩ = some (Value.slice a0 hs.length cap0) := bp.1.2 0 (by simp)
  have k1 : W1.cell? ⟨w.heap.size, 1, none⟩ = some (Value.slice a1 ds.length cap1) := bp.1.2 1 (by simp)
  have R0 := hid (rdsL.below H0.out hB1)
  have R1 := hid (rdsL.below H1.out hB1)
  clear H0 H1
  go_enter Try.func33, Try.ntmps33
  go_wp2_with fail
  try rw [hW1]
  clear hW1
  refine (impl_StoreOk0 hs ds _ _ _ R0.out R1.out).mono ?_
  rintro e w2 ⟨rfl, b2⟩
  have hB2 := hB1.trans (b2.mono hB1.size)
  have bp2 := bp.below b2
  have br2 := br.below b2
  cases hs0 : storeOk hs ds with
  | false =>
    go_wp2
    go_ret
    exact ⟨ret_bool (by rw [hu.out, hs0]; rfl), hB2⟩
  | true =>
  have l0 : w2.cell? ⟨w.heap.size, 0, none⟩ = some (Value.slice a0 hs.length cap0) := bp2.1.2 0 (by simp)
  have l1 : w2.cell? ⟨w.heap.size, 1, none⟩ = some (Value.slice a1 ds.length cap1) := bp2.1.2 1 (by simp)
  have l2 : w2.cell? ⟨w.heap.size + 1, 0, none⟩ = some (.int .i64 fd) := br2.1.2 0 (by simp)
  have BP2 := hid bp2
  have BR2 := hid br2
  clear R0 R1 bp br b2 k0 k1 bp2 br2
  go_wp2_with fail
  refine (impl_isDesc a0 hs.length cap0 a1 ds.length cap1 fd _ hlen1).mono ?_
  rintro e w3 ⟨rfl, b3⟩
  have hB3 := hB2.trans (b3.mono hB2.size)
  have bp3 := BP2.out.below b3
  have br3 := BR2.out.below b3
  have hq2 := hid (show inB fd 0 ((ds.length : Int) - 1) = isIn ds.length fd by
    exact isIn_eq _ _)
  cases hb : isIn ds.length fd with
  | false =>
    go_wp2
    go_ret
    exact ⟨ret_bool (by rw [hu.out, hs0, hq2.out, hb]; rfl), hB3⟩
  | true =>
  have hu2 := hid (show R = (inB fp 0 5 && (if fp = 1 ∨ fp = 4 then inB fa 0 (((entsAt ds fd).length : Int) - 1) else decide (fa = 0))) by rw [hu.out, hs0, hq2.out, hb]; rfl)
  have m1 : w3.cell? ⟨w.heap.size, 1, none⟩ = some (Value.slice a1 ds.length cap1) := bp3.1.2 1 (by simp)
  have n0 : w3.cell? ⟨w.heap.size + 1, 0, none⟩ = some (.int .i64 fd) := br3.1.2 0 (by simp)
  have n1 : w3.cell? ⟨w.heap.size + 1, 1, none⟩ = some (.int .i64 fp) := br3.1.2 1 (by simp)
  have n2 : w3.cell? ⟨w.heap.size + 1, 2, none⟩ = some (.int .i64 fa) := br3.1.2 2 (by simp)
  obtain ⟨hd1, hd2⟩ : 0 ≤ fd ∧ fd < (ds.length : Int) := by simpa [isIn] using hb
  obtain ⟨k, rfl⟩ := Int.eq_ofNat_of_zero_le hd1
  have hk : k < ds.length := by omega
  have hki : (k : Int) < (ds.length : Int) := by omega
  have hk0 : (0 : Int) ≤ (k : Int) := by omega
  clear hd1 hd2 hu hq2 hb l0 l1 l2 BP2 BR2 b3 bp3 br3
  by_cases hph : fp = 1 ∨ fp = 4
  · have HR := hid (show R = inB fa 0 ((ds[k].entries_.length : Int) - 1) by
      have : inB fp 0 5 = true := by rcases hph with rfl | rfl <;> rfl
      rw [hu2.out, if_pos hph, entsAt_eq hk, this]; rfl)
    obtain ⟨bb, off, cs, rfl, hbs, ⟨v2, rfl, h2⟩, hcell⟩ := DC.out k hk
    obtain ⟨ea, ecap, rfl, hle, hlm⟩ := (rdsEntrys.1 h2).form
    have e2 := (hB3.cell (p := ⟨bb, off + k * 3 + 2, none⟩) hbs).trans (show w.cell? ⟨bb, off + k * 3 + 2, none⟩ = some _ from hcell 2 (show 2 < 3 by omega))
    have hlen2 : ds[k].entries_.length ≤ 9223372036854775807 := by omega
    have hb2 := Nat.lt_of_lt_of_le hbs hB3.size
    clear hcell h2 DC hu2
    by_cases ha0 : 0 ≤ fa
    · by_cases ha1 : fa < (ds[k].entries_.length : Int)
      · have HR2 := hid (show R = true by rw [HR.out]; exact inB_yes (by omega))
        rcases hph with rfl | rfl
        all_goals go_wp2
        all_goals (go_quiet (fail))
        all_goals go_wp2
        all_goals go_ret
        all_goals exact ⟨ret_bool (by rw [HR2.out]; first | done | rfl | exact decide_eq_false (by omega) | exact decide_eq_true (by omega) | (simp; omega)), by first | exact below_drewN hB3 _ | exact hB3⟩
      · have HR2 := hid (show R = false by rw [HR.out]; exact inB_no (by omega))
        rcases hph with rfl | rfl
        all_goals go_wp2
        all_goals (go_quiet (fail))
        all_goals go_wp2
        all_goals go_ret
        all_goals exact ⟨ret_bool (by rw [HR2.out]; first | done | rfl | exact decide_eq_false (by omega) | exact decide_eq_true (by omega) | (simp; omega)), by first | exact below_drewN hB3 _ | exact hB3⟩
    · have HR2 := hid (show R = false by rw [HR.out]; exact inB_no (by omega))
      have hd : decide (0 ≤ fa) = false := decide_eq_false ha0
      rcases hph with rfl | rfl
      all_goals go_wp2
      all_goals (go_quiet (fail))
      all_goals go_wp2
      all_goals go_ret
      all_goals exact ⟨ret_bool (by rw [HR2.out]; first | done | rfl | exact decide_eq_false (by omega) | exact decide_eq_true (by omega) | (simp; omega)), by first | exact below_drewN hB3 _ | exact hB3⟩
  · by_cases hp : fp = 0 ∨ fp = 2 ∨ fp = 3 ∨ fp = 5
    · have HR := hid (show R = decide (fa = 0) by
        have : inB fp 0 5 = true := by rcases hp with rfl | rfl | rfl | rfl <;> rfl
        rw [hu2.out, if_neg hph, this]; rfl)
      clear hu2 hph DC
      rcases hp with rfl | rfl | rfl | rfl
      all_goals go_wp2
      all_goals go_ret
      all_goals exact ⟨ret_bool (by rw [HR.out]; rfl), hB3⟩
    · have HR := hid (show R = false by
        have : inB fp 0 5 = false := inB_no (by omega)
        rw [hu2.out, this]; rfl)
      have p0 : (fp == 0) = false := by rw [beq_eq_false_iff_ne]; omega
      have p1 : (fp == 1) = false := by rw [beq_eq_false_iff_ne]; omega
      have p2 : (fp == 2) = false := by rw [beq_eq_false_iff_ne]; omega
      have p3 : (fp == 3) = false := by rw [beq_eq_false_iff_ne]; omega
      have p4 : (fp == 4) = false := by rw [beq_eq_false_iff_ne]; omega
      have p5 : (fp == 5) = false := by rw [beq_eq_false_iff_ne]; omega
      clear hu2 hph hp DC
      go_wp2
      go_ret
      exact ⟨ret_bool HR.out.symm, hB3⟩
end Go.Proofs.Ytpdgpblekbongaa
