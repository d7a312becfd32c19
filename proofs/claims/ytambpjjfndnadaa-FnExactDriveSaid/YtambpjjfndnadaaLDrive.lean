/- FnExactDrive, walked. -/
import Derived.Test.YtambpjjfndnadaaW7d
import Derived.Test.YtambpjjfndnadaaBx
import Derived.Test.YtambpjjfndnadaaEnc4
import Derived.Test.YtambpjjfndnadaaHop
import Derived.Test.YtambpjjfndnadaaWr3
import Derived.Test.YtambpjjfndnadaaKeep
import Derived.Deep.RegionHeld3
import Derived.Deep.Cut
import Derived.StillTailTactics
namespace Go.Proofs.Ytambpjjfndnadaa
set_option maxRecDepth 100000
open Go.RowKit Go.Proofs Go.Own
set_option linter.unusedVariables false

set_option maxRecDepth 100000 in
set_option maxHeartbeats 8000000 in
theorem law_Drive (d_aS : StoreD) (v_aS0 v_aS1 : Value) (d_aF : Frame) (w : World) (h_aS0 : rdsL w v_aS0 d_aS.heads_) (h_aS1 : rdsL w v_aS1 d_aS.descs_) :
    Calls Try.prog 3 #[(.agg #[v_aS0, v_aS1]), (.agg #[.int .i64 d_aF.desc_, .int .i64 d_aF.phase_, .int .i64 d_aF.at_])] w fun e w' => e = .returned (.bool true) ∧ Below w.heap.size w w' := by
  obtain ⟨a_aS0, c_aS0, rfl, -, -, -⟩ := rdsL_open h_aS0
  obtain ⟨a_aS1, c_aS1, rfl, -, -, -⟩ := rdsL_open h_aS1
  obtain ⟨W1, hW1⟩ : ∃ X, w.alloc (.cells #[(Value.slice a_aS0 d_aS.heads_.length c_aS0), (Value.slice a_aS1 d_aS.descs_.length c_aS1)] 25) = X := ⟨_, rfl⟩
  have hbx1 : Below w.heap.size w W1 := by rw [← hW1]; exact (Below.refl _ _).alloc (Nat.le_refl _) _
  have zw1 : W1.heap.size = w.heap.size + 1 := by rw [← hW1]; simp
  have bx_aS : Box W1 (w.heap.size) [(Value.slice a_aS0 d_aS.heads_.length c_aS0), (Value.slice a_aS1 d_aS.descs_.length c_aS1)] := by rw [← hW1]; exact Box.alloc _ _ _
  obtain ⟨W2, hW2⟩ : ∃ X, W1.alloc (.cells #[Value.int .i64 d_aF.desc_, Value.int .i64 d_aF.phase_, Value.int .i64 d_aF.at_] 27) = X := ⟨_, rfl⟩
  have hbx2 : Below W1.heap.size W1 W2 := by rw [← hW2]; exact (Below.refl _ _).alloc (Nat.le_refl _) _
  have zw2 : W2.heap.size = W1.heap.size + 1 := by rw [← hW2]; simp
  replace bx_aS := Box.below bx_aS hbx2
  have bx_aF : Box W2 (w.heap.size + 1) [Value.int .i64 d_aF.desc_, Value.int .i64 d_aF.phase_, Value.int .i64 d_aF.at_] := by rw [← hW2, ← zw1]; exact Box.alloc _ _ _
  have hB0 : Below w.heap.size w W2 := (hbx1.trans (hbx2.mono (by omega)))
  replace h_aS0 := rdsL.below h_aS0 hB0
  replace h_aS1 := rdsL.below h_aS1 hB0
  have tt0 : Below W2.heap.size W2 W2 := Below.refl _ _
  have zb0 : W2.heap.size ≤ W2.heap.size := Nat.le_refl _
  go_enter Try.func3, Try.ntmps3
  have k1 : W2.cell? ⟨w.heap.size, 0, none⟩ = some ((Value.slice a_aS0 d_aS.heads_.length c_aS0)) := bx_aS.2 0 (by simp)
  have k2 : W2.cell? ⟨w.heap.size, 1, none⟩ = some ((Value.slice a_aS1 d_aS.descs_.length c_aS1)) := bx_aS.2 1 (by simp)
  have k3 : W2.cell? ⟨w.heap.size + 1, 0, none⟩ = some (Value.int .i64 d_aF.desc_) := bx_aF.2 0 (by simp)
  have k4 : W2.cell? ⟨w.heap.size + 1, 1, none⟩ = some (Value.int .i64 d_aF.phase_) := bx_aF.2 1 (by simp)
  have k5 : W2.cell? ⟨w.heap.size + 1, 2, none⟩ = some (Value.int .i64 d_aF.at_) := bx_aF.2 2 (by simp)
  go_wp2_with fail
  clear k1 k2 k3 k4 k5 hW1 hW2
  have hl0_aS : 0 ≤ (1048576 : Int) := by omega
  refine (szStore_o d_aS (Value.slice a_aS0 d_aS.heads_.length c_aS0) (Value.slice a_aS1 d_aS.descs_.length c_aS1) _ _ (by omega) (by omega) (rdsL.below h_aS0 tt0) (rdsL.below h_aS1 tt0)).mono ?_
  rintro e w6 ⟨rfl, b7⟩
  have t8 := Below.trans tt0 (Below.mono b7 zb0)
  replace bx_aS := Box.below bx_aS b7
  replace bx_aF := Box.below bx_aF b7
  have z9 := Below.size b7
  replace zb0 : W2.heap.size ≤ w6.heap.size := by omega
  by_cases big_aS : (1048576 : Int) < (szStoreD d_aS : Int)
  · rw [szR_of, if_pos big_aS]
    go_wp2
    go_ret
    exact ⟨rfl, hB0.trans (Below.mono t8 hB0.size)⟩
  rw [szR_of, if_neg big_aS]
  have k10 : w6.cell? ⟨w.heap.size, 0, none⟩ = some ((Value.slice a_aS0 d_aS.heads_.length c_aS0)) := bx_aS.2 0 (by simp)
  have k11 : w6.cell? ⟨w.heap.size, 1, none⟩ = some ((Value.slice a_aS1 d_aS.descs_.length c_aS1)) := bx_aS.2 1 (by simp)
  have k12 : w6.cell? ⟨w.heap.size + 1, 0, none⟩ = some (Value.int .i64 d_aF.desc_) := bx_aF.2 0 (by simp)
  have k13 : w6.cell? ⟨w.heap.size + 1, 1, none⟩ = some (Value.int .i64 d_aF.phase_) := bx_aF.2 1 (by simp)
  have k14 : w6.cell? ⟨w.heap.size + 1, 2, none⟩ = some (Value.int .i64 d_aF.at_) := bx_aF.2 2 (by simp)
  go_upto_region 5 with fail
  clear k10 k11 k12 k13 k14
  have hb_aS : StoreB d_aS := by show _ ≤ 1048576; have := big_aS; unfold szStoreD at *; omega
  have lt18 := (bx_aS).1
  have y19 : ∀ e : Ext w6, e.w.cell? ⟨w.heap.size, 0, none⟩ = some ((Value.slice a_aS0 d_aS.heads_.length c_aS0)) := Ext.cell lt18 (bx_aS.2 0 (by simp))
  have y20 : ∀ e : Ext w6, e.w.cell? ⟨w.heap.size, 1, none⟩ = some ((Value.slice a_aS1 d_aS.descs_.length c_aS1)) := Ext.cell lt18 (bx_aS.2 1 (by simp))
  have lt21 := (bx_aF).1
  have y22 : ∀ e : Ext w6, e.w.cell? ⟨w.heap.size + 1, 0, none⟩ = some (Value.int .i64 d_aF.desc_) := Ext.cell lt21 (bx_aF.2 0 (by simp))
  have y23 : ∀ e : Ext w6, e.w.cell? ⟨w.heap.size + 1, 1, none⟩ = some (Value.int .i64 d_aF.phase_) := Ext.cell lt21 (bx_aF.2 1 (by simp))
  have y24 : ∀ e : Ext w6, e.w.cell? ⟨w.heap.size + 1, 2, none⟩ = some (Value.int .i64 d_aF.at_) := Ext.cell lt21 (bx_aF.2 2 (by simp))
  have mk1 : ∀ (P : Program) (o : Oper) (a : Act) (w : World) (v : Value), Oper.plainAt P o a w v = Oper.plainUpon w v ((execOp a.eval o).run P w) := fun _ _ _ _ _ => rfl
  have mk2 : ∀ (w w' : World) (v u : Value), Oper.plainUpon w v (.ok (.value u) w') = (w' = w ∧ u = v) := fun _ _ _ _ => rfl
  go_cut [6, 7, 8] from 19 (fun p6 p7 p8 wx => ∃ (Be15_0 : Nat) (Be15_1 : Nat) (ue15_00 ue15_01 : Value) (Se15_00 Se15_01 : Nat → Prop), p6 = Value.pointer (some ⟨Be15_0, 0, none⟩) ∧ p7 = Value.pointer (some ⟨Be15_1, 0, none⟩) ∧ p8 = (.int .i64 (driveN d_aS d_aF)) ∧ Box wx Be15_0 [ue15_00, ue15_01] ∧ w6.heap.size ≤ Be15_0 ∧ Box wx Be15_1 [Value.int .i64 (driveF d_aS d_aF).desc_, Value.int .i64 (driveF d_aS d_aF).phase_, Value.int .i64 (driveF d_aS d_aF).at_] ∧ w6.heap.size ≤ Be15_1 ∧ Be15_0 ≠ Be15_1 ∧ ownL Se15_00 wx ue15_00 (driveD d_aS d_aF).heads_ ∧ ownL Se15_01 wx ue15_01 (driveD d_aS d_aF).descs_ ∧ (∀ b, Se15_00 b → Rg w6.heap.size wx.heap.size b ∧ b ≠ Be15_0 ∧ b ≠ Be15_1) ∧ (∀ b, Se15_01 b → Rg w6.heap.size wx.heap.size b ∧ b ≠ Be15_0 ∧ b ≠ Be15_1) ∧ (∀ b, Se15_00 b → ¬ Se15_01 b) ∧ StoreB (driveD d_aS d_aF) ∧ Below w6.heap.size w6 wx)
  case first =>
    refine Go.wp_region_rel [Rel.none, Rel.g2 w6.heap.size (fun u0 u1 => (.agg #[u0, u1])) d_aS.heads_ d_aS.descs_, Rel.none, Rel.val (.agg #[.int .i64 d_aF.desc_, .int .i64 d_aF.phase_, .int .i64 d_aF.at_]), Rel.g2 w6.heap.size (fun u0 u1 => .tuple #[(.agg #[u0, u1]), (.agg #[.int .i64 (driveF d_aS d_aF).desc_, .int .i64 (driveF d_aS d_aF).phase_, .int .i64 (driveF d_aS d_aF).at_]), .int .i64 (driveN d_aS d_aF)]) (driveD d_aS d_aF).heads_ (driveD d_aS d_aF).descs_, Rel.none, Rel.none, Rel.none, Rel.none, Rel.box w6.heap.size 2, Rel.box w6.heap.size 3, Rel.wrote, Rel.wrote, Rel.none] [[], [], [], [], [1, 3], [], [], [], [], [], [], [9], [10], []] [.plain, .make, .plain, .make, .make, .plain, .plain, .plain, .plain, .make, .make, .write 9, .write 10, .plain] (by kernel_rfl) (by kernel_rfl) (by kernel_rfl) (by kernel_rfl) (by kernel_rfl) ?_
    (refine Go.wpR_plain (Go.clsExt _) rfl rfl (fun K hK => ?_); go_simp; refine hK _ ?_; clear hK K)
    refine Go.wpR_call (Go.clsExt _) 12 #[(.agg #[(Value.slice a_aS0 d_aS.heads_.length c_aS0), (Value.slice a_aS1 d_aS.descs_.length c_aS1)])] (Rel.g2 w6.heap.size (fun u0 u1 => (.agg #[u0, u1])) d_aS.heads_ d_aS.descs_) rfl rfl rfl rfl (fun w => by go_simp) (fun w9 hC hE => ?_) ?_
    · obtain ⟨E, rfl⟩ := hC; refine (toStore_o d_aS (Value.slice a_aS0 d_aS.heads_.length c_aS0) (Value.slice a_aS1 d_aS.descs_.length c_aS1) _ (rdsL.below (rdsL.below h_aS0 t8) E.h) (rdsL.below (rdsL.below h_aS1 t8) E.h) hb_aS).mono ?_; rintro e w2 ⟨u0, u1, S0, S1, rfl, o0, o1, r0, r1, d01, b⟩; exact ⟨_, rfl, b, Rel.g2_of E.size o0 o1 r0 r1 d01⟩
    rintro _ lo1 hi1 ⟨a1_0, m1_0, c1_0, a1_1, m1_1, c1_1, rfl⟩
    (refine Go.wpR_plain (Go.clsExt _) rfl rfl (fun K hK => ?_); go_simp; refine hK _ ?_; clear hK K)
    refine Go.wpR_call (Go.clsExt _) 13 #[(.agg #[.int .i64 d_aF.desc_, .int .i64 d_aF.phase_, .int .i64 d_aF.at_])] (Rel.val (.agg #[.int .i64 d_aF.desc_, .int .i64 d_aF.phase_, .int .i64 d_aF.at_])) rfl rfl rfl rfl (fun w => by go_simp) (fun w9 hC hE => ?_) ?_
    · obtain ⟨E, rfl⟩ := hC; refine (toFrame_c d_aF _).mono ?_; rintro e w2 ⟨rfl, b⟩; exact ⟨_, rfl, b, rfl, trivial⟩
    rintro _ lo3 hi3 rfl
    refine Go.wpR_call (Go.clsExt _) 11 #[(.agg #[(Value.slice a1_0 m1_0 c1_0), (Value.slice a1_1 m1_1 c1_1)]), (.agg #[.int .i64 d_aF.desc_, .int .i64 d_aF.phase_, .int .i64 d_aF.at_])] (Rel.g2 w6.heap.size (fun u0 u1 => .tuple #[(.agg #[u0, u1]), (.agg #[.int .i64 (driveF d_aS d_aF).desc_, .int .i64 (driveF d_aS d_aF).phase_, .int .i64 (driveF d_aS d_aF).at_]), .int .i64 (driveN d_aS d_aF)]) (driveD d_aS d_aF).heads_ (driveD d_aS d_aF).descs_) rfl rfl rfl rfl (fun w => by go_simp) (fun w9 hC hE => ?_) ?_
    · obtain ⟨E, rfl⟩ := hC; obtain ⟨-, -, -, x1_0, x1_1, T1_0, T1_1, he1, q1_0, q1_1, -⟩ := (hE 1 (by decide) _ _ _ rfl).1; have hi1_ := he1; simp only [Value.agg.injEq, Array.mk.injEq, List.cons.injEq, and_true, true_and] at hi1_; obtain ⟨rfl, rfl⟩ := hi1_; clear he1; refine (spec_DriveW d_aS (Value.slice a1_0 m1_0 c1_0) (Value.slice a1_1 m1_1 c1_1) d_aF _ (ownL.rds q1_0) (ownL.rds q1_1) hb_aS).mono ?_
      rintro e w2 ⟨u0, u1, S0, S1, rfl, o0, o1, r0, r1, dj01, -, b⟩; exact ⟨_, rfl, b, Rel.g2_of E.size o0 o1 r0 r1 dj01⟩
    rintro _ lo4 hi4 ⟨a4_0, m4_0, c4_0, a4_1, m4_1, c4_1, rfl⟩
    (refine Go.wpR_plain (Go.clsExt _) rfl rfl (fun K hK => ?_); go_simp; refine hK _ ?_; clear hK K)
    (refine Go.wpR_plain (Go.clsExt _) rfl rfl (fun K hK => ?_); go_simp; refine hK _ ?_; clear hK K)
    (refine Go.wpR_plain (Go.clsExt _) rfl rfl (fun K hK => ?_); go_simp; refine hK _ ?_; clear hK K)
    (refine Go.wpR_plain (Go.clsExt _) rfl rfl (fun K hK => ?_); go_simp; refine hK _ ?_; clear hK K)
    refine Go.wpR_box (Go.clsExt _) 2 #[Value.slice none 0 0, Value.slice none 0 0] 32 rfl rfl rfl rfl rfl (fun w => by go_simp) (fun lo9 => ?_)
    refine Go.wpR_box (Go.clsExt _) 3 #[.int .i64 0, .int .i64 0, .int .i64 0] 33 rfl rfl rfl rfl rfl (fun w => by go_simp) (fun lo10 => ?_)
    refine Go.wpR_store (Go.clsExt _) 9 2 lo9 _ (.agg #[(Value.slice a4_0 m4_0 c4_0), (Value.slice a4_1 m4_1 c4_1)]) [(Value.slice a4_0 m4_0 c4_0), (Value.slice a4_1 m4_1 c4_1)] rfl rfl rfl (by decide) rfl (by first | rfl | (simp [Go.Oper.stored]; go_simp)) (fun w h => Go.wrote_r h) (fun w cs0 hn hB => ⟨_, (by obtain ⟨z0, z1, kz0, kz1, fz0, fz1⟩ := box_any2 hn hB; go_simp), boxset2 hn hB _ _⟩) rfl ?_
    refine Go.wpR_store (Go.clsExt _) 10 3 lo10 _ (.agg #[Value.int .i64 (driveF d_aS d_aF).desc_, Value.int .i64 (driveF d_aS d_aF).phase_, Value.int .i64 (driveF d_aS d_aF).at_]) [Value.int .i64 (driveF d_aS d_aF).desc_, Value.int .i64 (driveF d_aS d_aF).phase_, Value.int .i64 (driveF d_aS d_aF).at_] rfl rfl rfl (by decide) rfl (by first | rfl | (simp [Go.Oper.stored]; go_simp)) (fun w h => Go.wrote_r h) (fun w cs0 hn hB => ⟨_, (by obtain ⟨z0, z1, z2, kz0, kz1, kz2, fz0, fz1, fz2⟩ := box_any3 hn hB; go_simp), boxset3 hn hB _ _ _⟩) rfl ?_
    (refine Go.wpR_plain (Go.clsExt _) rfl rfl (fun K hK => ?_); go_simp; refine hK _ ?_; clear hK K)
    refine Go.wpR_nil ?_
    intro E hm
    clear y19 y20 y22 y23 y24 mk1 mk2
    have bx_0 := (hm.one 11 _ _ _ rfl).1.2 _ rfl
    have bg_0 := (hm.one 9 _ _ _ rfl).1.1
    have tw_0 := hm.two 9 4 _ _ _ _ _ _ (.inl rfl) (.inl rfl) (by decide) rfl rfl
    have bx_1 := (hm.one 12 _ _ _ rfl).1.2 _ rfl
    have bg_1 := (hm.one 10 _ _ _ rfl).1.1
    have tw_1 := hm.two 10 4 _ _ _ _ _ _ (.inl rfl) (.inl rfl) (by decide) rfl rfl
    have tn_0_1 := hm.two 9 10 _ _ _ _ _ _ (.inl rfl) (.inl rfl) (by decide) rfl rfl
    have hhi := (hm.one 4 _ _ _ rfl).2
    obtain ⟨hlo, SS, hSS, x_0, x_1, T_0, T_1, he, oo_0, oo_1, ss_0, ss_1, dd_01⟩ := (hm.one 4 _ _ _ rfl).1
    simp only [Value.agg.injEq, Value.tuple.injEq, Array.mk.injEq, List.cons.injEq, and_true, true_and] at he
    obtain ⟨rfl, rfl⟩ := he
    have hBE := E.h
    clear hm
    obtain ⟨EW, hEW⟩ : ∃ X, X = E.w := ⟨_, rfl⟩
    rw [← hEW] at bx_0 bx_1 hhi oo_0 oo_1 hBE ⊢
    clear hEW E
    go_wp2_with fail
    go_meet
    exact ⟨_, _, _, _, T_0, T_1, rfl, rfl, rfl, bx_0.1, bg_0, bx_1.1, bg_1, (by omega), oo_0, oo_1, (fun b hb => by have y := hSS b (ss_0 b hb); exact ⟨⟨by omega, by omega⟩, by omega, by omega⟩), (fun b hb => by have y := hSS b (ss_1 b hb); exact ⟨⟨by omega, by omega⟩, by omega, by omega⟩), dd_01, (driveB hb_aS), hBE⟩
  clear y19 y20 y22 y23 y24 mk1 mk2
  obtain ⟨Be15_0, Be15_1, ue15_00, ue15_01, Se15_00, Se15_01, rfl, rfl, rfl, bxe15_0, bge15_0, bxe15_1, bge15_1, nee15_0, oe15_00, oe15_01, re15_00, re15_01, dje15_01, hbe15_0, b26⟩ := hcut
  obtain ⟨w25, hwe15⟩ : ∃ X, X = wc := ⟨_, rfl⟩
  rw [← hwe15] at bxe15_0 bxe15_1 oe15_00 oe15_01 re15_00 re15_01 b26 ⊢
  clear hwe15
  clear wc
  have t27 := Below.trans t8 (Below.mono b26 zb0)
  replace bx_aS := Box.below bx_aS b26
  replace bx_aF := Box.below bx_aF b26
  have z28 := Below.size b26
  replace zb0 : W2.heap.size ≤ w25.heap.size := by omega
  obtain ⟨a29, m30, c31, rfl⟩ := ownL_shape oe15_00
  have hs16 := fun q hq => (re15_00 q hq).1.2
  obtain ⟨a32, m33, c34, rfl⟩ := ownL_shape oe15_01
  have hs17 := fun q hq => (re15_01 q hq).1.2
  have lte15_0 := bxe15_0.1
  have oe15_00 := ownL.rds oe15_00
  have oe15_01 := ownL.rds oe15_01
  have lte15_1 := bxe15_1.1
  have s35 : Below w25.heap.size w25 w25 := Below.refl _ _
  have za0 : w25.heap.size ≤ w25.heap.size := Nat.le_refl _
  have k36 : w25.cell? ⟨w.heap.size, 0, none⟩ = some ((Value.slice a_aS0 d_aS.heads_.length c_aS0)) := bx_aS.2 0 (by simp)
  have k37 : w25.cell? ⟨w.heap.size, 1, none⟩ = some ((Value.slice a_aS1 d_aS.descs_.length c_aS1)) := bx_aS.2 1 (by simp)
  have k38 : w25.cell? ⟨w.heap.size + 1, 0, none⟩ = some (Value.int .i64 d_aF.desc_) := bx_aF.2 0 (by simp)
  have k39 : w25.cell? ⟨w.heap.size + 1, 1, none⟩ = some (Value.int .i64 d_aF.phase_) := bx_aF.2 1 (by simp)
  have k40 : w25.cell? ⟨w.heap.size + 1, 2, none⟩ = some (Value.int .i64 d_aF.at_) := bx_aF.2 2 (by simp)
  have k41 : w25.cell? ⟨Be15_0, 0, none⟩ = some ((Value.slice a29 m30 c31)) := bxe15_0.2 0 (by simp)
  have k42 : w25.cell? ⟨Be15_0, 1, none⟩ = some ((Value.slice a32 m33 c34)) := bxe15_0.2 1 (by simp)
  have k43 : w25.cell? ⟨Be15_1, 0, none⟩ = some (Value.int .i64 (driveF d_aS d_aF).desc_) := bxe15_1.2 0 (by simp)
  have k44 : w25.cell? ⟨Be15_1, 1, none⟩ = some (Value.int .i64 (driveF d_aS d_aF).phase_) := bxe15_1.2 1 (by simp)
  have k45 : w25.cell? ⟨Be15_1, 2, none⟩ = some (Value.int .i64 (driveF d_aS d_aF).at_) := bxe15_1.2 2 (by simp)
  go_wp2_with fail
  clear k36 k37 k38 k39 k40 k41 k42 k43 k44 k45
  refine (toStore_o d_aS (Value.slice a_aS0 d_aS.heads_.length c_aS0) (Value.slice a_aS1 d_aS.descs_.length c_aS1) _ (rdsL.below h_aS0 t27) (rdsL.below h_aS1 t27) hb_aS).mono ?_
  rintro e w46 ⟨u48, u53, S49, S54, rfl, o50, o55, r51, r56, dj58, b47⟩
  have t59 := Below.trans t27 (Below.mono b47 zb0)
  have s60 := Below.trans s35 (Below.mono b47 za0)
  replace bx_aS := Box.below bx_aS b47
  replace bx_aF := Box.below bx_aF b47
  replace bxe15_0 := Box.below bxe15_0 b47
  replace bxe15_1 := Box.below bxe15_1 b47
  have z61 := Below.size b47
  replace zb0 : W2.heap.size ≤ w46.heap.size := by omega
  replace za0 : w25.heap.size ≤ w46.heap.size := by omega
  obtain ⟨a62, m63, c64, rfl⟩ := ownL_shape o50
  have hs52 := fun q hq => (r51 q hq).2
  obtain ⟨a65, m66, c67, rfl⟩ := ownL_shape o55
  have hs57 := fun q hq => (r56 q hq).2
  have k68 : w46.cell? ⟨w.heap.size, 0, none⟩ = some ((Value.slice a_aS0 d_aS.heads_.length c_aS0)) := bx_aS.2 0 (by simp)
  have k69 : w46.cell? ⟨w.heap.size, 1, none⟩ = some ((Value.slice a_aS1 d_aS.descs_.length c_aS1)) := bx_aS.2 1 (by simp)
  have k70 : w46.cell? ⟨w.heap.size + 1, 0, none⟩ = some (Value.int .i64 d_aF.desc_) := bx_aF.2 0 (by simp)
  have k71 : w46.cell? ⟨w.heap.size + 1, 1, none⟩ = some (Value.int .i64 d_aF.phase_) := bx_aF.2 1 (by simp)
  have k72 : w46.cell? ⟨w.heap.size + 1, 2, none⟩ = some (Value.int .i64 d_aF.at_) := bx_aF.2 2 (by simp)
  have k73 : w46.cell? ⟨Be15_0, 0, none⟩ = some ((Value.slice a29 m30 c31)) := bxe15_0.2 0 (by simp)
  have k74 : w46.cell? ⟨Be15_0, 1, none⟩ = some ((Value.slice a32 m33 c34)) := bxe15_0.2 1 (by simp)
  have k75 : w46.cell? ⟨Be15_1, 0, none⟩ = some (Value.int .i64 (driveF d_aS d_aF).desc_) := bxe15_1.2 0 (by simp)
  have k76 : w46.cell? ⟨Be15_1, 1, none⟩ = some (Value.int .i64 (driveF d_aS d_aF).phase_) := bxe15_1.2 1 (by simp)
  have k77 : w46.cell? ⟨Be15_1, 2, none⟩ = some (Value.int .i64 (driveF d_aS d_aF).at_) := bxe15_1.2 2 (by simp)
  obtain ⟨X78, hX79⟩ : ∃ X, w46.alloc (.cells #[(Value.slice a62 m63 c64), (Value.slice a65 m66 c67)] 32) = X := ⟨_, rfl⟩
  have bX80 : Below w46.heap.size w46 X78 := by rw [← hX79]; exact (Below.refl _ _).alloc (Nat.le_refl _) _
  have zX78 : X78.heap.size = w46.heap.size + 1 := by rw [← hX79]; simp
  have t81 := Below.trans t59 (Below.mono bX80 zb0)
  have s82 := Below.trans s60 (Below.mono bX80 za0)
  replace o50 := ownL.keep o50 (fun q hq => Below.block bX80 q (hs52 q hq))
  replace hs52 := fun q hq => Nat.lt_of_lt_of_le (hs52 q hq) (Below.size bX80)
  replace o55 := ownL.keep o55 (fun q hq => Below.block bX80 q (hs57 q hq))
  replace hs57 := fun q hq => Nat.lt_of_lt_of_le (hs57 q hq) (Below.size bX80)
  replace bx_aS := Box.below bx_aS bX80
  replace bx_aF := Box.below bx_aF bX80
  replace bxe15_0 := Box.below bxe15_0 bX80
  replace bxe15_1 := Box.below bxe15_1 bX80
  have z83 := Below.size bX80
  replace zb0 : W2.heap.size ≤ X78.heap.size := by omega
  replace za0 : w25.heap.size ≤ X78.heap.size := by omega
  have bx84 : Box X78 (w46.heap.size) [(Value.slice a62 m63 c64), (Value.slice a65 m66 c67)] := by rw [← hX79]; exact Box.alloc _ _ _
  have k85 : X78.cell? ⟨w.heap.size, 0, none⟩ = some ((Value.slice a_aS0 d_aS.heads_.length c_aS0)) := bx_aS.2 0 (by simp)
  have k86 : X78.cell? ⟨w.heap.size, 1, none⟩ = some ((Value.slice a_aS1 d_aS.descs_.length c_aS1)) := bx_aS.2 1 (by simp)
  have k87 : X78.cell? ⟨w.heap.size + 1, 0, none⟩ = some (Value.int .i64 d_aF.desc_) := bx_aF.2 0 (by simp)
  have k88 : X78.cell? ⟨w.heap.size + 1, 1, none⟩ = some (Value.int .i64 d_aF.phase_) := bx_aF.2 1 (by simp)
  have k89 : X78.cell? ⟨w.heap.size + 1, 2, none⟩ = some (Value.int .i64 d_aF.at_) := bx_aF.2 2 (by simp)
  have k90 : X78.cell? ⟨Be15_0, 0, none⟩ = some ((Value.slice a29 m30 c31)) := bxe15_0.2 0 (by simp)
  have k91 : X78.cell? ⟨Be15_0, 1, none⟩ = some ((Value.slice a32 m33 c34)) := bxe15_0.2 1 (by simp)
  have k92 : X78.cell? ⟨Be15_1, 0, none⟩ = some (Value.int .i64 (driveF d_aS d_aF).desc_) := bxe15_1.2 0 (by simp)
  have k93 : X78.cell? ⟨Be15_1, 1, none⟩ = some (Value.int .i64 (driveF d_aS d_aF).phase_) := bxe15_1.2 1 (by simp)
  have k94 : X78.cell? ⟨Be15_1, 2, none⟩ = some (Value.int .i64 (driveF d_aS d_aF).at_) := bxe15_1.2 2 (by simp)
  have k95 : X78.cell? ⟨w46.heap.size, 0, none⟩ = some ((Value.slice a62 m63 c64)) := bx84.2 0 (by simp)
  have k96 : X78.cell? ⟨w46.heap.size, 1, none⟩ = some ((Value.slice a65 m66 c67)) := bx84.2 1 (by simp)
  go_upto_region 7 with fail
  clear k68 k69 k70 k71 k72 k73 k74 k75 k76 k77 k85 k86 k87 k88 k89 k90 k91 k92 k93 k94 k95 k96 hX79
  have lt100 := (bx_aS).1
  have y101 : ∀ e : Ext X78, e.w.cell? ⟨w.heap.size, 0, none⟩ = some ((Value.slice a_aS0 d_aS.heads_.length c_aS0)) := Ext.cell lt100 (bx_aS.2 0 (by simp))
  have y102 : ∀ e : Ext X78, e.w.cell? ⟨w.heap.size, 1, none⟩ = some ((Value.slice a_aS1 d_aS.descs_.length c_aS1)) := Ext.cell lt100 (bx_aS.2 1 (by simp))
  have lt103 := (bx_aF).1
  have y104 : ∀ e : Ext X78, e.w.cell? ⟨w.heap.size + 1, 0, none⟩ = some (Value.int .i64 d_aF.desc_) := Ext.cell lt103 (bx_aF.2 0 (by simp))
  have y105 : ∀ e : Ext X78, e.w.cell? ⟨w.heap.size + 1, 1, none⟩ = some (Value.int .i64 d_aF.phase_) := Ext.cell lt103 (bx_aF.2 1 (by simp))
  have y106 : ∀ e : Ext X78, e.w.cell? ⟨w.heap.size + 1, 2, none⟩ = some (Value.int .i64 d_aF.at_) := Ext.cell lt103 (bx_aF.2 2 (by simp))
  have lt107 := (bxe15_0).1
  have y108 : ∀ e : Ext X78, e.w.cell? ⟨Be15_0, 0, none⟩ = some ((Value.slice a29 m30 c31)) := Ext.cell lt107 (bxe15_0.2 0 (by simp))
  have y109 : ∀ e : Ext X78, e.w.cell? ⟨Be15_0, 1, none⟩ = some ((Value.slice a32 m33 c34)) := Ext.cell lt107 (bxe15_0.2 1 (by simp))
  have lt110 := (bxe15_1).1
  have y111 : ∀ e : Ext X78, e.w.cell? ⟨Be15_1, 0, none⟩ = some (Value.int .i64 (driveF d_aS d_aF).desc_) := Ext.cell lt110 (bxe15_1.2 0 (by simp))
  have y112 : ∀ e : Ext X78, e.w.cell? ⟨Be15_1, 1, none⟩ = some (Value.int .i64 (driveF d_aS d_aF).phase_) := Ext.cell lt110 (bxe15_1.2 1 (by simp))
  have y113 : ∀ e : Ext X78, e.w.cell? ⟨Be15_1, 2, none⟩ = some (Value.int .i64 (driveF d_aS d_aF).at_) := Ext.cell lt110 (bxe15_1.2 2 (by simp))
  have lt114 := (bx84).1
  have y115 : ∀ e : Ext X78, e.w.cell? ⟨w46.heap.size, 0, none⟩ = some ((Value.slice a62 m63 c64)) := Ext.cell lt114 (bx84.2 0 (by simp))
  have y116 : ∀ e : Ext X78, e.w.cell? ⟨w46.heap.size, 1, none⟩ = some ((Value.slice a65 m66 c67)) := Ext.cell lt114 (bx84.2 1 (by simp))
  have mk1 : ∀ (P : Program) (o : Oper) (a : Act) (w : World) (v : Value), Oper.plainAt P o a w v = Oper.plainUpon w v ((execOp a.eval o).run P w) := fun _ _ _ _ _ => rfl
  have mk2 : ∀ (w w' : World) (v u : Value), Oper.plainUpon w v (.ok (.value u) w') = (w' = w ∧ u = v) := fun _ _ _ _ => rfl
  go_cut [10, 11, 12] from 19 (fun p10 p11 p12 wx => ∃ (Be97_0 : Nat) (Be97_1 : Nat) (ue97_00 ue97_01 : Value) (Se97_00 Se97_01 : Nat → Prop), p10 = Value.pointer (some ⟨Be97_0, 0, none⟩) ∧ p11 = Value.pointer (some ⟨Be97_1, 0, none⟩) ∧ p12 = (.int .i64 (driveN d_aS d_aF)) ∧ Box wx Be97_0 [ue97_00, ue97_01] ∧ X78.heap.size ≤ Be97_0 ∧ Box wx Be97_1 [Value.int .i64 (driveF d_aS d_aF).desc_, Value.int .i64 (driveF d_aS d_aF).phase_, Value.int .i64 (driveF d_aS d_aF).at_] ∧ X78.heap.size ≤ Be97_1 ∧ Be97_0 ≠ Be97_1 ∧ ownL Se97_00 wx ue97_00 (driveD d_aS d_aF).heads_ ∧ ownL Se97_01 wx ue97_01 (driveD d_aS d_aF).descs_ ∧ (∀ b, Se97_00 b → Rg X78.heap.size wx.heap.size b ∧ b ≠ Be97_0 ∧ b ≠ Be97_1) ∧ (∀ b, Se97_01 b → Rg X78.heap.size wx.heap.size b ∧ b ≠ Be97_0 ∧ b ≠ Be97_1) ∧ (∀ b, Se97_00 b → ¬ Se97_01 b) ∧ StoreB (driveD d_aS d_aF) ∧ Below X78.heap.size X78 wx)
  case first =>
    refine Go.wp_region_rel [Rel.none, Rel.none, Rel.val (.agg #[.int .i64 d_aF.desc_, .int .i64 d_aF.phase_, .int .i64 d_aF.at_]), Rel.g2 X78.heap.size (fun u0 u1 => .tuple #[(.agg #[u0, u1]), (.agg #[.int .i64 (driveF d_aS d_aF).desc_, .int .i64 (driveF d_aS d_aF).phase_, .int .i64 (driveF d_aS d_aF).at_]), .int .i64 (driveN d_aS d_aF)]) (driveD d_aS d_aF).heads_ (driveD d_aS d_aF).descs_, Rel.none, Rel.none, Rel.none, Rel.none, Rel.box X78.heap.size 2, Rel.box X78.heap.size 3, Rel.wrote, Rel.wrote, Rel.none] [[], [], [], [2], [], [], [], [], [], [], [8], [9], []] [.plain, .plain, .make, .make, .plain, .plain, .plain, .plain, .make, .make, .write 8, .write 9, .plain] (by kernel_rfl) (by kernel_rfl) (by kernel_rfl) (by kernel_rfl) (by kernel_rfl) ?_
    (refine Go.wpR_plain (Go.clsExt _) rfl rfl (fun K hK => ?_); go_simp; refine hK _ ?_; clear hK K)
    (refine Go.wpR_plain (Go.clsExt _) rfl rfl (fun K hK => ?_); go_simp; refine hK _ ?_; clear hK K)
    refine Go.wpR_call (Go.clsExt _) 13 #[(.agg #[.int .i64 d_aF.desc_, .int .i64 d_aF.phase_, .int .i64 d_aF.at_])] (Rel.val (.agg #[.int .i64 d_aF.desc_, .int .i64 d_aF.phase_, .int .i64 d_aF.at_])) rfl rfl rfl rfl (fun w => by go_simp) (fun w9 hC hE => ?_) ?_
    · obtain ⟨E, rfl⟩ := hC; refine (toFrame_c d_aF _).mono ?_; rintro e w2 ⟨rfl, b⟩; exact ⟨_, rfl, b, rfl, trivial⟩
    rintro _ lo2 hi2 rfl
    refine Go.wpR_call (Go.clsExt _) 14 #[(.agg #[(Value.slice a62 m63 c64), (Value.slice a65 m66 c67)]), (.agg #[.int .i64 d_aF.desc_, .int .i64 d_aF.phase_, .int .i64 d_aF.at_])] (Rel.g2 X78.heap.size (fun u0 u1 => .tuple #[(.agg #[u0, u1]), (.agg #[.int .i64 (driveF d_aS d_aF).desc_, .int .i64 (driveF d_aS d_aF).phase_, .int .i64 (driveF d_aS d_aF).at_]), .int .i64 (driveN d_aS d_aF)]) (driveD d_aS d_aF).heads_ (driveD d_aS d_aF).descs_) rfl rfl rfl rfl (fun w => by go_simp) (fun w9 hC hE => ?_) ?_
    · obtain ⟨E, rfl⟩ := hC; refine (impl_DriveW d_aS (Value.slice a62 m63 c64) (Value.slice a65 m66 c67) d_aF _ (rdsL.below (ownL.rds o50) E.h) (rdsL.below (ownL.rds o55) E.h) hb_aS).mono ?_
      rintro e w2 ⟨u0, u1, S0, S1, rfl, o0, o1, r0, r1, dj01, -, b⟩; exact ⟨_, rfl, b, Rel.g2_of E.size o0 o1 r0 r1 dj01⟩
    rintro _ lo3 hi3 ⟨a3_0, m3_0, c3_0, a3_1, m3_1, c3_1, rfl⟩
    (refine Go.wpR_plain (Go.clsExt _) rfl rfl (fun K hK => ?_); go_simp; refine hK _ ?_; clear hK K)
    (refine Go.wpR_plain (Go.clsExt _) rfl rfl (fun K hK => ?_); go_simp; refine hK _ ?_; clear hK K)
    (refine Go.wpR_plain (Go.clsExt _) rfl rfl (fun K hK => ?_); go_simp; refine hK _ ?_; clear hK K)
    (refine Go.wpR_plain (Go.clsExt _) rfl rfl (fun K hK => ?_); go_simp; refine hK _ ?_; clear hK K)
    refine Go.wpR_box (Go.clsExt _) 2 #[Value.slice none 0 0, Value.slice none 0 0] 32 rfl rfl rfl rfl rfl (fun w => by go_simp) (fun lo8 => ?_)
    refine Go.wpR_box (Go.clsExt _) 3 #[.int .i64 0, .int .i64 0, .int .i64 0] 33 rfl rfl rfl rfl rfl (fun w => by go_simp) (fun lo9 => ?_)
    refine Go.wpR_store (Go.clsExt _) 8 2 lo8 _ (.agg #[(Value.slice a3_0 m3_0 c3_0), (Value.slice a3_1 m3_1 c3_1)]) [(Value.slice a3_0 m3_0 c3_0), (Value.slice a3_1 m3_1 c3_1)] rfl rfl rfl (by decide) rfl (by first | rfl | (simp [Go.Oper.stored]; go_simp)) (fun w h => Go.wrote_r h) (fun w cs0 hn hB => ⟨_, (by obtain ⟨z0, z1, kz0, kz1, fz0, fz1⟩ := box_any2 hn hB; go_simp), boxset2 hn hB _ _⟩) rfl ?_
    refine Go.wpR_store (Go.clsExt _) 9 3 lo9 _ (.agg #[Value.int .i64 (driveF d_aS d_aF).desc_, Value.int .i64 (driveF d_aS d_aF).phase_, Value.int .i64 (driveF d_aS d_aF).at_]) [Value.int .i64 (driveF d_aS d_aF).desc_, Value.int .i64 (driveF d_aS d_aF).phase_, Value.int .i64 (driveF d_aS d_aF).at_] rfl rfl rfl (by decide) rfl (by first | rfl | (simp [Go.Oper.stored]; go_simp)) (fun w h => Go.wrote_r h) (fun w cs0 hn hB => ⟨_, (by obtain ⟨z0, z1, z2, kz0, kz1, kz2, fz0, fz1, fz2⟩ := box_any3 hn hB; go_simp), boxset3 hn hB _ _ _⟩) rfl ?_
    (refine Go.wpR_plain (Go.clsExt _) rfl rfl (fun K hK => ?_); go_simp; refine hK _ ?_; clear hK K)
    refine Go.wpR_nil ?_
    intro E hm
    clear y101 y102 y104 y105 y106 y108 y109 y111 y112 y113 y115 y116 mk1 mk2
    have bx_0 := (hm.one 10 _ _ _ rfl).1.2 _ rfl
    have bg_0 := (hm.one 8 _ _ _ rfl).1.1
    have tw_0 := hm.two 8 3 _ _ _ _ _ _ (.inl rfl) (.inl rfl) (by decide) rfl rfl
    have bx_1 := (hm.one 11 _ _ _ rfl).1.2 _ rfl
    have bg_1 := (hm.one 9 _ _ _ rfl).1.1
    have tw_1 := hm.two 9 3 _ _ _ _ _ _ (.inl rfl) (.inl rfl) (by decide) rfl rfl
    have tn_0_1 := hm.two 8 9 _ _ _ _ _ _ (.inl rfl) (.inl rfl) (by decide) rfl rfl
    have hhi := (hm.one 3 _ _ _ rfl).2
    obtain ⟨hlo, SS, hSS, x_0, x_1, T_0, T_1, he, oo_0, oo_1, ss_0, ss_1, dd_01⟩ := (hm.one 3 _ _ _ rfl).1
    simp only [Value.agg.injEq, Value.tuple.injEq, Array.mk.injEq, List.cons.injEq, and_true, true_and] at he
    obtain ⟨rfl, rfl⟩ := he
    have hBE := E.h
    clear hm
    obtain ⟨EW, hEW⟩ : ∃ X, X = E.w := ⟨_, rfl⟩
    rw [← hEW] at bx_0 bx_1 hhi oo_0 oo_1 hBE ⊢
    clear hEW E
    go_wp2_with fail
    go_meet
    exact ⟨_, _, _, _, T_0, T_1, rfl, rfl, rfl, bx_0.1, bg_0, bx_1.1, bg_1, (by omega), oo_0, oo_1, (fun b hb => by have y := hSS b (ss_0 b hb); exact ⟨⟨by omega, by omega⟩, by omega, by omega⟩), (fun b hb => by have y := hSS b (ss_1 b hb); exact ⟨⟨by omega, by omega⟩, by omega, by omega⟩), dd_01, (driveB hb_aS), hBE⟩
  clear y101 y102 y104 y105 y106 y108 y109 y111 y112 y113 y115 y116 mk1 mk2
  obtain ⟨Be97_0, Be97_1, ue97_00, ue97_01, Se97_00, Se97_01, rfl, rfl, rfl, bxe97_0, bge97_0, bxe97_1, bge97_1, nee97_0, oe97_00, oe97_01, re97_00, re97_01, dje97_01, hbe97_0, b118⟩ := hcut
  obtain ⟨w117, hwe97⟩ : ∃ X, X = wc := ⟨_, rfl⟩
  rw [← hwe97] at bxe97_0 bxe97_1 oe97_00 oe97_01 re97_00 re97_01 b118 ⊢
  clear hwe97
  clear wc
  have t119 := Below.trans t81 (Below.mono b118 zb0)
  have s120 := Below.trans s82 (Below.mono b118 za0)
  replace o50 := ownL.keep o50 (fun q hq => Below.block b118 q (hs52 q hq))
  replace hs52 := fun q hq => Nat.lt_of_lt_of_le (hs52 q hq) (Below.size b118)
  replace o55 := ownL.keep o55 (fun q hq => Below.block b118 q (hs57 q hq))
  replace hs57 := fun q hq => Nat.lt_of_lt_of_le (hs57 q hq) (Below.size b118)
  replace bx_aS := Box.below bx_aS b118
  replace bx_aF := Box.below bx_aF b118
  replace bxe15_0 := Box.below bxe15_0 b118
  replace bxe15_1 := Box.below bxe15_1 b118
  replace bx84 := Box.below bx84 b118
  have z121 := Below.size b118
  replace zb0 : W2.heap.size ≤ w117.heap.size := by omega
  replace za0 : w25.heap.size ≤ w117.heap.size := by omega
  obtain ⟨a122, m123, c124, rfl⟩ := ownL_shape oe97_00
  have hs98 := fun q hq => (re97_00 q hq).1.2
  obtain ⟨a125, m126, c127, rfl⟩ := ownL_shape oe97_01
  have hs99 := fun q hq => (re97_01 q hq).1.2
  have lte97_0 := bxe97_0.1
  have lte97_1 := bxe97_1.1
  have k128 : w117.cell? ⟨w.heap.size, 0, none⟩ = some ((Value.slice a_aS0 d_aS.heads_.length c_aS0)) := bx_aS.2 0 (by simp)
  have k129 : w117.cell? ⟨w.heap.size, 1, none⟩ = some ((Value.slice a_aS1 d_aS.descs_.length c_aS1)) := bx_aS.2 1 (by simp)
  have k130 : w117.cell? ⟨w.heap.size + 1, 0, none⟩ = some (Value.int .i64 d_aF.desc_) := bx_aF.2 0 (by simp)
  have k131 : w117.cell? ⟨w.heap.size + 1, 1, none⟩ = some (Value.int .i64 d_aF.phase_) := bx_aF.2 1 (by simp)
  have k132 : w117.cell? ⟨w.heap.size + 1, 2, none⟩ = some (Value.int .i64 d_aF.at_) := bx_aF.2 2 (by simp)
  have k133 : w117.cell? ⟨Be15_0, 0, none⟩ = some ((Value.slice a29 m30 c31)) := bxe15_0.2 0 (by simp)
  have k134 : w117.cell? ⟨Be15_0, 1, none⟩ = some ((Value.slice a32 m33 c34)) := bxe15_0.2 1 (by simp)
  have k135 : w117.cell? ⟨Be15_1, 0, none⟩ = some (Value.int .i64 (driveF d_aS d_aF).desc_) := bxe15_1.2 0 (by simp)
  have k136 : w117.cell? ⟨Be15_1, 1, none⟩ = some (Value.int .i64 (driveF d_aS d_aF).phase_) := bxe15_1.2 1 (by simp)
  have k137 : w117.cell? ⟨Be15_1, 2, none⟩ = some (Value.int .i64 (driveF d_aS d_aF).at_) := bxe15_1.2 2 (by simp)
  have k138 : w117.cell? ⟨w46.heap.size, 0, none⟩ = some ((Value.slice a62 m63 c64)) := bx84.2 0 (by simp)
  have k139 : w117.cell? ⟨w46.heap.size, 1, none⟩ = some ((Value.slice a65 m66 c67)) := bx84.2 1 (by simp)
  have k140 : w117.cell? ⟨Be97_0, 0, none⟩ = some ((Value.slice a122 m123 c124)) := bxe97_0.2 0 (by simp)
  have k141 : w117.cell? ⟨Be97_0, 1, none⟩ = some ((Value.slice a125 m126 c127)) := bxe97_0.2 1 (by simp)
  have k142 : w117.cell? ⟨Be97_1, 0, none⟩ = some (Value.int .i64 (driveF d_aS d_aF).desc_) := bxe97_1.2 0 (by simp)
  have k143 : w117.cell? ⟨Be97_1, 1, none⟩ = some (Value.int .i64 (driveF d_aS d_aF).phase_) := bxe97_1.2 1 (by simp)
  have k144 : w117.cell? ⟨Be97_1, 2, none⟩ = some (Value.int .i64 (driveF d_aS d_aF).at_) := bxe97_1.2 2 (by simp)
  go_wp2_with fail
  clear k128 k129 k130 k131 k132 k133 k134 k135 k136 k137 k138 k139 k140 k141 k142 k143 k144
  refine (eqStore_o _ _ _ _ _ _ (ownL.rds oe97_00) (ownL.rds oe97_01) (rdsL.below oe15_00 s120) (rdsL.below oe15_01 s120)).mono ?_
  rintro e w145 ⟨rfl, b146⟩
  have t147 := Below.trans t119 (Below.mono b146 zb0)
  have s148 := Below.trans s120 (Below.mono b146 za0)
  replace o50 := ownL.keep o50 (fun q hq => Below.block b146 q (hs52 q hq))
  replace hs52 := fun q hq => Nat.lt_of_lt_of_le (hs52 q hq) (Below.size b146)
  replace o55 := ownL.keep o55 (fun q hq => Below.block b146 q (hs57 q hq))
  replace hs57 := fun q hq => Nat.lt_of_lt_of_le (hs57 q hq) (Below.size b146)
  replace oe97_00 := ownL.keep oe97_00 (fun q hq => Below.block b146 q (hs98 q hq))
  replace hs98 := fun q hq => Nat.lt_of_lt_of_le (hs98 q hq) (Below.size b146)
  replace oe97_01 := ownL.keep oe97_01 (fun q hq => Below.block b146 q (hs99 q hq))
  replace hs99 := fun q hq => Nat.lt_of_lt_of_le (hs99 q hq) (Below.size b146)
  replace bx_aS := Box.below bx_aS b146
  replace bx_aF := Box.below bx_aF b146
  replace bxe15_0 := Box.below bxe15_0 b146
  replace bxe15_1 := Box.below bxe15_1 b146
  replace bx84 := Box.below bx84 b146
  replace bxe97_0 := Box.below bxe97_0 b146
  replace bxe97_1 := Box.below bxe97_1 b146
  have z149 := Below.size b146
  replace zb0 : W2.heap.size ≤ w145.heap.size := by omega
  replace za0 : w25.heap.size ≤ w145.heap.size := by omega
  have k150 : w145.cell? ⟨w.heap.size, 0, none⟩ = some ((Value.slice a_aS0 d_aS.heads_.length c_aS0)) := bx_aS.2 0 (by simp)
  have k151 : w145.cell? ⟨w.heap.size, 1, none⟩ = some ((Value.slice a_aS1 d_aS.descs_.length c_aS1)) := bx_aS.2 1 (by simp)
  have k152 : w145.cell? ⟨w.heap.size + 1, 0, none⟩ = some (Value.int .i64 d_aF.desc_) := bx_aF.2 0 (by simp)
  have k153 : w145.cell? ⟨w.heap.size + 1, 1, none⟩ = some (Value.int .i64 d_aF.phase_) := bx_aF.2 1 (by simp)
  have k154 : w145.cell? ⟨w.heap.size + 1, 2, none⟩ = some (Value.int .i64 d_aF.at_) := bx_aF.2 2 (by simp)
  have k155 : w145.cell? ⟨Be15_0, 0, none⟩ = some ((Value.slice a29 m30 c31)) := bxe15_0.2 0 (by simp)
  have k156 : w145.cell? ⟨Be15_0, 1, none⟩ = some ((Value.slice a32 m33 c34)) := bxe15_0.2 1 (by simp)
  have k157 : w145.cell? ⟨Be15_1, 0, none⟩ = some (Value.int .i64 (driveF d_aS d_aF).desc_) := bxe15_1.2 0 (by simp)
  have k158 : w145.cell? ⟨Be15_1, 1, none⟩ = some (Value.int .i64 (driveF d_aS d_aF).phase_) := bxe15_1.2 1 (by simp)
  have k159 : w145.cell? ⟨Be15_1, 2, none⟩ = some (Value.int .i64 (driveF d_aS d_aF).at_) := bxe15_1.2 2 (by simp)
  have k160 : w145.cell? ⟨w46.heap.size, 0, none⟩ = some ((Value.slice a62 m63 c64)) := bx84.2 0 (by simp)
  have k161 : w145.cell? ⟨w46.heap.size, 1, none⟩ = some ((Value.slice a65 m66 c67)) := bx84.2 1 (by simp)
  have k162 : w145.cell? ⟨Be97_0, 0, none⟩ = some ((Value.slice a122 m123 c124)) := bxe97_0.2 0 (by simp)
  have k163 : w145.cell? ⟨Be97_0, 1, none⟩ = some ((Value.slice a125 m126 c127)) := bxe97_0.2 1 (by simp)
  have k164 : w145.cell? ⟨Be97_1, 0, none⟩ = some (Value.int .i64 (driveF d_aS d_aF).desc_) := bxe97_1.2 0 (by simp)
  have k165 : w145.cell? ⟨Be97_1, 1, none⟩ = some (Value.int .i64 (driveF d_aS d_aF).phase_) := bxe97_1.2 1 (by simp)
  have k166 : w145.cell? ⟨Be97_1, 2, none⟩ = some (Value.int .i64 (driveF d_aS d_aF).at_) := bxe97_1.2 2 (by simp)
  go_wp2_with fail
  clear k150 k151 k152 k153 k154 k155 k156 k157 k158 k159 k160 k161 k162 k163 k164 k165 k166
  refine (eqFrame_c (driveF d_aS d_aF) _).mono ?_
  rintro e w167 ⟨rfl, b168⟩
  have t169 := Below.trans t147 (Below.mono b168 zb0)
  have s170 := Below.trans s148 (Below.mono b168 za0)
  replace o50 := ownL.keep o50 (fun q hq => Below.block b168 q (hs52 q hq))
  replace hs52 := fun q hq => Nat.lt_of_lt_of_le (hs52 q hq) (Below.size b168)
  replace o55 := ownL.keep o55 (fun q hq => Below.block b168 q (hs57 q hq))
  replace hs57 := fun q hq => Nat.lt_of_lt_of_le (hs57 q hq) (Below.size b168)
  replace oe97_00 := ownL.keep oe97_00 (fun q hq => Below.block b168 q (hs98 q hq))
  replace hs98 := fun q hq => Nat.lt_of_lt_of_le (hs98 q hq) (Below.size b168)
  replace oe97_01 := ownL.keep oe97_01 (fun q hq => Below.block b168 q (hs99 q hq))
  replace hs99 := fun q hq => Nat.lt_of_lt_of_le (hs99 q hq) (Below.size b168)
  replace bx_aS := Box.below bx_aS b168
  replace bx_aF := Box.below bx_aF b168
  replace bxe15_0 := Box.below bxe15_0 b168
  replace bxe15_1 := Box.below bxe15_1 b168
  replace bx84 := Box.below bx84 b168
  replace bxe97_0 := Box.below bxe97_0 b168
  replace bxe97_1 := Box.below bxe97_1 b168
  have z171 := Below.size b168
  replace zb0 : W2.heap.size ≤ w167.heap.size := by omega
  replace za0 : w25.heap.size ≤ w167.heap.size := by omega
  have k172 : w167.cell? ⟨w.heap.size, 0, none⟩ = some ((Value.slice a_aS0 d_aS.heads_.length c_aS0)) := bx_aS.2 0 (by simp)
  have k173 : w167.cell? ⟨w.heap.size, 1, none⟩ = some ((Value.slice a_aS1 d_aS.descs_.length c_aS1)) := bx_aS.2 1 (by simp)
  have k174 : w167.cell? ⟨w.heap.size + 1, 0, none⟩ = some (Value.int .i64 d_aF.desc_) := bx_aF.2 0 (by simp)
  have k175 : w167.cell? ⟨w.heap.size + 1, 1, none⟩ = some (Value.int .i64 d_aF.phase_) := bx_aF.2 1 (by simp)
  have k176 : w167.cell? ⟨w.heap.size + 1, 2, none⟩ = some (Value.int .i64 d_aF.at_) := bx_aF.2 2 (by simp)
  have k177 : w167.cell? ⟨Be15_0, 0, none⟩ = some ((Value.slice a29 m30 c31)) := bxe15_0.2 0 (by simp)
  have k178 : w167.cell? ⟨Be15_0, 1, none⟩ = some ((Value.slice a32 m33 c34)) := bxe15_0.2 1 (by simp)
  have k179 : w167.cell? ⟨Be15_1, 0, none⟩ = some (Value.int .i64 (driveF d_aS d_aF).desc_) := bxe15_1.2 0 (by simp)
  have k180 : w167.cell? ⟨Be15_1, 1, none⟩ = some (Value.int .i64 (driveF d_aS d_aF).phase_) := bxe15_1.2 1 (by simp)
  have k181 : w167.cell? ⟨Be15_1, 2, none⟩ = some (Value.int .i64 (driveF d_aS d_aF).at_) := bxe15_1.2 2 (by simp)
  have k182 : w167.cell? ⟨w46.heap.size, 0, none⟩ = some ((Value.slice a62 m63 c64)) := bx84.2 0 (by simp)
  have k183 : w167.cell? ⟨w46.heap.size, 1, none⟩ = some ((Value.slice a65 m66 c67)) := bx84.2 1 (by simp)
  have k184 : w167.cell? ⟨Be97_0, 0, none⟩ = some ((Value.slice a122 m123 c124)) := bxe97_0.2 0 (by simp)
  have k185 : w167.cell? ⟨Be97_0, 1, none⟩ = some ((Value.slice a125 m126 c127)) := bxe97_0.2 1 (by simp)
  have k186 : w167.cell? ⟨Be97_1, 0, none⟩ = some (Value.int .i64 (driveF d_aS d_aF).desc_) := bxe97_1.2 0 (by simp)
  have k187 : w167.cell? ⟨Be97_1, 1, none⟩ = some (Value.int .i64 (driveF d_aS d_aF).phase_) := bxe97_1.2 1 (by simp)
  have k188 : w167.cell? ⟨Be97_1, 2, none⟩ = some (Value.int .i64 (driveF d_aS d_aF).at_) := bxe97_1.2 2 (by simp)
  go_wp2_with fail
  clear k172 k173 k174 k175 k176 k177 k178 k179 k180 k181 k182 k183 k184 k185 k186 k187 k188
  have lt204 := (bx_aS).1
  have lt205 := (bx_aF).1
  have lt206 := (bxe15_0).1
  have lt207 := (bxe15_1).1
  have lt208 := (bx84).1
  have lt209 := (bxe97_0).1
  have lt210 := (bxe97_1).1
  have k211 : w167.cell? ⟨w.heap.size, 0, none⟩ = some ((Value.slice a_aS0 d_aS.heads_.length c_aS0)) := bx_aS.2 0 (by simp)
  have k212 : w167.cell? ⟨w.heap.size, 1, none⟩ = some ((Value.slice a_aS1 d_aS.descs_.length c_aS1)) := bx_aS.2 1 (by simp)
  have k213 : w167.cell? ⟨w.heap.size + 1, 0, none⟩ = some (Value.int .i64 d_aF.desc_) := bx_aF.2 0 (by simp)
  have k214 : w167.cell? ⟨w.heap.size + 1, 1, none⟩ = some (Value.int .i64 d_aF.phase_) := bx_aF.2 1 (by simp)
  have k215 : w167.cell? ⟨w.heap.size + 1, 2, none⟩ = some (Value.int .i64 d_aF.at_) := bx_aF.2 2 (by simp)
  have k216 : w167.cell? ⟨Be15_0, 0, none⟩ = some ((Value.slice a29 m30 c31)) := bxe15_0.2 0 (by simp)
  have k217 : w167.cell? ⟨Be15_0, 1, none⟩ = some ((Value.slice a32 m33 c34)) := bxe15_0.2 1 (by simp)
  have k218 : w167.cell? ⟨Be15_1, 0, none⟩ = some (Value.int .i64 (driveF d_aS d_aF).desc_) := bxe15_1.2 0 (by simp)
  have k219 : w167.cell? ⟨Be15_1, 1, none⟩ = some (Value.int .i64 (driveF d_aS d_aF).phase_) := bxe15_1.2 1 (by simp)
  have k220 : w167.cell? ⟨Be15_1, 2, none⟩ = some (Value.int .i64 (driveF d_aS d_aF).at_) := bxe15_1.2 2 (by simp)
  have k221 : w167.cell? ⟨w46.heap.size, 0, none⟩ = some ((Value.slice a62 m63 c64)) := bx84.2 0 (by simp)
  have k222 : w167.cell? ⟨w46.heap.size, 1, none⟩ = some ((Value.slice a65 m66 c67)) := bx84.2 1 (by simp)
  have k223 : w167.cell? ⟨Be97_0, 0, none⟩ = some ((Value.slice a122 m123 c124)) := bxe97_0.2 0 (by simp)
  have k224 : w167.cell? ⟨Be97_0, 1, none⟩ = some ((Value.slice a125 m126 c127)) := bxe97_0.2 1 (by simp)
  have k225 : w167.cell? ⟨Be97_1, 0, none⟩ = some (Value.int .i64 (driveF d_aS d_aF).desc_) := bxe97_1.2 0 (by simp)
  have k226 : w167.cell? ⟨Be97_1, 1, none⟩ = some (Value.int .i64 (driveF d_aS d_aF).phase_) := bxe97_1.2 1 (by simp)
  have k227 : w167.cell? ⟨Be97_1, 2, none⟩ = some (Value.int .i64 (driveF d_aS d_aF).at_) := bxe97_1.2 2 (by simp)
  go_region_held3 (fun w' => Below w167.heap.size w167 w' ∧ w167.heap.size ≤ w'.heap.size ∧ w'.cell? ⟨w.heap.size, 0, none⟩ = some ((Value.slice a_aS0 d_aS.heads_.length c_aS0)) ∧ w'.cell? ⟨w.heap.size, 1, none⟩ = some ((Value.slice a_aS1 d_aS.descs_.length c_aS1)) ∧ w'.cell? ⟨w.heap.size + 1, 0, none⟩ = some (Value.int .i64 d_aF.desc_) ∧ w'.cell? ⟨w.heap.size + 1, 1, none⟩ = some (Value.int .i64 d_aF.phase_) ∧ w'.cell? ⟨w.heap.size + 1, 2, none⟩ = some (Value.int .i64 d_aF.at_) ∧ w'.cell? ⟨Be15_0, 0, none⟩ = some ((Value.slice a29 m30 c31)) ∧ w'.cell? ⟨Be15_0, 1, none⟩ = some ((Value.slice a32 m33 c34)) ∧ w'.cell? ⟨Be15_1, 0, none⟩ = some (Value.int .i64 (driveF d_aS d_aF).desc_) ∧ w'.cell? ⟨Be15_1, 1, none⟩ = some (Value.int .i64 (driveF d_aS d_aF).phase_) ∧ w'.cell? ⟨Be15_1, 2, none⟩ = some (Value.int .i64 (driveF d_aS d_aF).at_) ∧ w'.cell? ⟨w46.heap.size, 0, none⟩ = some ((Value.slice a62 m63 c64)) ∧ w'.cell? ⟨w46.heap.size, 1, none⟩ = some ((Value.slice a65 m66 c67)) ∧ w'.cell? ⟨Be97_0, 0, none⟩ = some ((Value.slice a122 m123 c124)) ∧ w'.cell? ⟨Be97_0, 1, none⟩ = some ((Value.slice a125 m126 c127)) ∧ w'.cell? ⟨Be97_1, 0, none⟩ = some (Value.int .i64 (driveF d_aS d_aF).desc_) ∧ w'.cell? ⟨Be97_1, 1, none⟩ = some (Value.int .i64 (driveF d_aS d_aF).phase_) ∧ w'.cell? ⟨Be97_1, 2, none⟩ = some (Value.int .i64 (driveF d_aS d_aF).at_))
    (first | exact ⟨(Below.refl _ _).drew, Nat.le_refl _, k211, k212, k213, k214, k215, k216, k217, k218, k219, k220, k221, k222, k223, k224, k225, k226, k227⟩ | exact keepBox17 (by omega) ‹_› ‹_›)
    (first
    | (go_at_call 12; refine (toStore_o d_aS (Value.slice a_aS0 d_aS.heads_.length c_aS0) (Value.slice a_aS1 d_aS.descs_.length c_aS1) _ (rdsL.below (rdsL.below h_aS0 t169) ((Below.refl _ _).drew : Below w167.heap.size w167 w167.drew)) (rdsL.below (rdsL.below h_aS1 t169) ((Below.refl _ _).drew : Below w167.heap.size w167 w167.drew)) hb_aS).mono ?_; rintro e w189 ⟨u191, u196, S192, S197, rfl, o193, o198, r194, r199, dj201, b190⟩; have hq_w189 : Below w167.heap.size w167 w189 := Below.trans ((Below.refl _ _).drew : Below w167.heap.size w167 w167.drew) (Below.mono b190 (Below.size ((Below.refl _ _).drew : Below w167.heap.size w167 w167.drew))))
    | (go_at_call 15; refine (eqStore_o _ _ _ _ _ _ (rdsL.below (rdsL.below (ownL.rds o50) ((Below.refl _ _).drew : Below w167.heap.size w167 w167.drew)) b190) (rdsL.below (rdsL.below (ownL.rds o55) ((Below.refl _ _).drew : Below w167.heap.size w167 w167.drew)) b190) (ownL.rds o193) (ownL.rds o198)).mono ?_; rintro e w202 ⟨rfl, b203⟩))
  clear k211 k212 k213 k214 k215 k216 k217 k218 k219 k220 k221 k222 k223 k224 k225 k226 k227
  have d228 : Below w167.heap.size w167 w167.drew := (Below.refl _ _).drew
  have t229 := Below.trans t169 (Below.mono d228 zb0)
  have s230 := Below.trans s170 (Below.mono d228 za0)
  replace o50 := ownL.keep o50 (fun q hq => Below.block d228 q (hs52 q hq))
  replace hs52 := fun q hq => Nat.lt_of_lt_of_le (hs52 q hq) (Below.size d228)
  replace o55 := ownL.keep o55 (fun q hq => Below.block d228 q (hs57 q hq))
  replace hs57 := fun q hq => Nat.lt_of_lt_of_le (hs57 q hq) (Below.size d228)
  replace oe97_00 := ownL.keep oe97_00 (fun q hq => Below.block d228 q (hs98 q hq))
  replace hs98 := fun q hq => Nat.lt_of_lt_of_le (hs98 q hq) (Below.size d228)
  replace oe97_01 := ownL.keep oe97_01 (fun q hq => Below.block d228 q (hs99 q hq))
  replace hs99 := fun q hq => Nat.lt_of_lt_of_le (hs99 q hq) (Below.size d228)
  replace bx_aS := Box.below bx_aS d228
  replace bx_aF := Box.below bx_aF d228
  replace bxe15_0 := Box.below bxe15_0 d228
  replace bxe15_1 := Box.below bxe15_1 d228
  replace bx84 := Box.below bx84 d228
  replace bxe97_0 := Box.below bxe97_0 d228
  replace bxe97_1 := Box.below bxe97_1 d228
  have z231 := Below.size d228
  replace zb0 : W2.heap.size ≤ w167.drew.heap.size := by omega
  replace za0 : w25.heap.size ≤ w167.drew.heap.size := by omega
  have t232 := Below.trans t229 (Below.mono b190 zb0)
  have s233 := Below.trans s230 (Below.mono b190 za0)
  replace o50 := ownL.keep o50 (fun q hq => Below.block b190 q (hs52 q hq))
  replace hs52 := fun q hq => Nat.lt_of_lt_of_le (hs52 q hq) (Below.size b190)
  replace o55 := ownL.keep o55 (fun q hq => Below.block b190 q (hs57 q hq))
  replace hs57 := fun q hq => Nat.lt_of_lt_of_le (hs57 q hq) (Below.size b190)
  replace oe97_00 := ownL.keep oe97_00 (fun q hq => Below.block b190 q (hs98 q hq))
  replace hs98 := fun q hq => Nat.lt_of_lt_of_le (hs98 q hq) (Below.size b190)
  replace oe97_01 := ownL.keep oe97_01 (fun q hq => Below.block b190 q (hs99 q hq))
  replace hs99 := fun q hq => Nat.lt_of_lt_of_le (hs99 q hq) (Below.size b190)
  replace bx_aS := Box.below bx_aS b190
  replace bx_aF := Box.below bx_aF b190
  replace bxe15_0 := Box.below bxe15_0 b190
  replace bxe15_1 := Box.below bxe15_1 b190
  replace bx84 := Box.below bx84 b190
  replace bxe97_0 := Box.below bxe97_0 b190
  replace bxe97_1 := Box.below bxe97_1 b190
  have z234 := Below.size b190
  replace zb0 : W2.heap.size ≤ w189.heap.size := by omega
  replace za0 : w25.heap.size ≤ w189.heap.size := by omega
  have t235 := Below.trans t232 (Below.mono b203 zb0)
  have s236 := Below.trans s233 (Below.mono b203 za0)
  replace o50 := ownL.keep o50 (fun q hq => Below.block b203 q (hs52 q hq))
  replace hs52 := fun q hq => Nat.lt_of_lt_of_le (hs52 q hq) (Below.size b203)
  replace o55 := ownL.keep o55 (fun q hq => Below.block b203 q (hs57 q hq))
  replace hs57 := fun q hq => Nat.lt_of_lt_of_le (hs57 q hq) (Below.size b203)
  replace oe97_00 := ownL.keep oe97_00 (fun q hq => Below.block b203 q (hs98 q hq))
  replace hs98 := fun q hq => Nat.lt_of_lt_of_le (hs98 q hq) (Below.size b203)
  replace oe97_01 := ownL.keep oe97_01 (fun q hq => Below.block b203 q (hs99 q hq))
  replace hs99 := fun q hq => Nat.lt_of_lt_of_le (hs99 q hq) (Below.size b203)
  replace bx_aS := Box.below bx_aS b203
  replace bx_aF := Box.below bx_aF b203
  replace bxe15_0 := Box.below bxe15_0 b203
  replace bxe15_1 := Box.below bxe15_1 b203
  replace bx84 := Box.below bx84 b203
  replace bxe97_0 := Box.below bxe97_0 b203
  replace bxe97_1 := Box.below bxe97_1 b203
  have z237 := Below.size b203
  replace zb0 : W2.heap.size ≤ w202.heap.size := by omega
  replace za0 : w25.heap.size ≤ w202.heap.size := by omega
  have k238 : w202.cell? ⟨w.heap.size, 0, none⟩ = some ((Value.slice a_aS0 d_aS.heads_.length c_aS0)) := bx_aS.2 0 (by simp)
  have k239 : w202.cell? ⟨w.heap.size, 1, none⟩ = some ((Value.slice a_aS1 d_aS.descs_.length c_aS1)) := bx_aS.2 1 (by simp)
  have k240 : w202.cell? ⟨w.heap.size + 1, 0, none⟩ = some (Value.int .i64 d_aF.desc_) := bx_aF.2 0 (by simp)
  have k241 : w202.cell? ⟨w.heap.size + 1, 1, none⟩ = some (Value.int .i64 d_aF.phase_) := bx_aF.2 1 (by simp)
  have k242 : w202.cell? ⟨w.heap.size + 1, 2, none⟩ = some (Value.int .i64 d_aF.at_) := bx_aF.2 2 (by simp)
  have k243 : w202.cell? ⟨Be15_0, 0, none⟩ = some ((Value.slice a29 m30 c31)) := bxe15_0.2 0 (by simp)
  have k244 : w202.cell? ⟨Be15_0, 1, none⟩ = some ((Value.slice a32 m33 c34)) := bxe15_0.2 1 (by simp)
  have k245 : w202.cell? ⟨Be15_1, 0, none⟩ = some (Value.int .i64 (driveF d_aS d_aF).desc_) := bxe15_1.2 0 (by simp)
  have k246 : w202.cell? ⟨Be15_1, 1, none⟩ = some (Value.int .i64 (driveF d_aS d_aF).phase_) := bxe15_1.2 1 (by simp)
  have k247 : w202.cell? ⟨Be15_1, 2, none⟩ = some (Value.int .i64 (driveF d_aS d_aF).at_) := bxe15_1.2 2 (by simp)
  have k248 : w202.cell? ⟨w46.heap.size, 0, none⟩ = some ((Value.slice a62 m63 c64)) := bx84.2 0 (by simp)
  have k249 : w202.cell? ⟨w46.heap.size, 1, none⟩ = some ((Value.slice a65 m66 c67)) := bx84.2 1 (by simp)
  have k250 : w202.cell? ⟨Be97_0, 0, none⟩ = some ((Value.slice a122 m123 c124)) := bxe97_0.2 0 (by simp)
  have k251 : w202.cell? ⟨Be97_0, 1, none⟩ = some ((Value.slice a125 m126 c127)) := bxe97_0.2 1 (by simp)
  have k252 : w202.cell? ⟨Be97_1, 0, none⟩ = some (Value.int .i64 (driveF d_aS d_aF).desc_) := bxe97_1.2 0 (by simp)
  have k253 : w202.cell? ⟨Be97_1, 1, none⟩ = some (Value.int .i64 (driveF d_aS d_aF).phase_) := bxe97_1.2 1 (by simp)
  have k254 : w202.cell? ⟨Be97_1, 2, none⟩ = some (Value.int .i64 (driveF d_aS d_aF).at_) := bxe97_1.2 2 (by simp)
  go_wp2_with fail
  clear k238 k239 k240 k241 k242 k243 k244 k245 k246 k247 k248 k249 k250 k251 k252 k253 k254
  have le259 := cntS_le hb_aS
  refine (markStore_o S49 S54 _ _ _ _ _ hs52 hs57 dj58 hb_aS (by omega) (by omega) o50 o55).mono ?_
  rintro e w255 ⟨rfl, o257, o258, C256⟩
  have t260 := below_chg t235 C256 zb0 (by intro q hx; rcases hx with hx | hx; (have y := r51 q hx; have y1 := y.1; have y2 := y.2; omega); (have y := r56 q hx; have y1 := y.1; have y2 := y.2; omega))
  have s261 := below_chg s236 C256 za0 (by intro q hx; rcases hx with hx | hx; (have y := r51 q hx; have y1 := y.1; have y2 := y.2; omega); (have y := r56 q hx; have y1 := y.1; have y2 := y.2; omega))
  replace hs52 := fun q hq => Nat.lt_of_lt_of_le (hs52 q hq) (ChgS.size C256)
  replace hs57 := fun q hq => Nat.lt_of_lt_of_le (hs57 q hq) (ChgS.size C256)
  replace oe97_00 := ownL.keep oe97_00 (fun q hq => ChgS.block C256 q (hs98 q hq) (by intro hx; have x0 := re97_00 q hq; have x1 := x0.1.1; have x2 := x0.1.2; rcases hx with hx | hx; (have y := r51 q hx; have y1 := y.1; have y2 := y.2; omega); (have y := r56 q hx; have y1 := y.1; have y2 := y.2; omega)))
  replace hs98 := fun q hq => Nat.lt_of_lt_of_le (hs98 q hq) (ChgS.size C256)
  replace oe97_01 := ownL.keep oe97_01 (fun q hq => ChgS.block C256 q (hs99 q hq) (by intro hx; have x0 := re97_01 q hq; have x1 := x0.1.1; have x2 := x0.1.2; rcases hx with hx | hx; (have y := r51 q hx; have y1 := y.1; have y2 := y.2; omega); (have y := r56 q hx; have y1 := y.1; have y2 := y.2; omega)))
  replace hs99 := fun q hq => Nat.lt_of_lt_of_le (hs99 q hq) (ChgS.size C256)
  replace bx_aS := Box.chg bx_aS C256 (by intro hx; rcases hx with hx | hx; (have y := r51 _ hx; have y1 := y.1; have y2 := y.2; omega); (have y := r56 _ hx; have y1 := y.1; have y2 := y.2; omega))
  replace bx_aF := Box.chg bx_aF C256 (by intro hx; rcases hx with hx | hx; (have y := r51 _ hx; have y1 := y.1; have y2 := y.2; omega); (have y := r56 _ hx; have y1 := y.1; have y2 := y.2; omega))
  replace bxe15_0 := Box.chg bxe15_0 C256 (by intro hx; rcases hx with hx | hx; (have y := r51 _ hx; have y1 := y.1; have y2 := y.2; omega); (have y := r56 _ hx; have y1 := y.1; have y2 := y.2; omega))
  replace bxe15_1 := Box.chg bxe15_1 C256 (by intro hx; rcases hx with hx | hx; (have y := r51 _ hx; have y1 := y.1; have y2 := y.2; omega); (have y := r56 _ hx; have y1 := y.1; have y2 := y.2; omega))
  replace bx84 := Box.chg bx84 C256 (by intro hx; rcases hx with hx | hx; (have y := r51 _ hx; have y1 := y.1; have y2 := y.2; omega); (have y := r56 _ hx; have y1 := y.1; have y2 := y.2; omega))
  replace bxe97_0 := Box.chg bxe97_0 C256 (by intro hx; rcases hx with hx | hx; (have y := r51 _ hx; have y1 := y.1; have y2 := y.2; omega); (have y := r56 _ hx; have y1 := y.1; have y2 := y.2; omega))
  replace bxe97_1 := Box.chg bxe97_1 C256 (by intro hx; rcases hx with hx | hx; (have y := r51 _ hx; have y1 := y.1; have y2 := y.2; omega); (have y := r56 _ hx; have y1 := y.1; have y2 := y.2; omega))
  have z262 := ChgS.size C256
  replace zb0 : W2.heap.size ≤ w255.heap.size := by omega
  replace za0 : w25.heap.size ≤ w255.heap.size := by omega
  have k263 : w255.cell? ⟨w.heap.size, 0, none⟩ = some ((Value.slice a_aS0 d_aS.heads_.length c_aS0)) := bx_aS.2 0 (by simp)
  have k264 : w255.cell? ⟨w.heap.size, 1, none⟩ = some ((Value.slice a_aS1 d_aS.descs_.length c_aS1)) := bx_aS.2 1 (by simp)
  have k265 : w255.cell? ⟨w.heap.size + 1, 0, none⟩ = some (Value.int .i64 d_aF.desc_) := bx_aF.2 0 (by simp)
  have k266 : w255.cell? ⟨w.heap.size + 1, 1, none⟩ = some (Value.int .i64 d_aF.phase_) := bx_aF.2 1 (by simp)
  have k267 : w255.cell? ⟨w.heap.size + 1, 2, none⟩ = some (Value.int .i64 d_aF.at_) := bx_aF.2 2 (by simp)
  have k268 : w255.cell? ⟨Be15_0, 0, none⟩ = some ((Value.slice a29 m30 c31)) := bxe15_0.2 0 (by simp)
  have k269 : w255.cell? ⟨Be15_0, 1, none⟩ = some ((Value.slice a32 m33 c34)) := bxe15_0.2 1 (by simp)
  have k270 : w255.cell? ⟨Be15_1, 0, none⟩ = some (Value.int .i64 (driveF d_aS d_aF).desc_) := bxe15_1.2 0 (by simp)
  have k271 : w255.cell? ⟨Be15_1, 1, none⟩ = some (Value.int .i64 (driveF d_aS d_aF).phase_) := bxe15_1.2 1 (by simp)
  have k272 : w255.cell? ⟨Be15_1, 2, none⟩ = some (Value.int .i64 (driveF d_aS d_aF).at_) := bxe15_1.2 2 (by simp)
  have k273 : w255.cell? ⟨w46.heap.size, 0, none⟩ = some ((Value.slice a62 m63 c64)) := bx84.2 0 (by simp)
  have k274 : w255.cell? ⟨w46.heap.size, 1, none⟩ = some ((Value.slice a65 m66 c67)) := bx84.2 1 (by simp)
  have k275 : w255.cell? ⟨Be97_0, 0, none⟩ = some ((Value.slice a122 m123 c124)) := bxe97_0.2 0 (by simp)
  have k276 : w255.cell? ⟨Be97_0, 1, none⟩ = some ((Value.slice a125 m126 c127)) := bxe97_0.2 1 (by simp)
  have k277 : w255.cell? ⟨Be97_1, 0, none⟩ = some (Value.int .i64 (driveF d_aS d_aF).desc_) := bxe97_1.2 0 (by simp)
  have k278 : w255.cell? ⟨Be97_1, 1, none⟩ = some (Value.int .i64 (driveF d_aS d_aF).phase_) := bxe97_1.2 1 (by simp)
  have k279 : w255.cell? ⟨Be97_1, 2, none⟩ = some (Value.int .i64 (driveF d_aS d_aF).at_) := bxe97_1.2 2 (by simp)
  go_wp2_with fail
  clear k263 k264 k265 k266 k267 k268 k269 k270 k271 k272 k273 k274 k275 k276 k277 k278 k279
  refine (eqStore_o _ _ _ _ _ _ (ownL.rds oe97_00) (ownL.rds oe97_01) (rdsL.below oe15_00 s261) (rdsL.below oe15_01 s261)).mono ?_
  rintro e w280 ⟨rfl, b281⟩
  have t282 := Below.trans t260 (Below.mono b281 zb0)
  have s283 := Below.trans s261 (Below.mono b281 za0)
  replace o257 := ownL.keep o257 (fun q hq => Below.block b281 q (hs52 q hq))
  replace hs52 := fun q hq => Nat.lt_of_lt_of_le (hs52 q hq) (Below.size b281)
  replace o258 := ownL.keep o258 (fun q hq => Below.block b281 q (hs57 q hq))
  replace hs57 := fun q hq => Nat.lt_of_lt_of_le (hs57 q hq) (Below.size b281)
  replace oe97_00 := ownL.keep oe97_00 (fun q hq => Below.block b281 q (hs98 q hq))
  replace hs98 := fun q hq => Nat.lt_of_lt_of_le (hs98 q hq) (Below.size b281)
  replace oe97_01 := ownL.keep oe97_01 (fun q hq => Below.block b281 q (hs99 q hq))
  replace hs99 := fun q hq => Nat.lt_of_lt_of_le (hs99 q hq) (Below.size b281)
  replace bx_aS := Box.below bx_aS b281
  replace bx_aF := Box.below bx_aF b281
  replace bxe15_0 := Box.below bxe15_0 b281
  replace bxe15_1 := Box.below bxe15_1 b281
  replace bx84 := Box.below bx84 b281
  replace bxe97_0 := Box.below bxe97_0 b281
  replace bxe97_1 := Box.below bxe97_1 b281
  have z284 := Below.size b281
  replace zb0 : W2.heap.size ≤ w280.heap.size := by omega
  replace za0 : w25.heap.size ≤ w280.heap.size := by omega
  have k285 : w280.cell? ⟨w.heap.size, 0, none⟩ = some ((Value.slice a_aS0 d_aS.heads_.length c_aS0)) := bx_aS.2 0 (by simp)
  have k286 : w280.cell? ⟨w.heap.size, 1, none⟩ = some ((Value.slice a_aS1 d_aS.descs_.length c_aS1)) := bx_aS.2 1 (by simp)
  have k287 : w280.cell? ⟨w.heap.size + 1, 0, none⟩ = some (Value.int .i64 d_aF.desc_) := bx_aF.2 0 (by simp)
  have k288 : w280.cell? ⟨w.heap.size + 1, 1, none⟩ = some (Value.int .i64 d_aF.phase_) := bx_aF.2 1 (by simp)
  have k289 : w280.cell? ⟨w.heap.size + 1, 2, none⟩ = some (Value.int .i64 d_aF.at_) := bx_aF.2 2 (by simp)
  have k290 : w280.cell? ⟨Be15_0, 0, none⟩ = some ((Value.slice a29 m30 c31)) := bxe15_0.2 0 (by simp)
  have k291 : w280.cell? ⟨Be15_0, 1, none⟩ = some ((Value.slice a32 m33 c34)) := bxe15_0.2 1 (by simp)
  have k292 : w280.cell? ⟨Be15_1, 0, none⟩ = some (Value.int .i64 (driveF d_aS d_aF).desc_) := bxe15_1.2 0 (by simp)
  have k293 : w280.cell? ⟨Be15_1, 1, none⟩ = some (Value.int .i64 (driveF d_aS d_aF).phase_) := bxe15_1.2 1 (by simp)
  have k294 : w280.cell? ⟨Be15_1, 2, none⟩ = some (Value.int .i64 (driveF d_aS d_aF).at_) := bxe15_1.2 2 (by simp)
  have k295 : w280.cell? ⟨w46.heap.size, 0, none⟩ = some ((Value.slice a62 m63 c64)) := bx84.2 0 (by simp)
  have k296 : w280.cell? ⟨w46.heap.size, 1, none⟩ = some ((Value.slice a65 m66 c67)) := bx84.2 1 (by simp)
  have k297 : w280.cell? ⟨Be97_0, 0, none⟩ = some ((Value.slice a122 m123 c124)) := bxe97_0.2 0 (by simp)
  have k298 : w280.cell? ⟨Be97_0, 1, none⟩ = some ((Value.slice a125 m126 c127)) := bxe97_0.2 1 (by simp)
  have k299 : w280.cell? ⟨Be97_1, 0, none⟩ = some (Value.int .i64 (driveF d_aS d_aF).desc_) := bxe97_1.2 0 (by simp)
  have k300 : w280.cell? ⟨Be97_1, 1, none⟩ = some (Value.int .i64 (driveF d_aS d_aF).phase_) := bxe97_1.2 1 (by simp)
  have k301 : w280.cell? ⟨Be97_1, 2, none⟩ = some (Value.int .i64 (driveF d_aS d_aF).at_) := bxe97_1.2 2 (by simp)
  go_wp2_with fail
  clear k285 k286 k287 k288 k289 k290 k291 k292 k293 k294 k295 k296 k297 k298 k299 k300 k301
  refine (eqFrame_c (driveF d_aS d_aF) _).mono ?_
  rintro e w302 ⟨rfl, b303⟩
  have t304 := Below.trans t282 (Below.mono b303 zb0)
  have s305 := Below.trans s283 (Below.mono b303 za0)
  replace o257 := ownL.keep o257 (fun q hq => Below.block b303 q (hs52 q hq))
  replace hs52 := fun q hq => Nat.lt_of_lt_of_le (hs52 q hq) (Below.size b303)
  replace o258 := ownL.keep o258 (fun q hq => Below.block b303 q (hs57 q hq))
  replace hs57 := fun q hq => Nat.lt_of_lt_of_le (hs57 q hq) (Below.size b303)
  replace oe97_00 := ownL.keep oe97_00 (fun q hq => Below.block b303 q (hs98 q hq))
  replace hs98 := fun q hq => Nat.lt_of_lt_of_le (hs98 q hq) (Below.size b303)
  replace oe97_01 := ownL.keep oe97_01 (fun q hq => Below.block b303 q (hs99 q hq))
  replace hs99 := fun q hq => Nat.lt_of_lt_of_le (hs99 q hq) (Below.size b303)
  replace bx_aS := Box.below bx_aS b303
  replace bx_aF := Box.below bx_aF b303
  replace bxe15_0 := Box.below bxe15_0 b303
  replace bxe15_1 := Box.below bxe15_1 b303
  replace bx84 := Box.below bx84 b303
  replace bxe97_0 := Box.below bxe97_0 b303
  replace bxe97_1 := Box.below bxe97_1 b303
  have z306 := Below.size b303
  replace zb0 : W2.heap.size ≤ w302.heap.size := by omega
  replace za0 : w25.heap.size ≤ w302.heap.size := by omega
  have k307 : w302.cell? ⟨w.heap.size, 0, none⟩ = some ((Value.slice a_aS0 d_aS.heads_.length c_aS0)) := bx_aS.2 0 (by simp)
  have k308 : w302.cell? ⟨w.heap.size, 1, none⟩ = some ((Value.slice a_aS1 d_aS.descs_.length c_aS1)) := bx_aS.2 1 (by simp)
  have k309 : w302.cell? ⟨w.heap.size + 1, 0, none⟩ = some (Value.int .i64 d_aF.desc_) := bx_aF.2 0 (by simp)
  have k310 : w302.cell? ⟨w.heap.size + 1, 1, none⟩ = some (Value.int .i64 d_aF.phase_) := bx_aF.2 1 (by simp)
  have k311 : w302.cell? ⟨w.heap.size + 1, 2, none⟩ = some (Value.int .i64 d_aF.at_) := bx_aF.2 2 (by simp)
  have k312 : w302.cell? ⟨Be15_0, 0, none⟩ = some ((Value.slice a29 m30 c31)) := bxe15_0.2 0 (by simp)
  have k313 : w302.cell? ⟨Be15_0, 1, none⟩ = some ((Value.slice a32 m33 c34)) := bxe15_0.2 1 (by simp)
  have k314 : w302.cell? ⟨Be15_1, 0, none⟩ = some (Value.int .i64 (driveF d_aS d_aF).desc_) := bxe15_1.2 0 (by simp)
  have k315 : w302.cell? ⟨Be15_1, 1, none⟩ = some (Value.int .i64 (driveF d_aS d_aF).phase_) := bxe15_1.2 1 (by simp)
  have k316 : w302.cell? ⟨Be15_1, 2, none⟩ = some (Value.int .i64 (driveF d_aS d_aF).at_) := bxe15_1.2 2 (by simp)
  have k317 : w302.cell? ⟨w46.heap.size, 0, none⟩ = some ((Value.slice a62 m63 c64)) := bx84.2 0 (by simp)
  have k318 : w302.cell? ⟨w46.heap.size, 1, none⟩ = some ((Value.slice a65 m66 c67)) := bx84.2 1 (by simp)
  have k319 : w302.cell? ⟨Be97_0, 0, none⟩ = some ((Value.slice a122 m123 c124)) := bxe97_0.2 0 (by simp)
  have k320 : w302.cell? ⟨Be97_0, 1, none⟩ = some ((Value.slice a125 m126 c127)) := bxe97_0.2 1 (by simp)
  have k321 : w302.cell? ⟨Be97_1, 0, none⟩ = some (Value.int .i64 (driveF d_aS d_aF).desc_) := bxe97_1.2 0 (by simp)
  have k322 : w302.cell? ⟨Be97_1, 1, none⟩ = some (Value.int .i64 (driveF d_aS d_aF).phase_) := bxe97_1.2 1 (by simp)
  have k323 : w302.cell? ⟨Be97_1, 2, none⟩ = some (Value.int .i64 (driveF d_aS d_aF).at_) := bxe97_1.2 2 (by simp)
  go_wp2_with fail
  clear k307 k308 k309 k310 k311 k312 k313 k314 k315 k316 k317 k318 k319 k320 k321 k322 k323
  have le328 := cntS_le hbe97_0
  refine (markStore_o Se97_00 Se97_01 _ _ _ _ _ hs98 hs99 dje97_01 hbe97_0 (by omega) (by omega) oe97_00 oe97_01).mono ?_
  rintro e w324 ⟨rfl, o326, o327, C325⟩
  have t329 := below_chg t304 C325 zb0 (by intro q hx; rcases hx with hx | hx; (have y := re97_00 q hx; have y1 := y.1.1; have y2 := y.1.2; have y3 := y.2; omega); (have y := re97_01 q hx; have y1 := y.1.1; have y2 := y.1.2; have y3 := y.2; omega))
  have s330 := below_chg s305 C325 za0 (by intro q hx; rcases hx with hx | hx; (have y := re97_00 q hx; have y1 := y.1.1; have y2 := y.1.2; have y3 := y.2; omega); (have y := re97_01 q hx; have y1 := y.1.1; have y2 := y.1.2; have y3 := y.2; omega))
  replace o257 := ownL.keep o257 (fun q hq => ChgS.block C325 q (hs52 q hq) (by intro hx; have x0 := r51 q hq; have x1 := x0.1; have x2 := x0.2; rcases hx with hx | hx; (have y := re97_00 q hx; have y1 := y.1.1; have y2 := y.1.2; have y3 := y.2; omega); (have y := re97_01 q hx; have y1 := y.1.1; have y2 := y.1.2; have y3 := y.2; omega)))
  replace hs52 := fun q hq => Nat.lt_of_lt_of_le (hs52 q hq) (ChgS.size C325)
  replace o258 := ownL.keep o258 (fun q hq => ChgS.block C325 q (hs57 q hq) (by intro hx; have x0 := r56 q hq; have x1 := x0.1; have x2 := x0.2; rcases hx with hx | hx; (have y := re97_00 q hx; have y1 := y.1.1; have y2 := y.1.2; have y3 := y.2; omega); (have y := re97_01 q hx; have y1 := y.1.1; have y2 := y.1.2; have y3 := y.2; omega)))
  replace hs57 := fun q hq => Nat.lt_of_lt_of_le (hs57 q hq) (ChgS.size C325)
  replace hs98 := fun q hq => Nat.lt_of_lt_of_le (hs98 q hq) (ChgS.size C325)
  replace hs99 := fun q hq => Nat.lt_of_lt_of_le (hs99 q hq) (ChgS.size C325)
  replace bx_aS := Box.chg bx_aS C325 (by intro hx; rcases hx with hx | hx; (have y := re97_00 _ hx; have y1 := y.1.1; have y2 := y.1.2; have y3 := y.2; omega); (have y := re97_01 _ hx; have y1 := y.1.1; have y2 := y.1.2; have y3 := y.2; omega))
  replace bx_aF := Box.chg bx_aF C325 (by intro hx; rcases hx with hx | hx; (have y := re97_00 _ hx; have y1 := y.1.1; have y2 := y.1.2; have y3 := y.2; omega); (have y := re97_01 _ hx; have y1 := y.1.1; have y2 := y.1.2; have y3 := y.2; omega))
  replace bxe15_0 := Box.chg bxe15_0 C325 (by intro hx; rcases hx with hx | hx; (have y := re97_00 _ hx; have y1 := y.1.1; have y2 := y.1.2; have y3 := y.2; omega); (have y := re97_01 _ hx; have y1 := y.1.1; have y2 := y.1.2; have y3 := y.2; omega))
  replace bxe15_1 := Box.chg bxe15_1 C325 (by intro hx; rcases hx with hx | hx; (have y := re97_00 _ hx; have y1 := y.1.1; have y2 := y.1.2; have y3 := y.2; omega); (have y := re97_01 _ hx; have y1 := y.1.1; have y2 := y.1.2; have y3 := y.2; omega))
  replace bx84 := Box.chg bx84 C325 (by intro hx; rcases hx with hx | hx; (have y := re97_00 _ hx; have y1 := y.1.1; have y2 := y.1.2; have y3 := y.2; omega); (have y := re97_01 _ hx; have y1 := y.1.1; have y2 := y.1.2; have y3 := y.2; omega))
  replace bxe97_0 := Box.chg bxe97_0 C325 (by intro hx; rcases hx with hx | hx; (have y := re97_00 _ hx; have y1 := y.1.1; have y2 := y.1.2; have y3 := y.2; omega); (have y := re97_01 _ hx; have y1 := y.1.1; have y2 := y.1.2; have y3 := y.2; omega))
  replace bxe97_1 := Box.chg bxe97_1 C325 (by intro hx; rcases hx with hx | hx; (have y := re97_00 _ hx; have y1 := y.1.1; have y2 := y.1.2; have y3 := y.2; omega); (have y := re97_01 _ hx; have y1 := y.1.1; have y2 := y.1.2; have y3 := y.2; omega))
  have z331 := ChgS.size C325
  replace zb0 : W2.heap.size ≤ w324.heap.size := by omega
  replace za0 : w25.heap.size ≤ w324.heap.size := by omega
  have k332 : w324.cell? ⟨w.heap.size, 0, none⟩ = some ((Value.slice a_aS0 d_aS.heads_.length c_aS0)) := bx_aS.2 0 (by simp)
  have k333 : w324.cell? ⟨w.heap.size, 1, none⟩ = some ((Value.slice a_aS1 d_aS.descs_.length c_aS1)) := bx_aS.2 1 (by simp)
  have k334 : w324.cell? ⟨w.heap.size + 1, 0, none⟩ = some (Value.int .i64 d_aF.desc_) := bx_aF.2 0 (by simp)
  have k335 : w324.cell? ⟨w.heap.size + 1, 1, none⟩ = some (Value.int .i64 d_aF.phase_) := bx_aF.2 1 (by simp)
  have k336 : w324.cell? ⟨w.heap.size + 1, 2, none⟩ = some (Value.int .i64 d_aF.at_) := bx_aF.2 2 (by simp)
  have k337 : w324.cell? ⟨Be15_0, 0, none⟩ = some ((Value.slice a29 m30 c31)) := bxe15_0.2 0 (by simp)
  have k338 : w324.cell? ⟨Be15_0, 1, none⟩ = some ((Value.slice a32 m33 c34)) := bxe15_0.2 1 (by simp)
  have k339 : w324.cell? ⟨Be15_1, 0, none⟩ = some (Value.int .i64 (driveF d_aS d_aF).desc_) := bxe15_1.2 0 (by simp)
  have k340 : w324.cell? ⟨Be15_1, 1, none⟩ = some (Value.int .i64 (driveF d_aS d_aF).phase_) := bxe15_1.2 1 (by simp)
  have k341 : w324.cell? ⟨Be15_1, 2, none⟩ = some (Value.int .i64 (driveF d_aS d_aF).at_) := bxe15_1.2 2 (by simp)
  have k342 : w324.cell? ⟨w46.heap.size, 0, none⟩ = some ((Value.slice a62 m63 c64)) := bx84.2 0 (by simp)
  have k343 : w324.cell? ⟨w46.heap.size, 1, none⟩ = some ((Value.slice a65 m66 c67)) := bx84.2 1 (by simp)
  have k344 : w324.cell? ⟨Be97_0, 0, none⟩ = some ((Value.slice a122 m123 c124)) := bxe97_0.2 0 (by simp)
  have k345 : w324.cell? ⟨Be97_0, 1, none⟩ = some ((Value.slice a125 m126 c127)) := bxe97_0.2 1 (by simp)
  have k346 : w324.cell? ⟨Be97_1, 0, none⟩ = some (Value.int .i64 (driveF d_aS d_aF).desc_) := bxe97_1.2 0 (by simp)
  have k347 : w324.cell? ⟨Be97_1, 1, none⟩ = some (Value.int .i64 (driveF d_aS d_aF).phase_) := bxe97_1.2 1 (by simp)
  have k348 : w324.cell? ⟨Be97_1, 2, none⟩ = some (Value.int .i64 (driveF d_aS d_aF).at_) := bxe97_1.2 2 (by simp)
  go_wp2_with fail
  clear k332 k333 k334 k335 k336 k337 k338 k339 k340 k341 k342 k343 k344 k345 k346 k347 k348
  refine (heldStore_o _ _ _ _ _ hbe97_0 (by omega) (by omega) (ownL.rds o326) (ownL.rds o327)).mono ?_
  rintro e w349 ⟨rfl, b350⟩
  have t351 := Below.trans t329 (Below.mono b350 zb0)
  have s352 := Below.trans s330 (Below.mono b350 za0)
  replace o257 := ownL.keep o257 (fun q hq => Below.block b350 q (hs52 q hq))
  replace hs52 := fun q hq => Nat.lt_of_lt_of_le (hs52 q hq) (Below.size b350)
  replace o258 := ownL.keep o258 (fun q hq => Below.block b350 q (hs57 q hq))
  replace hs57 := fun q hq => Nat.lt_of_lt_of_le (hs57 q hq) (Below.size b350)
  replace o326 := ownL.keep o326 (fun q hq => Below.block b350 q (hs98 q hq))
  replace hs98 := fun q hq => Nat.lt_of_lt_of_le (hs98 q hq) (Below.size b350)
  replace o327 := ownL.keep o327 (fun q hq => Below.block b350 q (hs99 q hq))
  replace hs99 := fun q hq => Nat.lt_of_lt_of_le (hs99 q hq) (Below.size b350)
  replace bx_aS := Box.below bx_aS b350
  replace bx_aF := Box.below bx_aF b350
  replace bxe15_0 := Box.below bxe15_0 b350
  replace bxe15_1 := Box.below bxe15_1 b350
  replace bx84 := Box.below bx84 b350
  replace bxe97_0 := Box.below bxe97_0 b350
  replace bxe97_1 := Box.below bxe97_1 b350
  have z353 := Below.size b350
  replace zb0 : W2.heap.size ≤ w349.heap.size := by omega
  replace za0 : w25.heap.size ≤ w349.heap.size := by omega
  have k354 : w349.cell? ⟨w.heap.size, 0, none⟩ = some ((Value.slice a_aS0 d_aS.heads_.length c_aS0)) := bx_aS.2 0 (by simp)
  have k355 : w349.cell? ⟨w.heap.size, 1, none⟩ = some ((Value.slice a_aS1 d_aS.descs_.length c_aS1)) := bx_aS.2 1 (by simp)
  have k356 : w349.cell? ⟨w.heap.size + 1, 0, none⟩ = some (Value.int .i64 d_aF.desc_) := bx_aF.2 0 (by simp)
  have k357 : w349.cell? ⟨w.heap.size + 1, 1, none⟩ = some (Value.int .i64 d_aF.phase_) := bx_aF.2 1 (by simp)
  have k358 : w349.cell? ⟨w.heap.size + 1, 2, none⟩ = some (Value.int .i64 d_aF.at_) := bx_aF.2 2 (by simp)
  have k359 : w349.cell? ⟨Be15_0, 0, none⟩ = some ((Value.slice a29 m30 c31)) := bxe15_0.2 0 (by simp)
  have k360 : w349.cell? ⟨Be15_0, 1, none⟩ = some ((Value.slice a32 m33 c34)) := bxe15_0.2 1 (by simp)
  have k361 : w349.cell? ⟨Be15_1, 0, none⟩ = some (Value.int .i64 (driveF d_aS d_aF).desc_) := bxe15_1.2 0 (by simp)
  have k362 : w349.cell? ⟨Be15_1, 1, none⟩ = some (Value.int .i64 (driveF d_aS d_aF).phase_) := bxe15_1.2 1 (by simp)
  have k363 : w349.cell? ⟨Be15_1, 2, none⟩ = some (Value.int .i64 (driveF d_aS d_aF).at_) := bxe15_1.2 2 (by simp)
  have k364 : w349.cell? ⟨w46.heap.size, 0, none⟩ = some ((Value.slice a62 m63 c64)) := bx84.2 0 (by simp)
  have k365 : w349.cell? ⟨w46.heap.size, 1, none⟩ = some ((Value.slice a65 m66 c67)) := bx84.2 1 (by simp)
  have k366 : w349.cell? ⟨Be97_0, 0, none⟩ = some ((Value.slice a122 m123 c124)) := bxe97_0.2 0 (by simp)
  have k367 : w349.cell? ⟨Be97_0, 1, none⟩ = some ((Value.slice a125 m126 c127)) := bxe97_0.2 1 (by simp)
  have k368 : w349.cell? ⟨Be97_1, 0, none⟩ = some (Value.int .i64 (driveF d_aS d_aF).desc_) := bxe97_1.2 0 (by simp)
  have k369 : w349.cell? ⟨Be97_1, 1, none⟩ = some (Value.int .i64 (driveF d_aS d_aF).phase_) := bxe97_1.2 1 (by simp)
  have k370 : w349.cell? ⟨Be97_1, 2, none⟩ = some (Value.int .i64 (driveF d_aS d_aF).at_) := bxe97_1.2 2 (by simp)
  go_upto_region 24 with fail
  clear k354 k355 k356 k357 k358 k359 k360 k361 k362 k363 k364 k365 k366 k367 k368 k369 k370
  have lt374 := (bx_aS).1
  have y375 : ∀ e : Ext w349, e.w.cell? ⟨w.heap.size, 0, none⟩ = some ((Value.slice a_aS0 d_aS.heads_.length c_aS0)) := Ext.cell lt374 (bx_aS.2 0 (by simp))
  have y376 : ∀ e : Ext w349, e.w.cell? ⟨w.heap.size, 1, none⟩ = some ((Value.slice a_aS1 d_aS.descs_.length c_aS1)) := Ext.cell lt374 (bx_aS.2 1 (by simp))
  have lt377 := (bx_aF).1
  have y378 : ∀ e : Ext w349, e.w.cell? ⟨w.heap.size + 1, 0, none⟩ = some (Value.int .i64 d_aF.desc_) := Ext.cell lt377 (bx_aF.2 0 (by simp))
  have y379 : ∀ e : Ext w349, e.w.cell? ⟨w.heap.size + 1, 1, none⟩ = some (Value.int .i64 d_aF.phase_) := Ext.cell lt377 (bx_aF.2 1 (by simp))
  have y380 : ∀ e : Ext w349, e.w.cell? ⟨w.heap.size + 1, 2, none⟩ = some (Value.int .i64 d_aF.at_) := Ext.cell lt377 (bx_aF.2 2 (by simp))
  have lt381 := (bxe15_0).1
  have y382 : ∀ e : Ext w349, e.w.cell? ⟨Be15_0, 0, none⟩ = some ((Value.slice a29 m30 c31)) := Ext.cell lt381 (bxe15_0.2 0 (by simp))
  have y383 : ∀ e : Ext w349, e.w.cell? ⟨Be15_0, 1, none⟩ = some ((Value.slice a32 m33 c34)) := Ext.cell lt381 (bxe15_0.2 1 (by simp))
  have lt384 := (bxe15_1).1
  have y385 : ∀ e : Ext w349, e.w.cell? ⟨Be15_1, 0, none⟩ = some (Value.int .i64 (driveF d_aS d_aF).desc_) := Ext.cell lt384 (bxe15_1.2 0 (by simp))
  have y386 : ∀ e : Ext w349, e.w.cell? ⟨Be15_1, 1, none⟩ = some (Value.int .i64 (driveF d_aS d_aF).phase_) := Ext.cell lt384 (bxe15_1.2 1 (by simp))
  have y387 : ∀ e : Ext w349, e.w.cell? ⟨Be15_1, 2, none⟩ = some (Value.int .i64 (driveF d_aS d_aF).at_) := Ext.cell lt384 (bxe15_1.2 2 (by simp))
  have lt388 := (bx84).1
  have y389 : ∀ e : Ext w349, e.w.cell? ⟨w46.heap.size, 0, none⟩ = some ((Value.slice a62 m63 c64)) := Ext.cell lt388 (bx84.2 0 (by simp))
  have y390 : ∀ e : Ext w349, e.w.cell? ⟨w46.heap.size, 1, none⟩ = some ((Value.slice a65 m66 c67)) := Ext.cell lt388 (bx84.2 1 (by simp))
  have lt391 := (bxe97_0).1
  have y392 : ∀ e : Ext w349, e.w.cell? ⟨Be97_0, 0, none⟩ = some ((Value.slice a122 m123 c124)) := Ext.cell lt391 (bxe97_0.2 0 (by simp))
  have y393 : ∀ e : Ext w349, e.w.cell? ⟨Be97_0, 1, none⟩ = some ((Value.slice a125 m126 c127)) := Ext.cell lt391 (bxe97_0.2 1 (by simp))
  have lt394 := (bxe97_1).1
  have y395 : ∀ e : Ext w349, e.w.cell? ⟨Be97_1, 0, none⟩ = some (Value.int .i64 (driveF d_aS d_aF).desc_) := Ext.cell lt394 (bxe97_1.2 0 (by simp))
  have y396 : ∀ e : Ext w349, e.w.cell? ⟨Be97_1, 1, none⟩ = some (Value.int .i64 (driveF d_aS d_aF).phase_) := Ext.cell lt394 (bxe97_1.2 1 (by simp))
  have y397 : ∀ e : Ext w349, e.w.cell? ⟨Be97_1, 2, none⟩ = some (Value.int .i64 (driveF d_aS d_aF).at_) := Ext.cell lt394 (bxe97_1.2 2 (by simp))
  have mk1 : ∀ (P : Program) (o : Oper) (a : Act) (w : World) (v : Value), Oper.plainAt P o a w v = Oper.plainUpon w v ((execOp a.eval o).run P w) := fun _ _ _ _ _ => rfl
  have mk2 : ∀ (w w' : World) (v u : Value), Oper.plainUpon w v (.ok (.value u) w') = (w' = w ∧ u = v) := fun _ _ _ _ => rfl
  go_cut [16, 17, 18] from 19 (fun p16 p17 p18 wx => ∃ (Be371_0 : Nat) (Be371_1 : Nat) (ue371_00 ue371_01 : Value) (Se371_00 Se371_01 : Nat → Prop), p16 = Value.pointer (some ⟨Be371_0, 0, none⟩) ∧ p17 = Value.pointer (some ⟨Be371_1, 0, none⟩) ∧ p18 = (.int .i64 (driveN d_aS d_aF)) ∧ Box wx Be371_0 [ue371_00, ue371_01] ∧ w349.heap.size ≤ Be371_0 ∧ Box wx Be371_1 [Value.int .i64 (driveF d_aS d_aF).desc_, Value.int .i64 (driveF d_aS d_aF).phase_, Value.int .i64 (driveF d_aS d_aF).at_] ∧ w349.heap.size ≤ Be371_1 ∧ Be371_0 ≠ Be371_1 ∧ ownL Se371_00 wx ue371_00 (driveD d_aS d_aF).heads_ ∧ ownL Se371_01 wx ue371_01 (driveD d_aS d_aF).descs_ ∧ (∀ b, Se371_00 b → Rg w349.heap.size wx.heap.size b ∧ b ≠ Be371_0 ∧ b ≠ Be371_1) ∧ (∀ b, Se371_01 b → Rg w349.heap.size wx.heap.size b ∧ b ≠ Be371_0 ∧ b ≠ Be371_1) ∧ (∀ b, Se371_00 b → ¬ Se371_01 b) ∧ StoreB (driveD d_aS d_aF) ∧ Below w349.heap.size w349 wx)
  case first =>
    refine Go.wp_region_rel [Rel.none, Rel.g2 w349.heap.size (fun u0 u1 => (.agg #[u0, u1])) d_aS.heads_ d_aS.descs_, Rel.none, Rel.val (.agg #[.int .i64 d_aF.desc_, .int .i64 d_aF.phase_, .int .i64 d_aF.at_]), Rel.g2 w349.heap.size (fun u0 u1 => .tuple #[(.agg #[u0, u1]), (.agg #[.int .i64 (driveF d_aS d_aF).desc_, .int .i64 (driveF d_aS d_aF).phase_, .int .i64 (driveF d_aS d_aF).at_]), .int .i64 (driveN d_aS d_aF)]) (driveD d_aS d_aF).heads_ (driveD d_aS d_aF).descs_, Rel.none, Rel.none, Rel.none, Rel.none, Rel.box w349.heap.size 2, Rel.box w349.heap.size 3, Rel.wrote, Rel.wrote, Rel.none] [[], [], [], [], [1, 3], [], [], [], [], [], [], [9], [10], []] [.plain, .make, .plain, .make, .make, .plain, .plain, .plain, .plain, .make, .make, .write 9, .write 10, .plain] (by kernel_rfl) (by kernel_rfl) (by kernel_rfl) (by kernel_rfl) (by kernel_rfl) ?_
    (refine Go.wpR_plain (Go.clsExt _) rfl rfl (fun K hK => ?_); go_simp; refine hK _ ?_; clear hK K)
    refine Go.wpR_call (Go.clsExt _) 12 #[(.agg #[(Value.slice a_aS0 d_aS.heads_.length c_aS0), (Value.slice a_aS1 d_aS.descs_.length c_aS1)])] (Rel.g2 w349.heap.size (fun u0 u1 => (.agg #[u0, u1])) d_aS.heads_ d_aS.descs_) rfl rfl rfl rfl (fun w => by go_simp) (fun w9 hC hE => ?_) ?_
    · obtain ⟨E, rfl⟩ := hC; refine (toStore_o d_aS (Value.slice a_aS0 d_aS.heads_.length c_aS0) (Value.slice a_aS1 d_aS.descs_.length c_aS1) _ (rdsL.below (rdsL.below h_aS0 t351) E.h) (rdsL.below (rdsL.below h_aS1 t351) E.h) hb_aS).mono ?_; rintro e w2 ⟨u0, u1, S0, S1, rfl, o0, o1, r0, r1, d01, b⟩; exact ⟨_, rfl, b, Rel.g2_of E.size o0 o1 r0 r1 d01⟩
    rintro _ lo1 hi1 ⟨a1_0, m1_0, c1_0, a1_1, m1_1, c1_1, rfl⟩
    (refine Go.wpR_plain (Go.clsExt _) rfl rfl (fun K hK => ?_); go_simp; refine hK _ ?_; clear hK K)
    refine Go.wpR_call (Go.clsExt _) 13 #[(.agg #[.int .i64 d_aF.desc_, .int .i64 d_aF.phase_, .int .i64 d_aF.at_])] (Rel.val (.agg #[.int .i64 d_aF.desc_, .int .i64 d_aF.phase_, .int .i64 d_aF.at_])) rfl rfl rfl rfl (fun w => by go_simp) (fun w9 hC hE => ?_) ?_
    · obtain ⟨E, rfl⟩ := hC; refine (toFrame_c d_aF _).mono ?_; rintro e w2 ⟨rfl, b⟩; exact ⟨_, rfl, b, rfl, trivial⟩
    rintro _ lo3 hi3 rfl
    refine Go.wpR_call (Go.clsExt _) 14 #[(.agg #[(Value.slice a1_0 m1_0 c1_0), (Value.slice a1_1 m1_1 c1_1)]), (.agg #[.int .i64 d_aF.desc_, .int .i64 d_aF.phase_, .int .i64 d_aF.at_])] (Rel.g2 w349.heap.size (fun u0 u1 => .tuple #[(.agg #[u0, u1]), (.agg #[.int .i64 (driveF d_aS d_aF).desc_, .int .i64 (driveF d_aS d_aF).phase_, .int .i64 (driveF d_aS d_aF).at_]), .int .i64 (driveN d_aS d_aF)]) (driveD d_aS d_aF).heads_ (driveD d_aS d_aF).descs_) rfl rfl rfl rfl (fun w => by go_simp) (fun w9 hC hE => ?_) ?_
    · obtain ⟨E, rfl⟩ := hC; obtain ⟨-, -, -, x1_0, x1_1, T1_0, T1_1, he1, q1_0, q1_1, -⟩ := (hE 1 (by decide) _ _ _ rfl).1; have hi1_ := he1; simp only [Value.agg.injEq, Array.mk.injEq, List.cons.injEq, and_true, true_and] at hi1_; obtain ⟨rfl, rfl⟩ := hi1_; clear he1; refine (impl_DriveW d_aS (Value.slice a1_0 m1_0 c1_0) (Value.slice a1_1 m1_1 c1_1) d_aF _ (ownL.rds q1_0) (ownL.rds q1_1) hb_aS).mono ?_
      rintro e w2 ⟨u0, u1, S0, S1, rfl, o0, o1, r0, r1, dj01, -, b⟩; exact ⟨_, rfl, b, Rel.g2_of E.size o0 o1 r0 r1 dj01⟩
    rintro _ lo4 hi4 ⟨a4_0, m4_0, c4_0, a4_1, m4_1, c4_1, rfl⟩
    (refine Go.wpR_plain (Go.clsExt _) rfl rfl (fun K hK => ?_); go_simp; refine hK _ ?_; clear hK K)
    (refine Go.wpR_plain (Go.clsExt _) rfl rfl (fun K hK => ?_); go_simp; refine hK _ ?_; clear hK K)
    (refine Go.wpR_plain (Go.clsExt _) rfl rfl (fun K hK => ?_); go_simp; refine hK _ ?_; clear hK K)
    (refine Go.wpR_plain (Go.clsExt _) rfl rfl (fun K hK => ?_); go_simp; refine hK _ ?_; clear hK K)
    refine Go.wpR_box (Go.clsExt _) 2 #[Value.slice none 0 0, Value.slice none 0 0] 32 rfl rfl rfl rfl rfl (fun w => by go_simp) (fun lo9 => ?_)
    refine Go.wpR_box (Go.clsExt _) 3 #[.int .i64 0, .int .i64 0, .int .i64 0] 33 rfl rfl rfl rfl rfl (fun w => by go_simp) (fun lo10 => ?_)
    refine Go.wpR_store (Go.clsExt _) 9 2 lo9 _ (.agg #[(Value.slice a4_0 m4_0 c4_0), (Value.slice a4_1 m4_1 c4_1)]) [(Value.slice a4_0 m4_0 c4_0), (Value.slice a4_1 m4_1 c4_1)] rfl rfl rfl (by decide) rfl (by first | rfl | (simp [Go.Oper.stored]; go_simp)) (fun w h => Go.wrote_r h) (fun w cs0 hn hB => ⟨_, (by obtain ⟨z0, z1, kz0, kz1, fz0, fz1⟩ := box_any2 hn hB; go_simp), boxset2 hn hB _ _⟩) rfl ?_
    refine Go.wpR_store (Go.clsExt _) 10 3 lo10 _ (.agg #[Value.int .i64 (driveF d_aS d_aF).desc_, Value.int .i64 (driveF d_aS d_aF).phase_, Value.int .i64 (driveF d_aS d_aF).at_]) [Value.int .i64 (driveF d_aS d_aF).desc_, Value.int .i64 (driveF d_aS d_aF).phase_, Value.int .i64 (driveF d_aS d_aF).at_] rfl rfl rfl (by decide) rfl (by first | rfl | (simp [Go.Oper.stored]; go_simp)) (fun w h => Go.wrote_r h) (fun w cs0 hn hB => ⟨_, (by obtain ⟨z0, z1, z2, kz0, kz1, kz2, fz0, fz1, fz2⟩ := box_any3 hn hB; go_simp), boxset3 hn hB _ _ _⟩) rfl ?_
    (refine Go.wpR_plain (Go.clsExt _) rfl rfl (fun K hK => ?_); go_simp; refine hK _ ?_; clear hK K)
    refine Go.wpR_nil ?_
    intro E hm
    clear y375 y376 y378 y379 y380 y382 y383 y385 y386 y387 y389 y390 y392 y393 y395 y396 y397 mk1 mk2
    have bx_0 := (hm.one 11 _ _ _ rfl).1.2 _ rfl
    have bg_0 := (hm.one 9 _ _ _ rfl).1.1
    have tw_0 := hm.two 9 4 _ _ _ _ _ _ (.inl rfl) (.inl rfl) (by decide) rfl rfl
    have bx_1 := (hm.one 12 _ _ _ rfl).1.2 _ rfl
    have bg_1 := (hm.one 10 _ _ _ rfl).1.1
    have tw_1 := hm.two 10 4 _ _ _ _ _ _ (.inl rfl) (.inl rfl) (by decide) rfl rfl
    have tn_0_1 := hm.two 9 10 _ _ _ _ _ _ (.inl rfl) (.inl rfl) (by decide) rfl rfl
    have hhi := (hm.one 4 _ _ _ rfl).2
    obtain ⟨hlo, SS, hSS, x_0, x_1, T_0, T_1, he, oo_0, oo_1, ss_0, ss_1, dd_01⟩ := (hm.one 4 _ _ _ rfl).1
    simp only [Value.agg.injEq, Value.tuple.injEq, Array.mk.injEq, List.cons.injEq, and_true, true_and] at he
    obtain ⟨rfl, rfl⟩ := he
    have hBE := E.h
    clear hm
    obtain ⟨EW, hEW⟩ : ∃ X, X = E.w := ⟨_, rfl⟩
    rw [← hEW] at bx_0 bx_1 hhi oo_0 oo_1 hBE ⊢
    clear hEW E
    go_wp2_with fail
    go_meet
    exact ⟨_, _, _, _, T_0, T_1, rfl, rfl, rfl, bx_0.1, bg_0, bx_1.1, bg_1, (by omega), oo_0, oo_1, (fun b hb => by have y := hSS b (ss_0 b hb); exact ⟨⟨by omega, by omega⟩, by omega, by omega⟩), (fun b hb => by have y := hSS b (ss_1 b hb); exact ⟨⟨by omega, by omega⟩, by omega, by omega⟩), dd_01, (driveB hb_aS), hBE⟩
  clear y375 y376 y378 y379 y380 y382 y383 y385 y386 y387 y389 y390 y392 y393 y395 y396 y397 mk1 mk2
  obtain ⟨Be371_0, Be371_1, ue371_00, ue371_01, Se371_00, Se371_01, rfl, rfl, rfl, bxe371_0, bge371_0, bxe371_1, bge371_1, nee371_0, oe371_00, oe371_01, re371_00, re371_01, dje371_01, hbe371_0, b399⟩ := hcut
  obtain ⟨w398, hwe371⟩ : ∃ X, X = wc := ⟨_, rfl⟩
  rw [← hwe371] at bxe371_0 bxe371_1 oe371_00 oe371_01 re371_00 re371_01 b399 ⊢
  clear hwe371
  clear wc
  have t400 := Below.trans t351 (Below.mono b399 zb0)
  have s401 := Below.trans s352 (Below.mono b399 za0)
  replace o257 := ownL.keep o257 (fun q hq => Below.block b399 q (hs52 q hq))
  replace hs52 := fun q hq => Nat.lt_of_lt_of_le (hs52 q hq) (Below.size b399)
  replace o258 := ownL.keep o258 (fun q hq => Below.block b399 q (hs57 q hq))
  replace hs57 := fun q hq => Nat.lt_of_lt_of_le (hs57 q hq) (Below.size b399)
  replace o326 := ownL.keep o326 (fun q hq => Below.block b399 q (hs98 q hq))
  replace hs98 := fun q hq => Nat.lt_of_lt_of_le (hs98 q hq) (Below.size b399)
  replace o327 := ownL.keep o327 (fun q hq => Below.block b399 q (hs99 q hq))
  replace hs99 := fun q hq => Nat.lt_of_lt_of_le (hs99 q hq) (Below.size b399)
  replace bx_aS := Box.below bx_aS b399
  replace bx_aF := Box.below bx_aF b399
  replace bxe15_0 := Box.below bxe15_0 b399
  replace bxe15_1 := Box.below bxe15_1 b399
  replace bx84 := Box.below bx84 b399
  replace bxe97_0 := Box.below bxe97_0 b399
  replace bxe97_1 := Box.below bxe97_1 b399
  have z402 := Below.size b399
  replace zb0 : W2.heap.size ≤ w398.heap.size := by omega
  replace za0 : w25.heap.size ≤ w398.heap.size := by omega
  obtain ⟨a403, m404, c405, rfl⟩ := ownL_shape oe371_00
  have hs372 := fun q hq => (re371_00 q hq).1.2
  obtain ⟨a406, m407, c408, rfl⟩ := ownL_shape oe371_01
  have hs373 := fun q hq => (re371_01 q hq).1.2
  have lte371_0 := bxe371_0.1
  have lte371_1 := bxe371_1.1
  have k409 : w398.cell? ⟨w.heap.size, 0, none⟩ = some ((Value.slice a_aS0 d_aS.heads_.length c_aS0)) := bx_aS.2 0 (by simp)
  have k410 : w398.cell? ⟨w.heap.size, 1, none⟩ = some ((Value.slice a_aS1 d_aS.descs_.length c_aS1)) := bx_aS.2 1 (by simp)
  have k411 : w398.cell? ⟨w.heap.size + 1, 0, none⟩ = some (Value.int .i64 d_aF.desc_) := bx_aF.2 0 (by simp)
  have k412 : w398.cell? ⟨w.heap.size + 1, 1, none⟩ = some (Value.int .i64 d_aF.phase_) := bx_aF.2 1 (by simp)
  have k413 : w398.cell? ⟨w.heap.size + 1, 2, none⟩ = some (Value.int .i64 d_aF.at_) := bx_aF.2 2 (by simp)
  have k414 : w398.cell? ⟨Be15_0, 0, none⟩ = some ((Value.slice a29 m30 c31)) := bxe15_0.2 0 (by simp)
  have k415 : w398.cell? ⟨Be15_0, 1, none⟩ = some ((Value.slice a32 m33 c34)) := bxe15_0.2 1 (by simp)
  have k416 : w398.cell? ⟨Be15_1, 0, none⟩ = some (Value.int .i64 (driveF d_aS d_aF).desc_) := bxe15_1.2 0 (by simp)
  have k417 : w398.cell? ⟨Be15_1, 1, none⟩ = some (Value.int .i64 (driveF d_aS d_aF).phase_) := bxe15_1.2 1 (by simp)
  have k418 : w398.cell? ⟨Be15_1, 2, none⟩ = some (Value.int .i64 (driveF d_aS d_aF).at_) := bxe15_1.2 2 (by simp)
  have k419 : w398.cell? ⟨w46.heap.size, 0, none⟩ = some ((Value.slice a62 m63 c64)) := bx84.2 0 (by simp)
  have k420 : w398.cell? ⟨w46.heap.size, 1, none⟩ = some ((Value.slice a65 m66 c67)) := bx84.2 1 (by simp)
  have k421 : w398.cell? ⟨Be97_0, 0, none⟩ = some ((Value.slice a122 m123 c124)) := bxe97_0.2 0 (by simp)
  have k422 : w398.cell? ⟨Be97_0, 1, none⟩ = some ((Value.slice a125 m126 c127)) := bxe97_0.2 1 (by simp)
  have k423 : w398.cell? ⟨Be97_1, 0, none⟩ = some (Value.int .i64 (driveF d_aS d_aF).desc_) := bxe97_1.2 0 (by simp)
  have k424 : w398.cell? ⟨Be97_1, 1, none⟩ = some (Value.int .i64 (driveF d_aS d_aF).phase_) := bxe97_1.2 1 (by simp)
  have k425 : w398.cell? ⟨Be97_1, 2, none⟩ = some (Value.int .i64 (driveF d_aS d_aF).at_) := bxe97_1.2 2 (by simp)
  have k426 : w398.cell? ⟨Be371_0, 0, none⟩ = some ((Value.slice a403 m404 c405)) := bxe371_0.2 0 (by simp)
  have k427 : w398.cell? ⟨Be371_0, 1, none⟩ = some ((Value.slice a406 m407 c408)) := bxe371_0.2 1 (by simp)
  have k428 : w398.cell? ⟨Be371_1, 0, none⟩ = some (Value.int .i64 (driveF d_aS d_aF).desc_) := bxe371_1.2 0 (by simp)
  have k429 : w398.cell? ⟨Be371_1, 1, none⟩ = some (Value.int .i64 (driveF d_aS d_aF).phase_) := bxe371_1.2 1 (by simp)
  have k430 : w398.cell? ⟨Be371_1, 2, none⟩ = some (Value.int .i64 (driveF d_aS d_aF).at_) := bxe371_1.2 2 (by simp)
  go_wp2_with fail
  clear k409 k410 k411 k412 k413 k414 k415 k416 k417 k418 k419 k420 k421 k422 k423 k424 k425 k426 k427 k428 k429 k430
  refine (eqStore_o _ _ _ _ _ _ (ownL.rds oe371_00) (ownL.rds oe371_01) (rdsL.below oe15_00 s401) (rdsL.below oe15_01 s401)).mono ?_
  rintro e w431 ⟨rfl, b432⟩
  have t433 := Below.trans t400 (Below.mono b432 zb0)
  have s434 := Below.trans s401 (Below.mono b432 za0)
  replace o257 := ownL.keep o257 (fun q hq => Below.block b432 q (hs52 q hq))
  replace hs52 := fun q hq => Nat.lt_of_lt_of_le (hs52 q hq) (Below.size b432)
  replace o258 := ownL.keep o258 (fun q hq => Below.block b432 q (hs57 q hq))
  replace hs57 := fun q hq => Nat.lt_of_lt_of_le (hs57 q hq) (Below.size b432)
  replace o326 := ownL.keep o326 (fun q hq => Below.block b432 q (hs98 q hq))
  replace hs98 := fun q hq => Nat.lt_of_lt_of_le (hs98 q hq) (Below.size b432)
  replace o327 := ownL.keep o327 (fun q hq => Below.block b432 q (hs99 q hq))
  replace hs99 := fun q hq => Nat.lt_of_lt_of_le (hs99 q hq) (Below.size b432)
  replace oe371_00 := ownL.keep oe371_00 (fun q hq => Below.block b432 q (hs372 q hq))
  replace hs372 := fun q hq => Nat.lt_of_lt_of_le (hs372 q hq) (Below.size b432)
  replace oe371_01 := ownL.keep oe371_01 (fun q hq => Below.block b432 q (hs373 q hq))
  replace hs373 := fun q hq => Nat.lt_of_lt_of_le (hs373 q hq) (Below.size b432)
  replace bx_aS := Box.below bx_aS b432
  replace bx_aF := Box.below bx_aF b432
  replace bxe15_0 := Box.below bxe15_0 b432
  replace bxe15_1 := Box.below bxe15_1 b432
  replace bx84 := Box.below bx84 b432
  replace bxe97_0 := Box.below bxe97_0 b432
  replace bxe97_1 := Box.below bxe97_1 b432
  replace bxe371_0 := Box.below bxe371_0 b432
  replace bxe371_1 := Box.below bxe371_1 b432
  have z435 := Below.size b432
  replace zb0 : W2.heap.size ≤ w431.heap.size := by omega
  replace za0 : w25.heap.size ≤ w431.heap.size := by omega
  have k436 : w431.cell? ⟨w.heap.size, 0, none⟩ = some ((Value.slice a_aS0 d_aS.heads_.length c_aS0)) := bx_aS.2 0 (by simp)
  have k437 : w431.cell? ⟨w.heap.size, 1, none⟩ = some ((Value.slice a_aS1 d_aS.descs_.length c_aS1)) := bx_aS.2 1 (by simp)
  have k438 : w431.cell? ⟨w.heap.size + 1, 0, none⟩ = some (Value.int .i64 d_aF.desc_) := bx_aF.2 0 (by simp)
  have k439 : w431.cell? ⟨w.heap.size + 1, 1, none⟩ = some (Value.int .i64 d_aF.phase_) := bx_aF.2 1 (by simp)
  have k440 : w431.cell? ⟨w.heap.size + 1, 2, none⟩ = some (Value.int .i64 d_aF.at_) := bx_aF.2 2 (by simp)
  have k441 : w431.cell? ⟨Be15_0, 0, none⟩ = some ((Value.slice a29 m30 c31)) := bxe15_0.2 0 (by simp)
  have k442 : w431.cell? ⟨Be15_0, 1, none⟩ = some ((Value.slice a32 m33 c34)) := bxe15_0.2 1 (by simp)
  have k443 : w431.cell? ⟨Be15_1, 0, none⟩ = some (Value.int .i64 (driveF d_aS d_aF).desc_) := bxe15_1.2 0 (by simp)
  have k444 : w431.cell? ⟨Be15_1, 1, none⟩ = some (Value.int .i64 (driveF d_aS d_aF).phase_) := bxe15_1.2 1 (by simp)
  have k445 : w431.cell? ⟨Be15_1, 2, none⟩ = some (Value.int .i64 (driveF d_aS d_aF).at_) := bxe15_1.2 2 (by simp)
  have k446 : w431.cell? ⟨w46.heap.size, 0, none⟩ = some ((Value.slice a62 m63 c64)) := bx84.2 0 (by simp)
  have k447 : w431.cell? ⟨w46.heap.size, 1, none⟩ = some ((Value.slice a65 m66 c67)) := bx84.2 1 (by simp)
  have k448 : w431.cell? ⟨Be97_0, 0, none⟩ = some ((Value.slice a122 m123 c124)) := bxe97_0.2 0 (by simp)
  have k449 : w431.cell? ⟨Be97_0, 1, none⟩ = some ((Value.slice a125 m126 c127)) := bxe97_0.2 1 (by simp)
  have k450 : w431.cell? ⟨Be97_1, 0, none⟩ = some (Value.int .i64 (driveF d_aS d_aF).desc_) := bxe97_1.2 0 (by simp)
  have k451 : w431.cell? ⟨Be97_1, 1, none⟩ = some (Value.int .i64 (driveF d_aS d_aF).phase_) := bxe97_1.2 1 (by simp)
  have k452 : w431.cell? ⟨Be97_1, 2, none⟩ = some (Value.int .i64 (driveF d_aS d_aF).at_) := bxe97_1.2 2 (by simp)
  have k453 : w431.cell? ⟨Be371_0, 0, none⟩ = some ((Value.slice a403 m404 c405)) := bxe371_0.2 0 (by simp)
  have k454 : w431.cell? ⟨Be371_0, 1, none⟩ = some ((Value.slice a406 m407 c408)) := bxe371_0.2 1 (by simp)
  have k455 : w431.cell? ⟨Be371_1, 0, none⟩ = some (Value.int .i64 (driveF d_aS d_aF).desc_) := bxe371_1.2 0 (by simp)
  have k456 : w431.cell? ⟨Be371_1, 1, none⟩ = some (Value.int .i64 (driveF d_aS d_aF).phase_) := bxe371_1.2 1 (by simp)
  have k457 : w431.cell? ⟨Be371_1, 2, none⟩ = some (Value.int .i64 (driveF d_aS d_aF).at_) := bxe371_1.2 2 (by simp)
  go_wp2_with fail
  clear k436 k437 k438 k439 k440 k441 k442 k443 k444 k445 k446 k447 k448 k449 k450 k451 k452 k453 k454 k455 k456 k457
  refine (eqFrame_c (driveF d_aS d_aF) _).mono ?_
  rintro e w458 ⟨rfl, b459⟩
  have t460 := Below.trans t433 (Below.mono b459 zb0)
  have s461 := Below.trans s434 (Below.mono b459 za0)
  replace o257 := ownL.keep o257 (fun q hq => Below.block b459 q (hs52 q hq))
  replace hs52 := fun q hq => Nat.lt_of_lt_of_le (hs52 q hq) (Below.size b459)
  replace o258 := ownL.keep o258 (fun q hq => Below.block b459 q (hs57 q hq))
  replace hs57 := fun q hq => Nat.lt_of_lt_of_le (hs57 q hq) (Below.size b459)
  replace o326 := ownL.keep o326 (fun q hq => Below.block b459 q (hs98 q hq))
  replace hs98 := fun q hq => Nat.lt_of_lt_of_le (hs98 q hq) (Below.size b459)
  replace o327 := ownL.keep o327 (fun q hq => Below.block b459 q (hs99 q hq))
  replace hs99 := fun q hq => Nat.lt_of_lt_of_le (hs99 q hq) (Below.size b459)
  replace oe371_00 := ownL.keep oe371_00 (fun q hq => Below.block b459 q (hs372 q hq))
  replace hs372 := fun q hq => Nat.lt_of_lt_of_le (hs372 q hq) (Below.size b459)
  replace oe371_01 := ownL.keep oe371_01 (fun q hq => Below.block b459 q (hs373 q hq))
  replace hs373 := fun q hq => Nat.lt_of_lt_of_le (hs373 q hq) (Below.size b459)
  replace bx_aS := Box.below bx_aS b459
  replace bx_aF := Box.below bx_aF b459
  replace bxe15_0 := Box.below bxe15_0 b459
  replace bxe15_1 := Box.below bxe15_1 b459
  replace bx84 := Box.below bx84 b459
  replace bxe97_0 := Box.below bxe97_0 b459
  replace bxe97_1 := Box.below bxe97_1 b459
  replace bxe371_0 := Box.below bxe371_0 b459
  replace bxe371_1 := Box.below bxe371_1 b459
  have z462 := Below.size b459
  replace zb0 : W2.heap.size ≤ w458.heap.size := by omega
  replace za0 : w25.heap.size ≤ w458.heap.size := by omega
  have k463 : w458.cell? ⟨w.heap.size, 0, none⟩ = some ((Value.slice a_aS0 d_aS.heads_.length c_aS0)) := bx_aS.2 0 (by simp)
  have k464 : w458.cell? ⟨w.heap.size, 1, none⟩ = some ((Value.slice a_aS1 d_aS.descs_.length c_aS1)) := bx_aS.2 1 (by simp)
  have k465 : w458.cell? ⟨w.heap.size + 1, 0, none⟩ = some (Value.int .i64 d_aF.desc_) := bx_aF.2 0 (by simp)
  have k466 : w458.cell? ⟨w.heap.size + 1, 1, none⟩ = some (Value.int .i64 d_aF.phase_) := bx_aF.2 1 (by simp)
  have k467 : w458.cell? ⟨w.heap.size + 1, 2, none⟩ = some (Value.int .i64 d_aF.at_) := bx_aF.2 2 (by simp)
  have k468 : w458.cell? ⟨Be15_0, 0, none⟩ = some ((Value.slice a29 m30 c31)) := bxe15_0.2 0 (by simp)
  have k469 : w458.cell? ⟨Be15_0, 1, none⟩ = some ((Value.slice a32 m33 c34)) := bxe15_0.2 1 (by simp)
  have k470 : w458.cell? ⟨Be15_1, 0, none⟩ = some (Value.int .i64 (driveF d_aS d_aF).desc_) := bxe15_1.2 0 (by simp)
  have k471 : w458.cell? ⟨Be15_1, 1, none⟩ = some (Value.int .i64 (driveF d_aS d_aF).phase_) := bxe15_1.2 1 (by simp)
  have k472 : w458.cell? ⟨Be15_1, 2, none⟩ = some (Value.int .i64 (driveF d_aS d_aF).at_) := bxe15_1.2 2 (by simp)
  have k473 : w458.cell? ⟨w46.heap.size, 0, none⟩ = some ((Value.slice a62 m63 c64)) := bx84.2 0 (by simp)
  have k474 : w458.cell? ⟨w46.heap.size, 1, none⟩ = some ((Value.slice a65 m66 c67)) := bx84.2 1 (by simp)
  have k475 : w458.cell? ⟨Be97_0, 0, none⟩ = some ((Value.slice a122 m123 c124)) := bxe97_0.2 0 (by simp)
  have k476 : w458.cell? ⟨Be97_0, 1, none⟩ = some ((Value.slice a125 m126 c127)) := bxe97_0.2 1 (by simp)
  have k477 : w458.cell? ⟨Be97_1, 0, none⟩ = some (Value.int .i64 (driveF d_aS d_aF).desc_) := bxe97_1.2 0 (by simp)
  have k478 : w458.cell? ⟨Be97_1, 1, none⟩ = some (Value.int .i64 (driveF d_aS d_aF).phase_) := bxe97_1.2 1 (by simp)
  have k479 : w458.cell? ⟨Be97_1, 2, none⟩ = some (Value.int .i64 (driveF d_aS d_aF).at_) := bxe97_1.2 2 (by simp)
  have k480 : w458.cell? ⟨Be371_0, 0, none⟩ = some ((Value.slice a403 m404 c405)) := bxe371_0.2 0 (by simp)
  have k481 : w458.cell? ⟨Be371_0, 1, none⟩ = some ((Value.slice a406 m407 c408)) := bxe371_0.2 1 (by simp)
  have k482 : w458.cell? ⟨Be371_1, 0, none⟩ = some (Value.int .i64 (driveF d_aS d_aF).desc_) := bxe371_1.2 0 (by simp)
  have k483 : w458.cell? ⟨Be371_1, 1, none⟩ = some (Value.int .i64 (driveF d_aS d_aF).phase_) := bxe371_1.2 1 (by simp)
  have k484 : w458.cell? ⟨Be371_1, 2, none⟩ = some (Value.int .i64 (driveF d_aS d_aF).at_) := bxe371_1.2 2 (by simp)
  go_wp2_with fail
  clear k463 k464 k465 k466 k467 k468 k469 k470 k471 k472 k473 k474 k475 k476 k477 k478 k479 k480 k481 k482 k483 k484
  refine (heldStore_o _ _ _ _ _ hbe97_0 (by omega) (by omega) (ownL.rds o326) (ownL.rds o327)).mono ?_
  rintro e w485 ⟨rfl, b486⟩
  have t487 := Below.trans t460 (Below.mono b486 zb0)
  have s488 := Below.trans s461 (Below.mono b486 za0)
  replace o257 := ownL.keep o257 (fun q hq => Below.block b486 q (hs52 q hq))
  replace hs52 := fun q hq => Nat.lt_of_lt_of_le (hs52 q hq) (Below.size b486)
  replace o258 := ownL.keep o258 (fun q hq => Below.block b486 q (hs57 q hq))
  replace hs57 := fun q hq => Nat.lt_of_lt_of_le (hs57 q hq) (Below.size b486)
  replace o326 := ownL.keep o326 (fun q hq => Below.block b486 q (hs98 q hq))
  replace hs98 := fun q hq => Nat.lt_of_lt_of_le (hs98 q hq) (Below.size b486)
  replace o327 := ownL.keep o327 (fun q hq => Below.block b486 q (hs99 q hq))
  replace hs99 := fun q hq => Nat.lt_of_lt_of_le (hs99 q hq) (Below.size b486)
  replace oe371_00 := ownL.keep oe371_00 (fun q hq => Below.block b486 q (hs372 q hq))
  replace hs372 := fun q hq => Nat.lt_of_lt_of_le (hs372 q hq) (Below.size b486)
  replace oe371_01 := ownL.keep oe371_01 (fun q hq => Below.block b486 q (hs373 q hq))
  replace hs373 := fun q hq => Nat.lt_of_lt_of_le (hs373 q hq) (Below.size b486)
  replace bx_aS := Box.below bx_aS b486
  replace bx_aF := Box.below bx_aF b486
  replace bxe15_0 := Box.below bxe15_0 b486
  replace bxe15_1 := Box.below bxe15_1 b486
  replace bx84 := Box.below bx84 b486
  replace bxe97_0 := Box.below bxe97_0 b486
  replace bxe97_1 := Box.below bxe97_1 b486
  replace bxe371_0 := Box.below bxe371_0 b486
  replace bxe371_1 := Box.below bxe371_1 b486
  have z489 := Below.size b486
  replace zb0 : W2.heap.size ≤ w485.heap.size := by omega
  replace za0 : w25.heap.size ≤ w485.heap.size := by omega
  have k490 : w485.cell? ⟨w.heap.size, 0, none⟩ = some ((Value.slice a_aS0 d_aS.heads_.length c_aS0)) := bx_aS.2 0 (by simp)
  have k491 : w485.cell? ⟨w.heap.size, 1, none⟩ = some ((Value.slice a_aS1 d_aS.descs_.length c_aS1)) := bx_aS.2 1 (by simp)
  have k492 : w485.cell? ⟨w.heap.size + 1, 0, none⟩ = some (Value.int .i64 d_aF.desc_) := bx_aF.2 0 (by simp)
  have k493 : w485.cell? ⟨w.heap.size + 1, 1, none⟩ = some (Value.int .i64 d_aF.phase_) := bx_aF.2 1 (by simp)
  have k494 : w485.cell? ⟨w.heap.size + 1, 2, none⟩ = some (Value.int .i64 d_aF.at_) := bx_aF.2 2 (by simp)
  have k495 : w485.cell? ⟨Be15_0, 0, none⟩ = some ((Value.slice a29 m30 c31)) := bxe15_0.2 0 (by simp)
  have k496 : w485.cell? ⟨Be15_0, 1, none⟩ = some ((Value.slice a32 m33 c34)) := bxe15_0.2 1 (by simp)
  have k497 : w485.cell? ⟨Be15_1, 0, none⟩ = some (Value.int .i64 (driveF d_aS d_aF).desc_) := bxe15_1.2 0 (by simp)
  have k498 : w485.cell? ⟨Be15_1, 1, none⟩ = some (Value.int .i64 (driveF d_aS d_aF).phase_) := bxe15_1.2 1 (by simp)
  have k499 : w485.cell? ⟨Be15_1, 2, none⟩ = some (Value.int .i64 (driveF d_aS d_aF).at_) := bxe15_1.2 2 (by simp)
  have k500 : w485.cell? ⟨w46.heap.size, 0, none⟩ = some ((Value.slice a62 m63 c64)) := bx84.2 0 (by simp)
  have k501 : w485.cell? ⟨w46.heap.size, 1, none⟩ = some ((Value.slice a65 m66 c67)) := bx84.2 1 (by simp)
  have k502 : w485.cell? ⟨Be97_0, 0, none⟩ = some ((Value.slice a122 m123 c124)) := bxe97_0.2 0 (by simp)
  have k503 : w485.cell? ⟨Be97_0, 1, none⟩ = some ((Value.slice a125 m126 c127)) := bxe97_0.2 1 (by simp)
  have k504 : w485.cell? ⟨Be97_1, 0, none⟩ = some (Value.int .i64 (driveF d_aS d_aF).desc_) := bxe97_1.2 0 (by simp)
  have k505 : w485.cell? ⟨Be97_1, 1, none⟩ = some (Value.int .i64 (driveF d_aS d_aF).phase_) := bxe97_1.2 1 (by simp)
  have k506 : w485.cell? ⟨Be97_1, 2, none⟩ = some (Value.int .i64 (driveF d_aS d_aF).at_) := bxe97_1.2 2 (by simp)
  have k507 : w485.cell? ⟨Be371_0, 0, none⟩ = some ((Value.slice a403 m404 c405)) := bxe371_0.2 0 (by simp)
  have k508 : w485.cell? ⟨Be371_0, 1, none⟩ = some ((Value.slice a406 m407 c408)) := bxe371_0.2 1 (by simp)
  have k509 : w485.cell? ⟨Be371_1, 0, none⟩ = some (Value.int .i64 (driveF d_aS d_aF).desc_) := bxe371_1.2 0 (by simp)
  have k510 : w485.cell? ⟨Be371_1, 1, none⟩ = some (Value.int .i64 (driveF d_aS d_aF).phase_) := bxe371_1.2 1 (by simp)
  have k511 : w485.cell? ⟨Be371_1, 2, none⟩ = some (Value.int .i64 (driveF d_aS d_aF).at_) := bxe371_1.2 2 (by simp)
  go_wp2_with fail
  clear k490 k491 k492 k493 k494 k495 k496 k497 k498 k499 k500 k501 k502 k503 k504 k505 k506 k507 k508 k509 k510 k511
  try go_wp2
  go_ret
  exact ⟨rfl, hB0.trans (Below.mono t487 hB0.size)⟩

end Go.Proofs.Ytambpjjfndnadaa
