/- FnExactIdle, walked. -/
import Derived.Test.YtikiaffgjpddeaaW10
import Derived.Test.YtikiaffgjpddeaaBx
import Derived.Test.YtikiaffgjpddeaaEnc4
import Derived.Test.YtikiaffgjpddeaaHop
import Derived.Test.YtikiaffgjpddeaaWr3
import Derived.Test.YtikiaffgjpddeaaKeep2
import Derived.Deep.RegionHeld3
import Derived.Deep.Cut
import Derived.StillTailTactics
namespace Go.Proofs.Ytikiaffgjpddeaa
set_option maxRecDepth 100000
open Go.RowKit Go.Proofs Go.Own
set_option linter.unusedVariables false

set_option maxRecDepth 100000 in
set_option maxHeartbeats 8000000 in
theorem law_Idle (d_aT : ThreadD) (v_aT0 v_aT1 v_aT2 : Value) (w : World) (h_aT0 : rdsL w v_aT0 d_aT.prog_) (h_aT1 : rdsL w v_aT1 d_aT.open_) (h_aT2 : rdsL w v_aT2 d_aT.stack_) :
    Calls Try.prog 5 #[(.agg #[.int .i64 d_aT.id_, v_aT0, .int .i64 d_aT.at_, .int .i64 d_aT.reg0_, .int .i64 d_aT.reg1_, .int .i64 d_aT.reg2_, .int .i64 d_aT.reg3_, v_aT1, .int .i64 d_aT.check_, v_aT2, .int .i64 d_aT.mine_, .int .i64 d_aT.state_, .int .i64 d_aT.commits_, .int .i64 d_aT.fails_])] w fun e w' => e = .returned (.bool true) ∧ Below w.heap.size w w' := by
  obtain ⟨a_aT0, c_aT0, rfl, -, -, -⟩ := rdsL_open h_aT0
  obtain ⟨a_aT1, c_aT1, rfl, -, -, -⟩ := rdsL_open h_aT1
  obtain ⟨a_aT2, c_aT2, rfl, -, -, -⟩ := rdsL_open h_aT2
  obtain ⟨W1, hW1⟩ : ∃ X, w.alloc (.cells #[Value.int .i64 d_aT.id_, (Value.slice a_aT0 d_aT.prog_.length c_aT0), Value.int .i64 d_aT.at_, Value.int .i64 d_aT.reg0_, Value.int .i64 d_aT.reg1_, Value.int .i64 d_aT.reg2_, Value.int .i64 d_aT.reg3_, (Value.slice a_aT1 d_aT.open_.length c_aT1), Value.int .i64 d_aT.check_, (Value.slice a_aT2 d_aT.stack_.length c_aT2), Value.int .i64 d_aT.mine_, Value.int .i64 d_aT.state_, Value.int .i64 d_aT.commits_, Value.int .i64 d_aT.fails_] 31) = X := ⟨_, rfl⟩
  have hbx1 : Below w.heap.size w W1 := by rw [← hW1]; exact (Below.refl _ _).alloc (Nat.le_refl _) _
  have zw1 : W1.heap.size = w.heap.size + 1 := by rw [← hW1]; simp
  have bx_aT : Box W1 (w.heap.size) [Value.int .i64 d_aT.id_, (Value.slice a_aT0 d_aT.prog_.length c_aT0), Value.int .i64 d_aT.at_, Value.int .i64 d_aT.reg0_, Value.int .i64 d_aT.reg1_, Value.int .i64 d_aT.reg2_, Value.int .i64 d_aT.reg3_, (Value.slice a_aT1 d_aT.open_.length c_aT1), Value.int .i64 d_aT.check_, (Value.slice a_aT2 d_aT.stack_.length c_aT2), Value.int .i64 d_aT.mine_, Value.int .i64 d_aT.state_, Value.int .i64 d_aT.commits_, Value.int .i64 d_aT.fails_] := by rw [← hW1]; exact Box.alloc _ _ _
  have hB0 : Below w.heap.size w W1 := hbx1
  replace h_aT0 := rdsL.below h_aT0 hB0
  replace h_aT1 := rdsL.below h_aT1 hB0
  replace h_aT2 := rdsL.below h_aT2 hB0
  have tt0 : Below W1.heap.size W1 W1 := Below.refl _ _
  have zb0 : W1.heap.size ≤ W1.heap.size := Nat.le_refl _
  go_enter Try.func5, Try.ntmps5
  have k1 : W1.cell? ⟨w.heap.size, 0, none⟩ = some (Value.int .i64 d_aT.id_) := bx_aT.2 0 (by simp)
  have k2 : W1.cell? ⟨w.heap.size, 1, none⟩ = some ((Value.slice a_aT0 d_aT.prog_.length c_aT0)) := bx_aT.2 1 (by simp)
  have k3 : W1.cell? ⟨w.heap.size, 2, none⟩ = some (Value.int .i64 d_aT.at_) := bx_aT.2 2 (by simp)
  have k4 : W1.cell? ⟨w.heap.size, 3, none⟩ = some (Value.int .i64 d_aT.reg0_) := bx_aT.2 3 (by simp)
  have k5 : W1.cell? ⟨w.heap.size, 4, none⟩ = some (Value.int .i64 d_aT.reg1_) := bx_aT.2 4 (by simp)
  have k6 : W1.cell? ⟨w.heap.size, 5, none⟩ = some (Value.int .i64 d_aT.reg2_) := bx_aT.2 5 (by simp)
  have k7 : W1.cell? ⟨w.heap.size, 6, none⟩ = some (Value.int .i64 d_aT.reg3_) := bx_aT.2 6 (by simp)
  have k8 : W1.cell? ⟨w.heap.size, 7, none⟩ = some ((Value.slice a_aT1 d_aT.open_.length c_aT1)) := bx_aT.2 7 (by simp)
  have k9 : W1.cell? ⟨w.heap.size, 8, none⟩ = some (Value.int .i64 d_aT.check_) := bx_aT.2 8 (by simp)
  have k10 : W1.cell? ⟨w.heap.size, 9, none⟩ = some ((Value.slice a_aT2 d_aT.stack_.length c_aT2)) := bx_aT.2 9 (by simp)
  have k11 : W1.cell? ⟨w.heap.size, 10, none⟩ = some (Value.int .i64 d_aT.mine_) := bx_aT.2 10 (by simp)
  have k12 : W1.cell? ⟨w.heap.size, 11, none⟩ = some (Value.int .i64 d_aT.state_) := bx_aT.2 11 (by simp)
  have k13 : W1.cell? ⟨w.heap.size, 12, none⟩ = some (Value.int .i64 d_aT.commits_) := bx_aT.2 12 (by simp)
  have k14 : W1.cell? ⟨w.heap.size, 13, none⟩ = some (Value.int .i64 d_aT.fails_) := bx_aT.2 13 (by simp)
  go_wp2_with fail
  clear k1 k2 k3 k4 k5 k6 k7 k8 k9 k10 k11 k12 k13 k14 hW1
  have hl0_aT : 0 ≤ (1048576 : Int) := by omega
  refine (szThread_o d_aT (Value.slice a_aT0 d_aT.prog_.length c_aT0) (Value.slice a_aT1 d_aT.open_.length c_aT1) (Value.slice a_aT2 d_aT.stack_.length c_aT2) _ _ (by omega) (by omega) (rdsL.below h_aT0 tt0) (rdsL.below h_aT1 tt0) (rdsL.below h_aT2 tt0)).mono ?_
  rintro e w15 ⟨rfl, b16⟩
  have t17 := Below.trans tt0 (Below.mono b16 zb0)
  replace bx_aT := Box.below bx_aT b16
  have z18 := Below.size b16
  replace zb0 : W1.heap.size ≤ w15.heap.size := by omega
  by_cases big_aT : (1048576 : Int) < (szThreadD d_aT : Int)
  · rw [szR_of, if_pos big_aT]
    go_wp2
    go_ret
    exact ⟨rfl, hB0.trans (Below.mono t17 hB0.size)⟩
  rw [szR_of, if_neg big_aT]
  have k19 : w15.cell? ⟨w.heap.size, 0, none⟩ = some (Value.int .i64 d_aT.id_) := bx_aT.2 0 (by simp)
  have k20 : w15.cell? ⟨w.heap.size, 1, none⟩ = some ((Value.slice a_aT0 d_aT.prog_.length c_aT0)) := bx_aT.2 1 (by simp)
  have k21 : w15.cell? ⟨w.heap.size, 2, none⟩ = some (Value.int .i64 d_aT.at_) := bx_aT.2 2 (by simp)
  have k22 : w15.cell? ⟨w.heap.size, 3, none⟩ = some (Value.int .i64 d_aT.reg0_) := bx_aT.2 3 (by simp)
  have k23 : w15.cell? ⟨w.heap.size, 4, none⟩ = some (Value.int .i64 d_aT.reg1_) := bx_aT.2 4 (by simp)
  have k24 : w15.cell? ⟨w.heap.size, 5, none⟩ = some (Value.int .i64 d_aT.reg2_) := bx_aT.2 5 (by simp)
  have k25 : w15.cell? ⟨w.heap.size, 6, none⟩ = some (Value.int .i64 d_aT.reg3_) := bx_aT.2 6 (by simp)
  have k26 : w15.cell? ⟨w.heap.size, 7, none⟩ = some ((Value.slice a_aT1 d_aT.open_.length c_aT1)) := bx_aT.2 7 (by simp)
  have k27 : w15.cell? ⟨w.heap.size, 8, none⟩ = some (Value.int .i64 d_aT.check_) := bx_aT.2 8 (by simp)
  have k28 : w15.cell? ⟨w.heap.size, 9, none⟩ = some ((Value.slice a_aT2 d_aT.stack_.length c_aT2)) := bx_aT.2 9 (by simp)
  have k29 : w15.cell? ⟨w.heap.size, 10, none⟩ = some (Value.int .i64 d_aT.mine_) := bx_aT.2 10 (by simp)
  have k30 : w15.cell? ⟨w.heap.size, 11, none⟩ = some (Value.int .i64 d_aT.state_) := bx_aT.2 11 (by simp)
  have k31 : w15.cell? ⟨w.heap.size, 12, none⟩ = some (Value.int .i64 d_aT.commits_) := bx_aT.2 12 (by simp)
  have k32 : w15.cell? ⟨w.heap.size, 13, none⟩ = some (Value.int .i64 d_aT.fails_) := bx_aT.2 13 (by simp)
  go_wp2_with fail
  clear k19 k20 k21 k22 k23 k24 k25 k26 k27 k28 k29 k30 k31 k32
  have hb_aT : ThreadB d_aT := by show _ ≤ 1048576; have := big_aT; unfold szThreadD at *; omega
  refine (toThread_o d_aT (Value.slice a_aT0 d_aT.prog_.length c_aT0) (Value.slice a_aT1 d_aT.open_.length c_aT1) (Value.slice a_aT2 d_aT.stack_.length c_aT2) _ (rdsL.below h_aT0 t17) (rdsL.below h_aT1 t17) (rdsL.below h_aT2 t17) hb_aT).mono ?_
  rintro e w33 ⟨u35, u40, u45, S36, S41, S46, rfl, o37, o42, o47, r38, r43, r48, dj50, dj51, dj52, b34⟩
  have t53 := Below.trans t17 (Below.mono b34 zb0)
  replace bx_aT := Box.below bx_aT b34
  have z54 := Below.size b34
  replace zb0 : W1.heap.size ≤ w33.heap.size := by omega
  obtain ⟨a55, m56, c57, rfl⟩ := ownL_shape o37
  have hs39 := fun q hq => (r38 q hq).2
  obtain ⟨a58, m59, c60, rfl⟩ := ownL_shape o42
  have hs44 := fun q hq => (r43 q hq).2
  obtain ⟨a61, m62, c63, rfl⟩ := ownL_shape o47
  have hs49 := fun q hq => (r48 q hq).2
  have k64 : w33.cell? ⟨w.heap.size, 0, none⟩ = some (Value.int .i64 d_aT.id_) := bx_aT.2 0 (by simp)
  have k65 : w33.cell? ⟨w.heap.size, 1, none⟩ = some ((Value.slice a_aT0 d_aT.prog_.length c_aT0)) := bx_aT.2 1 (by simp)
  have k66 : w33.cell? ⟨w.heap.size, 2, none⟩ = some (Value.int .i64 d_aT.at_) := bx_aT.2 2 (by simp)
  have k67 : w33.cell? ⟨w.heap.size, 3, none⟩ = some (Value.int .i64 d_aT.reg0_) := bx_aT.2 3 (by simp)
  have k68 : w33.cell? ⟨w.heap.size, 4, none⟩ = some (Value.int .i64 d_aT.reg1_) := bx_aT.2 4 (by simp)
  have k69 : w33.cell? ⟨w.heap.size, 5, none⟩ = some (Value.int .i64 d_aT.reg2_) := bx_aT.2 5 (by simp)
  have k70 : w33.cell? ⟨w.heap.size, 6, none⟩ = some (Value.int .i64 d_aT.reg3_) := bx_aT.2 6 (by simp)
  have k71 : w33.cell? ⟨w.heap.size, 7, none⟩ = some ((Value.slice a_aT1 d_aT.open_.length c_aT1)) := bx_aT.2 7 (by simp)
  have k72 : w33.cell? ⟨w.heap.size, 8, none⟩ = some (Value.int .i64 d_aT.check_) := bx_aT.2 8 (by simp)
  have k73 : w33.cell? ⟨w.heap.size, 9, none⟩ = some ((Value.slice a_aT2 d_aT.stack_.length c_aT2)) := bx_aT.2 9 (by simp)
  have k74 : w33.cell? ⟨w.heap.size, 10, none⟩ = some (Value.int .i64 d_aT.mine_) := bx_aT.2 10 (by simp)
  have k75 : w33.cell? ⟨w.heap.size, 11, none⟩ = some (Value.int .i64 d_aT.state_) := bx_aT.2 11 (by simp)
  have k76 : w33.cell? ⟨w.heap.size, 12, none⟩ = some (Value.int .i64 d_aT.commits_) := bx_aT.2 12 (by simp)
  have k77 : w33.cell? ⟨w.heap.size, 13, none⟩ = some (Value.int .i64 d_aT.fails_) := bx_aT.2 13 (by simp)
  go_wp2_with fail
  clear k64 k65 k66 k67 k68 k69 k70 k71 k72 k73 k74 k75 k76 k77
  refine (spec_IdleW d_aT (Value.slice a55 m56 c57) (Value.slice a58 m59 c60) (Value.slice a61 m62 c63) _ (ownL.rds o37) (ownL.rds o42) (ownL.rds o47) hb_aT).mono ?_
  rintro e w78 ⟨rfl, b79⟩
  have t80 := Below.trans t53 (Below.mono b79 zb0)
  replace bx_aT := Box.below bx_aT b79
  have z81 := Below.size b79
  replace zb0 : W1.heap.size ≤ w78.heap.size := by omega
  have s82 : Below w78.heap.size w78 w78 := Below.refl _ _
  have za0 : w78.heap.size ≤ w78.heap.size := Nat.le_refl _
  have k83 : w78.cell? ⟨w.heap.size, 0, none⟩ = some (Value.int .i64 d_aT.id_) := bx_aT.2 0 (by simp)
  have k84 : w78.cell? ⟨w.heap.size, 1, none⟩ = some ((Value.slice a_aT0 d_aT.prog_.length c_aT0)) := bx_aT.2 1 (by simp)
  have k85 : w78.cell? ⟨w.heap.size, 2, none⟩ = some (Value.int .i64 d_aT.at_) := bx_aT.2 2 (by simp)
  have k86 : w78.cell? ⟨w.heap.size, 3, none⟩ = some (Value.int .i64 d_aT.reg0_) := bx_aT.2 3 (by simp)
  have k87 : w78.cell? ⟨w.heap.size, 4, none⟩ = some (Value.int .i64 d_aT.reg1_) := bx_aT.2 4 (by simp)
  have k88 : w78.cell? ⟨w.heap.size, 5, none⟩ = some (Value.int .i64 d_aT.reg2_) := bx_aT.2 5 (by simp)
  have k89 : w78.cell? ⟨w.heap.size, 6, none⟩ = some (Value.int .i64 d_aT.reg3_) := bx_aT.2 6 (by simp)
  have k90 : w78.cell? ⟨w.heap.size, 7, none⟩ = some ((Value.slice a_aT1 d_aT.open_.length c_aT1)) := bx_aT.2 7 (by simp)
  have k91 : w78.cell? ⟨w.heap.size, 8, none⟩ = some (Value.int .i64 d_aT.check_) := bx_aT.2 8 (by simp)
  have k92 : w78.cell? ⟨w.heap.size, 9, none⟩ = some ((Value.slice a_aT2 d_aT.stack_.length c_aT2)) := bx_aT.2 9 (by simp)
  have k93 : w78.cell? ⟨w.heap.size, 10, none⟩ = some (Value.int .i64 d_aT.mine_) := bx_aT.2 10 (by simp)
  have k94 : w78.cell? ⟨w.heap.size, 11, none⟩ = some (Value.int .i64 d_aT.state_) := bx_aT.2 11 (by simp)
  have k95 : w78.cell? ⟨w.heap.size, 12, none⟩ = some (Value.int .i64 d_aT.commits_) := bx_aT.2 12 (by simp)
  have k96 : w78.cell? ⟨w.heap.size, 13, none⟩ = some (Value.int .i64 d_aT.fails_) := bx_aT.2 13 (by simp)
  go_wp2_with fail
  clear k83 k84 k85 k86 k87 k88 k89 k90 k91 k92 k93 k94 k95 k96
  refine (toThread_o d_aT (Value.slice a_aT0 d_aT.prog_.length c_aT0) (Value.slice a_aT1 d_aT.open_.length c_aT1) (Value.slice a_aT2 d_aT.stack_.length c_aT2) _ (rdsL.below h_aT0 t80) (rdsL.below h_aT1 t80) (rdsL.below h_aT2 t80) hb_aT).mono ?_
  rintro e w97 ⟨u99, u104, u109, S100, S105, S110, rfl, o101, o106, o111, r102, r107, r112, dj114, dj115, dj116, b98⟩
  have t117 := Below.trans t80 (Below.mono b98 zb0)
  have s118 := Below.trans s82 (Below.mono b98 za0)
  replace bx_aT := Box.below bx_aT b98
  have z119 := Below.size b98
  replace zb0 : W1.heap.size ≤ w97.heap.size := by omega
  replace za0 : w78.heap.size ≤ w97.heap.size := by omega
  obtain ⟨a120, m121, c122, rfl⟩ := ownL_shape o101
  have hs103 := fun q hq => (r102 q hq).2
  obtain ⟨a123, m124, c125, rfl⟩ := ownL_shape o106
  have hs108 := fun q hq => (r107 q hq).2
  obtain ⟨a126, m127, c128, rfl⟩ := ownL_shape o111
  have hs113 := fun q hq => (r112 q hq).2
  have k129 : w97.cell? ⟨w.heap.size, 0, none⟩ = some (Value.int .i64 d_aT.id_) := bx_aT.2 0 (by simp)
  have k130 : w97.cell? ⟨w.heap.size, 1, none⟩ = some ((Value.slice a_aT0 d_aT.prog_.length c_aT0)) := bx_aT.2 1 (by simp)
  have k131 : w97.cell? ⟨w.heap.size, 2, none⟩ = some (Value.int .i64 d_aT.at_) := bx_aT.2 2 (by simp)
  have k132 : w97.cell? ⟨w.heap.size, 3, none⟩ = some (Value.int .i64 d_aT.reg0_) := bx_aT.2 3 (by simp)
  have k133 : w97.cell? ⟨w.heap.size, 4, none⟩ = some (Value.int .i64 d_aT.reg1_) := bx_aT.2 4 (by simp)
  have k134 : w97.cell? ⟨w.heap.size, 5, none⟩ = some (Value.int .i64 d_aT.reg2_) := bx_aT.2 5 (by simp)
  have k135 : w97.cell? ⟨w.heap.size, 6, none⟩ = some (Value.int .i64 d_aT.reg3_) := bx_aT.2 6 (by simp)
  have k136 : w97.cell? ⟨w.heap.size, 7, none⟩ = some ((Value.slice a_aT1 d_aT.open_.length c_aT1)) := bx_aT.2 7 (by simp)
  have k137 : w97.cell? ⟨w.heap.size, 8, none⟩ = some (Value.int .i64 d_aT.check_) := bx_aT.2 8 (by simp)
  have k138 : w97.cell? ⟨w.heap.size, 9, none⟩ = some ((Value.slice a_aT2 d_aT.stack_.length c_aT2)) := bx_aT.2 9 (by simp)
  have k139 : w97.cell? ⟨w.heap.size, 10, none⟩ = some (Value.int .i64 d_aT.mine_) := bx_aT.2 10 (by simp)
  have k140 : w97.cell? ⟨w.heap.size, 11, none⟩ = some (Value.int .i64 d_aT.state_) := bx_aT.2 11 (by simp)
  have k141 : w97.cell? ⟨w.heap.size, 12, none⟩ = some (Value.int .i64 d_aT.commits_) := bx_aT.2 12 (by simp)
  have k142 : w97.cell? ⟨w.heap.size, 13, none⟩ = some (Value.int .i64 d_aT.fails_) := bx_aT.2 13 (by simp)
  obtain ⟨X143, hX144⟩ : ∃ X, w97.alloc (.cells #[Value.int .i64 d_aT.id_, (Value.slice a120 m121 c122), Value.int .i64 d_aT.at_, Value.int .i64 d_aT.reg0_, Value.int .i64 d_aT.reg1_, Value.int .i64 d_aT.reg2_, Value.int .i64 d_aT.reg3_, (Value.slice a123 m124 c125), Value.int .i64 d_aT.check_, (Value.slice a126 m127 c128), Value.int .i64 d_aT.mine_, Value.int .i64 d_aT.state_, Value.int .i64 d_aT.commits_, Value.int .i64 d_aT.fails_] 44) = X := ⟨_, rfl⟩
  have bX145 : Below w97.heap.size w97 X143 := by rw [← hX144]; exact (Below.refl _ _).alloc (Nat.le_refl _) _
  have zX143 : X143.heap.size = w97.heap.size + 1 := by rw [← hX144]; simp
  have t146 := Below.trans t117 (Below.mono bX145 zb0)
  have s147 := Below.trans s118 (Below.mono bX145 za0)
  replace o101 := ownL.keep o101 (fun q hq => Below.block bX145 q (hs103 q hq))
  replace hs103 := fun q hq => Nat.lt_of_lt_of_le (hs103 q hq) (Below.size bX145)
  replace o106 := ownL.keep o106 (fun q hq => Below.block bX145 q (hs108 q hq))
  replace hs108 := fun q hq => Nat.lt_of_lt_of_le (hs108 q hq) (Below.size bX145)
  replace o111 := ownL.keep o111 (fun q hq => Below.block bX145 q (hs113 q hq))
  replace hs113 := fun q hq => Nat.lt_of_lt_of_le (hs113 q hq) (Below.size bX145)
  replace bx_aT := Box.below bx_aT bX145
  have z148 := Below.size bX145
  replace zb0 : W1.heap.size ≤ X143.heap.size := by omega
  replace za0 : w78.heap.size ≤ X143.heap.size := by omega
  have bx149 : Box X143 (w97.heap.size) [Value.int .i64 d_aT.id_, (Value.slice a120 m121 c122), Value.int .i64 d_aT.at_, Value.int .i64 d_aT.reg0_, Value.int .i64 d_aT.reg1_, Value.int .i64 d_aT.reg2_, Value.int .i64 d_aT.reg3_, (Value.slice a123 m124 c125), Value.int .i64 d_aT.check_, (Value.slice a126 m127 c128), Value.int .i64 d_aT.mine_, Value.int .i64 d_aT.state_, Value.int .i64 d_aT.commits_, Value.int .i64 d_aT.fails_] := by rw [← hX144]; exact Box.alloc _ _ _
  have k150 : X143.cell? ⟨w.heap.size, 0, none⟩ = some (Value.int .i64 d_aT.id_) := bx_aT.2 0 (by simp)
  have k151 : X143.cell? ⟨w.heap.size, 1, none⟩ = some ((Value.slice a_aT0 d_aT.prog_.length c_aT0)) := bx_aT.2 1 (by simp)
  have k152 : X143.cell? ⟨w.heap.size, 2, none⟩ = some (Value.int .i64 d_aT.at_) := bx_aT.2 2 (by simp)
  have k153 : X143.cell? ⟨w.heap.size, 3, none⟩ = some (Value.int .i64 d_aT.reg0_) := bx_aT.2 3 (by simp)
  have k154 : X143.cell? ⟨w.heap.size, 4, none⟩ = some (Value.int .i64 d_aT.reg1_) := bx_aT.2 4 (by simp)
  have k155 : X143.cell? ⟨w.heap.size, 5, none⟩ = some (Value.int .i64 d_aT.reg2_) := bx_aT.2 5 (by simp)
  have k156 : X143.cell? ⟨w.heap.size, 6, none⟩ = some (Value.int .i64 d_aT.reg3_) := bx_aT.2 6 (by simp)
  have k157 : X143.cell? ⟨w.heap.size, 7, none⟩ = some ((Value.slice a_aT1 d_aT.open_.length c_aT1)) := bx_aT.2 7 (by simp)
  have k158 : X143.cell? ⟨w.heap.size, 8, none⟩ = some (Value.int .i64 d_aT.check_) := bx_aT.2 8 (by simp)
  have k159 : X143.cell? ⟨w.heap.size, 9, none⟩ = some ((Value.slice a_aT2 d_aT.stack_.length c_aT2)) := bx_aT.2 9 (by simp)
  have k160 : X143.cell? ⟨w.heap.size, 10, none⟩ = some (Value.int .i64 d_aT.mine_) := bx_aT.2 10 (by simp)
  have k161 : X143.cell? ⟨w.heap.size, 11, none⟩ = some (Value.int .i64 d_aT.state_) := bx_aT.2 11 (by simp)
  have k162 : X143.cell? ⟨w.heap.size, 12, none⟩ = some (Value.int .i64 d_aT.commits_) := bx_aT.2 12 (by simp)
  have k163 : X143.cell? ⟨w.heap.size, 13, none⟩ = some (Value.int .i64 d_aT.fails_) := bx_aT.2 13 (by simp)
  have k164 : X143.cell? ⟨w97.heap.size, 0, none⟩ = some (Value.int .i64 d_aT.id_) := bx149.2 0 (by simp)
  have k165 : X143.cell? ⟨w97.heap.size, 1, none⟩ = some ((Value.slice a120 m121 c122)) := bx149.2 1 (by simp)
  have k166 : X143.cell? ⟨w97.heap.size, 2, none⟩ = some (Value.int .i64 d_aT.at_) := bx149.2 2 (by simp)
  have k167 : X143.cell? ⟨w97.heap.size, 3, none⟩ = some (Value.int .i64 d_aT.reg0_) := bx149.2 3 (by simp)
  have k168 : X143.cell? ⟨w97.heap.size, 4, none⟩ = some (Value.int .i64 d_aT.reg1_) := bx149.2 4 (by simp)
  have k169 : X143.cell? ⟨w97.heap.size, 5, none⟩ = some (Value.int .i64 d_aT.reg2_) := bx149.2 5 (by simp)
  have k170 : X143.cell? ⟨w97.heap.size, 6, none⟩ = some (Value.int .i64 d_aT.reg3_) := bx149.2 6 (by simp)
  have k171 : X143.cell? ⟨w97.heap.size, 7, none⟩ = some ((Value.slice a123 m124 c125)) := bx149.2 7 (by simp)
  have k172 : X143.cell? ⟨w97.heap.size, 8, none⟩ = some (Value.int .i64 d_aT.check_) := bx149.2 8 (by simp)
  have k173 : X143.cell? ⟨w97.heap.size, 9, none⟩ = some ((Value.slice a126 m127 c128)) := bx149.2 9 (by simp)
  have k174 : X143.cell? ⟨w97.heap.size, 10, none⟩ = some (Value.int .i64 d_aT.mine_) := bx149.2 10 (by simp)
  have k175 : X143.cell? ⟨w97.heap.size, 11, none⟩ = some (Value.int .i64 d_aT.state_) := bx149.2 11 (by simp)
  have k176 : X143.cell? ⟨w97.heap.size, 12, none⟩ = some (Value.int .i64 d_aT.commits_) := bx149.2 12 (by simp)
  have k177 : X143.cell? ⟨w97.heap.size, 13, none⟩ = some (Value.int .i64 d_aT.fails_) := bx149.2 13 (by simp)
  go_wp2_with fail
  clear k129 k130 k131 k132 k133 k134 k135 k136 k137 k138 k139 k140 k141 k142 k150 k151 k152 k153 k154 k155 k156 k157 k158 k159 k160 k161 k162 k163 k164 k165 k166 k167 k168 k169 k170 k171 k172 k173 k174 k175 k176 k177 hX144
  refine (impl_IdleW d_aT (Value.slice a120 m121 c122) (Value.slice a123 m124 c125) (Value.slice a126 m127 c128) _ (ownL.rds o101) (ownL.rds o106) (ownL.rds o111) hb_aT).mono ?_
  rintro e w178 ⟨rfl, b179⟩
  have t180 := Below.trans t146 (Below.mono b179 zb0)
  have s181 := Below.trans s147 (Below.mono b179 za0)
  replace o101 := ownL.keep o101 (fun q hq => Below.block b179 q (hs103 q hq))
  replace hs103 := fun q hq => Nat.lt_of_lt_of_le (hs103 q hq) (Below.size b179)
  replace o106 := ownL.keep o106 (fun q hq => Below.block b179 q (hs108 q hq))
  replace hs108 := fun q hq => Nat.lt_of_lt_of_le (hs108 q hq) (Below.size b179)
  replace o111 := ownL.keep o111 (fun q hq => Below.block b179 q (hs113 q hq))
  replace hs113 := fun q hq => Nat.lt_of_lt_of_le (hs113 q hq) (Below.size b179)
  replace bx_aT := Box.below bx_aT b179
  replace bx149 := Box.below bx149 b179
  have z182 := Below.size b179
  replace zb0 : W1.heap.size ≤ w178.heap.size := by omega
  replace za0 : w78.heap.size ≤ w178.heap.size := by omega
  have k183 : w178.cell? ⟨w.heap.size, 0, none⟩ = some (Value.int .i64 d_aT.id_) := bx_aT.2 0 (by simp)
  have k184 : w178.cell? ⟨w.heap.size, 1, none⟩ = some ((Value.slice a_aT0 d_aT.prog_.length c_aT0)) := bx_aT.2 1 (by simp)
  have k185 : w178.cell? ⟨w.heap.size, 2, none⟩ = some (Value.int .i64 d_aT.at_) := bx_aT.2 2 (by simp)
  have k186 : w178.cell? ⟨w.heap.size, 3, none⟩ = some (Value.int .i64 d_aT.reg0_) := bx_aT.2 3 (by simp)
  have k187 : w178.cell? ⟨w.heap.size, 4, none⟩ = some (Value.int .i64 d_aT.reg1_) := bx_aT.2 4 (by simp)
  have k188 : w178.cell? ⟨w.heap.size, 5, none⟩ = some (Value.int .i64 d_aT.reg2_) := bx_aT.2 5 (by simp)
  have k189 : w178.cell? ⟨w.heap.size, 6, none⟩ = some (Value.int .i64 d_aT.reg3_) := bx_aT.2 6 (by simp)
  have k190 : w178.cell? ⟨w.heap.size, 7, none⟩ = some ((Value.slice a_aT1 d_aT.open_.length c_aT1)) := bx_aT.2 7 (by simp)
  have k191 : w178.cell? ⟨w.heap.size, 8, none⟩ = some (Value.int .i64 d_aT.check_) := bx_aT.2 8 (by simp)
  have k192 : w178.cell? ⟨w.heap.size, 9, none⟩ = some ((Value.slice a_aT2 d_aT.stack_.length c_aT2)) := bx_aT.2 9 (by simp)
  have k193 : w178.cell? ⟨w.heap.size, 10, none⟩ = some (Value.int .i64 d_aT.mine_) := bx_aT.2 10 (by simp)
  have k194 : w178.cell? ⟨w.heap.size, 11, none⟩ = some (Value.int .i64 d_aT.state_) := bx_aT.2 11 (by simp)
  have k195 : w178.cell? ⟨w.heap.size, 12, none⟩ = some (Value.int .i64 d_aT.commits_) := bx_aT.2 12 (by simp)
  have k196 : w178.cell? ⟨w.heap.size, 13, none⟩ = some (Value.int .i64 d_aT.fails_) := bx_aT.2 13 (by simp)
  have k197 : w178.cell? ⟨w97.heap.size, 0, none⟩ = some (Value.int .i64 d_aT.id_) := bx149.2 0 (by simp)
  have k198 : w178.cell? ⟨w97.heap.size, 1, none⟩ = some ((Value.slice a120 m121 c122)) := bx149.2 1 (by simp)
  have k199 : w178.cell? ⟨w97.heap.size, 2, none⟩ = some (Value.int .i64 d_aT.at_) := bx149.2 2 (by simp)
  have k200 : w178.cell? ⟨w97.heap.size, 3, none⟩ = some (Value.int .i64 d_aT.reg0_) := bx149.2 3 (by simp)
  have k201 : w178.cell? ⟨w97.heap.size, 4, none⟩ = some (Value.int .i64 d_aT.reg1_) := bx149.2 4 (by simp)
  have k202 : w178.cell? ⟨w97.heap.size, 5, none⟩ = some (Value.int .i64 d_aT.reg2_) := bx149.2 5 (by simp)
  have k203 : w178.cell? ⟨w97.heap.size, 6, none⟩ = some (Value.int .i64 d_aT.reg3_) := bx149.2 6 (by simp)
  have k204 : w178.cell? ⟨w97.heap.size, 7, none⟩ = some ((Value.slice a123 m124 c125)) := bx149.2 7 (by simp)
  have k205 : w178.cell? ⟨w97.heap.size, 8, none⟩ = some (Value.int .i64 d_aT.check_) := bx149.2 8 (by simp)
  have k206 : w178.cell? ⟨w97.heap.size, 9, none⟩ = some ((Value.slice a126 m127 c128)) := bx149.2 9 (by simp)
  have k207 : w178.cell? ⟨w97.heap.size, 10, none⟩ = some (Value.int .i64 d_aT.mine_) := bx149.2 10 (by simp)
  have k208 : w178.cell? ⟨w97.heap.size, 11, none⟩ = some (Value.int .i64 d_aT.state_) := bx149.2 11 (by simp)
  have k209 : w178.cell? ⟨w97.heap.size, 12, none⟩ = some (Value.int .i64 d_aT.commits_) := bx149.2 12 (by simp)
  have k210 : w178.cell? ⟨w97.heap.size, 13, none⟩ = some (Value.int .i64 d_aT.fails_) := bx149.2 13 (by simp)
  go_wp2_with fail
  clear k183 k184 k185 k186 k187 k188 k189 k190 k191 k192 k193 k194 k195 k196 k197 k198 k199 k200 k201 k202 k203 k204 k205 k206 k207 k208 k209 k210
  have lt233 := (bx_aT).1
  have lt234 := (bx149).1
  have k235 : w178.cell? ⟨w.heap.size, 0, none⟩ = some (Value.int .i64 d_aT.id_) := bx_aT.2 0 (by simp)
  have k236 : w178.cell? ⟨w.heap.size, 1, none⟩ = some ((Value.slice a_aT0 d_aT.prog_.length c_aT0)) := bx_aT.2 1 (by simp)
  have k237 : w178.cell? ⟨w.heap.size, 2, none⟩ = some (Value.int .i64 d_aT.at_) := bx_aT.2 2 (by simp)
  have k238 : w178.cell? ⟨w.heap.size, 3, none⟩ = some (Value.int .i64 d_aT.reg0_) := bx_aT.2 3 (by simp)
  have k239 : w178.cell? ⟨w.heap.size, 4, none⟩ = some (Value.int .i64 d_aT.reg1_) := bx_aT.2 4 (by simp)
  have k240 : w178.cell? ⟨w.heap.size, 5, none⟩ = some (Value.int .i64 d_aT.reg2_) := bx_aT.2 5 (by simp)
  have k241 : w178.cell? ⟨w.heap.size, 6, none⟩ = some (Value.int .i64 d_aT.reg3_) := bx_aT.2 6 (by simp)
  have k242 : w178.cell? ⟨w.heap.size, 7, none⟩ = some ((Value.slice a_aT1 d_aT.open_.length c_aT1)) := bx_aT.2 7 (by simp)
  have k243 : w178.cell? ⟨w.heap.size, 8, none⟩ = some (Value.int .i64 d_aT.check_) := bx_aT.2 8 (by simp)
  have k244 : w178.cell? ⟨w.heap.size, 9, none⟩ = some ((Value.slice a_aT2 d_aT.stack_.length c_aT2)) := bx_aT.2 9 (by simp)
  have k245 : w178.cell? ⟨w.heap.size, 10, none⟩ = some (Value.int .i64 d_aT.mine_) := bx_aT.2 10 (by simp)
  have k246 : w178.cell? ⟨w.heap.size, 11, none⟩ = some (Value.int .i64 d_aT.state_) := bx_aT.2 11 (by simp)
  have k247 : w178.cell? ⟨w.heap.size, 12, none⟩ = some (Value.int .i64 d_aT.commits_) := bx_aT.2 12 (by simp)
  have k248 : w178.cell? ⟨w.heap.size, 13, none⟩ = some (Value.int .i64 d_aT.fails_) := bx_aT.2 13 (by simp)
  have k249 : w178.cell? ⟨w97.heap.size, 0, none⟩ = some (Value.int .i64 d_aT.id_) := bx149.2 0 (by simp)
  have k250 : w178.cell? ⟨w97.heap.size, 1, none⟩ = some ((Value.slice a120 m121 c122)) := bx149.2 1 (by simp)
  have k251 : w178.cell? ⟨w97.heap.size, 2, none⟩ = some (Value.int .i64 d_aT.at_) := bx149.2 2 (by simp)
  have k252 : w178.cell? ⟨w97.heap.size, 3, none⟩ = some (Value.int .i64 d_aT.reg0_) := bx149.2 3 (by simp)
  have k253 : w178.cell? ⟨w97.heap.size, 4, none⟩ = some (Value.int .i64 d_aT.reg1_) := bx149.2 4 (by simp)
  have k254 : w178.cell? ⟨w97.heap.size, 5, none⟩ = some (Value.int .i64 d_aT.reg2_) := bx149.2 5 (by simp)
  have k255 : w178.cell? ⟨w97.heap.size, 6, none⟩ = some (Value.int .i64 d_aT.reg3_) := bx149.2 6 (by simp)
  have k256 : w178.cell? ⟨w97.heap.size, 7, none⟩ = some ((Value.slice a123 m124 c125)) := bx149.2 7 (by simp)
  have k257 : w178.cell? ⟨w97.heap.size, 8, none⟩ = some (Value.int .i64 d_aT.check_) := bx149.2 8 (by simp)
  have k258 : w178.cell? ⟨w97.heap.size, 9, none⟩ = some ((Value.slice a126 m127 c128)) := bx149.2 9 (by simp)
  have k259 : w178.cell? ⟨w97.heap.size, 10, none⟩ = some (Value.int .i64 d_aT.mine_) := bx149.2 10 (by simp)
  have k260 : w178.cell? ⟨w97.heap.size, 11, none⟩ = some (Value.int .i64 d_aT.state_) := bx149.2 11 (by simp)
  have k261 : w178.cell? ⟨w97.heap.size, 12, none⟩ = some (Value.int .i64 d_aT.commits_) := bx149.2 12 (by simp)
  have k262 : w178.cell? ⟨w97.heap.size, 13, none⟩ = some (Value.int .i64 d_aT.fails_) := bx149.2 13 (by simp)
  go_region_held3 (fun w' => Below w178.heap.size w178 w' ∧ w178.heap.size ≤ w'.heap.size ∧ w'.cell? ⟨w.heap.size, 0, none⟩ = some (Value.int .i64 d_aT.id_) ∧ w'.cell? ⟨w.heap.size, 1, none⟩ = some ((Value.slice a_aT0 d_aT.prog_.length c_aT0)) ∧ w'.cell? ⟨w.heap.size, 2, none⟩ = some (Value.int .i64 d_aT.at_) ∧ w'.cell? ⟨w.heap.size, 3, none⟩ = some (Value.int .i64 d_aT.reg0_) ∧ w'.cell? ⟨w.heap.size, 4, none⟩ = some (Value.int .i64 d_aT.reg1_) ∧ w'.cell? ⟨w.heap.size, 5, none⟩ = some (Value.int .i64 d_aT.reg2_) ∧ w'.cell? ⟨w.heap.size, 6, none⟩ = some (Value.int .i64 d_aT.reg3_) ∧ w'.cell? ⟨w.heap.size, 7, none⟩ = some ((Value.slice a_aT1 d_aT.open_.length c_aT1)) ∧ w'.cell? ⟨w.heap.size, 8, none⟩ = some (Value.int .i64 d_aT.check_) ∧ w'.cell? ⟨w.heap.size, 9, none⟩ = some ((Value.slice a_aT2 d_aT.stack_.length c_aT2)) ∧ w'.cell? ⟨w.heap.size, 10, none⟩ = some (Value.int .i64 d_aT.mine_) ∧ w'.cell? ⟨w.heap.size, 11, none⟩ = some (Value.int .i64 d_aT.state_) ∧ w'.cell? ⟨w.heap.size, 12, none⟩ = some (Value.int .i64 d_aT.commits_) ∧ w'.cell? ⟨w.heap.size, 13, none⟩ = some (Value.int .i64 d_aT.fails_) ∧ w'.cell? ⟨w97.heap.size, 0, none⟩ = some (Value.int .i64 d_aT.id_) ∧ w'.cell? ⟨w97.heap.size, 1, none⟩ = some ((Value.slice a120 m121 c122)) ∧ w'.cell? ⟨w97.heap.size, 2, none⟩ = some (Value.int .i64 d_aT.at_) ∧ w'.cell? ⟨w97.heap.size, 3, none⟩ = some (Value.int .i64 d_aT.reg0_) ∧ w'.cell? ⟨w97.heap.size, 4, none⟩ = some (Value.int .i64 d_aT.reg1_) ∧ w'.cell? ⟨w97.heap.size, 5, none⟩ = some (Value.int .i64 d_aT.reg2_) ∧ w'.cell? ⟨w97.heap.size, 6, none⟩ = some (Value.int .i64 d_aT.reg3_) ∧ w'.cell? ⟨w97.heap.size, 7, none⟩ = some ((Value.slice a123 m124 c125)) ∧ w'.cell? ⟨w97.heap.size, 8, none⟩ = some (Value.int .i64 d_aT.check_) ∧ w'.cell? ⟨w97.heap.size, 9, none⟩ = some ((Value.slice a126 m127 c128)) ∧ w'.cell? ⟨w97.heap.size, 10, none⟩ = some (Value.int .i64 d_aT.mine_) ∧ w'.cell? ⟨w97.heap.size, 11, none⟩ = some (Value.int .i64 d_aT.state_) ∧ w'.cell? ⟨w97.heap.size, 12, none⟩ = some (Value.int .i64 d_aT.commits_) ∧ w'.cell? ⟨w97.heap.size, 13, none⟩ = some (Value.int .i64 d_aT.fails_))
    (first | exact ⟨(Below.refl _ _).drew, Nat.le_refl _, k235, k236, k237, k238, k239, k240, k241, k242, k243, k244, k245, k246, k247, k248, k249, k250, k251, k252, k253, k254, k255, k256, k257, k258, k259, k260, k261, k262⟩ | exact keepBox28 (by omega) ‹_› ‹_›)
    (first
    | (go_at_call 10; refine (toThread_o d_aT (Value.slice a_aT0 d_aT.prog_.length c_aT0) (Value.slice a_aT1 d_aT.open_.length c_aT1) (Value.slice a_aT2 d_aT.stack_.length c_aT2) _ (rdsL.below (rdsL.below h_aT0 t180) ((Below.refl _ _).drew : Below w178.heap.size w178 w178.drew)) (rdsL.below (rdsL.below h_aT1 t180) ((Below.refl _ _).drew : Below w178.heap.size w178 w178.drew)) (rdsL.below (rdsL.below h_aT2 t180) ((Below.refl _ _).drew : Below w178.heap.size w178 w178.drew)) hb_aT).mono ?_; rintro e w211 ⟨u213, u218, u223, S214, S219, S224, rfl, o215, o220, o225, r216, r221, r226, dj228, dj229, dj230, b212⟩; have hq_w211 : Below w178.heap.size w178 w211 := Below.trans ((Below.refl _ _).drew : Below w178.heap.size w178 w178.drew) (Below.mono b212 (Below.size ((Below.refl _ _).drew : Below w178.heap.size w178 w178.drew))))
    | (go_at_call 13; refine (eqThread_o _ _ _ _ _ _ _ _ (rdsL.below (rdsL.below (ownL.rds o101) ((Below.refl _ _).drew : Below w178.heap.size w178 w178.drew)) b212) (rdsL.below (rdsL.below (ownL.rds o106) ((Below.refl _ _).drew : Below w178.heap.size w178 w178.drew)) b212) (rdsL.below (rdsL.below (ownL.rds o111) ((Below.refl _ _).drew : Below w178.heap.size w178 w178.drew)) b212) (ownL.rds o215) (ownL.rds o220) (ownL.rds o225)).mono ?_; rintro e w231 ⟨rfl, b232⟩))
  clear k235 k236 k237 k238 k239 k240 k241 k242 k243 k244 k245 k246 k247 k248 k249 k250 k251 k252 k253 k254 k255 k256 k257 k258 k259 k260 k261 k262
  have d263 : Below w178.heap.size w178 w178.drew := (Below.refl _ _).drew
  have t264 := Below.trans t180 (Below.mono d263 zb0)
  have s265 := Below.trans s181 (Below.mono d263 za0)
  replace o101 := ownL.keep o101 (fun q hq => Below.block d263 q (hs103 q hq))
  replace hs103 := fun q hq => Nat.lt_of_lt_of_le (hs103 q hq) (Below.size d263)
  replace o106 := ownL.keep o106 (fun q hq => Below.block d263 q (hs108 q hq))
  replace hs108 := fun q hq => Nat.lt_of_lt_of_le (hs108 q hq) (Below.size d263)
  replace o111 := ownL.keep o111 (fun q hq => Below.block d263 q (hs113 q hq))
  replace hs113 := fun q hq => Nat.lt_of_lt_of_le (hs113 q hq) (Below.size d263)
  replace bx_aT := Box.below bx_aT d263
  replace bx149 := Box.below bx149 d263
  have z266 := Below.size d263
  replace zb0 : W1.heap.size ≤ w178.drew.heap.size := by omega
  replace za0 : w78.heap.size ≤ w178.drew.heap.size := by omega
  have t267 := Below.trans t264 (Below.mono b212 zb0)
  have s268 := Below.trans s265 (Below.mono b212 za0)
  replace o101 := ownL.keep o101 (fun q hq => Below.block b212 q (hs103 q hq))
  replace hs103 := fun q hq => Nat.lt_of_lt_of_le (hs103 q hq) (Below.size b212)
  replace o106 := ownL.keep o106 (fun q hq => Below.block b212 q (hs108 q hq))
  replace hs108 := fun q hq => Nat.lt_of_lt_of_le (hs108 q hq) (Below.size b212)
  replace o111 := ownL.keep o111 (fun q hq => Below.block b212 q (hs113 q hq))
  replace hs113 := fun q hq => Nat.lt_of_lt_of_le (hs113 q hq) (Below.size b212)
  replace bx_aT := Box.below bx_aT b212
  replace bx149 := Box.below bx149 b212
  have z269 := Below.size b212
  replace zb0 : W1.heap.size ≤ w211.heap.size := by omega
  replace za0 : w78.heap.size ≤ w211.heap.size := by omega
  have t270 := Below.trans t267 (Below.mono b232 zb0)
  have s271 := Below.trans s268 (Below.mono b232 za0)
  replace o101 := ownL.keep o101 (fun q hq => Below.block b232 q (hs103 q hq))
  replace hs103 := fun q hq => Nat.lt_of_lt_of_le (hs103 q hq) (Below.size b232)
  replace o106 := ownL.keep o106 (fun q hq => Below.block b232 q (hs108 q hq))
  replace hs108 := fun q hq => Nat.lt_of_lt_of_le (hs108 q hq) (Below.size b232)
  replace o111 := ownL.keep o111 (fun q hq => Below.block b232 q (hs113 q hq))
  replace hs113 := fun q hq => Nat.lt_of_lt_of_le (hs113 q hq) (Below.size b232)
  replace bx_aT := Box.below bx_aT b232
  replace bx149 := Box.below bx149 b232
  have z272 := Below.size b232
  replace zb0 : W1.heap.size ≤ w231.heap.size := by omega
  replace za0 : w78.heap.size ≤ w231.heap.size := by omega
  have k273 : w231.cell? ⟨w.heap.size, 0, none⟩ = some (Value.int .i64 d_aT.id_) := bx_aT.2 0 (by simp)
  have k274 : w231.cell? ⟨w.heap.size, 1, none⟩ = some ((Value.slice a_aT0 d_aT.prog_.length c_aT0)) := bx_aT.2 1 (by simp)
  have k275 : w231.cell? ⟨w.heap.size, 2, none⟩ = some (Value.int .i64 d_aT.at_) := bx_aT.2 2 (by simp)
  have k276 : w231.cell? ⟨w.heap.size, 3, none⟩ = some (Value.int .i64 d_aT.reg0_) := bx_aT.2 3 (by simp)
  have k277 : w231.cell? ⟨w.heap.size, 4, none⟩ = some (Value.int .i64 d_aT.reg1_) := bx_aT.2 4 (by simp)
  have k278 : w231.cell? ⟨w.heap.size, 5, none⟩ = some (Value.int .i64 d_aT.reg2_) := bx_aT.2 5 (by simp)
  have k279 : w231.cell? ⟨w.heap.size, 6, none⟩ = some (Value.int .i64 d_aT.reg3_) := bx_aT.2 6 (by simp)
  have k280 : w231.cell? ⟨w.heap.size, 7, none⟩ = some ((Value.slice a_aT1 d_aT.open_.length c_aT1)) := bx_aT.2 7 (by simp)
  have k281 : w231.cell? ⟨w.heap.size, 8, none⟩ = some (Value.int .i64 d_aT.check_) := bx_aT.2 8 (by simp)
  have k282 : w231.cell? ⟨w.heap.size, 9, none⟩ = some ((Value.slice a_aT2 d_aT.stack_.length c_aT2)) := bx_aT.2 9 (by simp)
  have k283 : w231.cell? ⟨w.heap.size, 10, none⟩ = some (Value.int .i64 d_aT.mine_) := bx_aT.2 10 (by simp)
  have k284 : w231.cell? ⟨w.heap.size, 11, none⟩ = some (Value.int .i64 d_aT.state_) := bx_aT.2 11 (by simp)
  have k285 : w231.cell? ⟨w.heap.size, 12, none⟩ = some (Value.int .i64 d_aT.commits_) := bx_aT.2 12 (by simp)
  have k286 : w231.cell? ⟨w.heap.size, 13, none⟩ = some (Value.int .i64 d_aT.fails_) := bx_aT.2 13 (by simp)
  have k287 : w231.cell? ⟨w97.heap.size, 0, none⟩ = some (Value.int .i64 d_aT.id_) := bx149.2 0 (by simp)
  have k288 : w231.cell? ⟨w97.heap.size, 1, none⟩ = some ((Value.slice a120 m121 c122)) := bx149.2 1 (by simp)
  have k289 : w231.cell? ⟨w97.heap.size, 2, none⟩ = some (Value.int .i64 d_aT.at_) := bx149.2 2 (by simp)
  have k290 : w231.cell? ⟨w97.heap.size, 3, none⟩ = some (Value.int .i64 d_aT.reg0_) := bx149.2 3 (by simp)
  have k291 : w231.cell? ⟨w97.heap.size, 4, none⟩ = some (Value.int .i64 d_aT.reg1_) := bx149.2 4 (by simp)
  have k292 : w231.cell? ⟨w97.heap.size, 5, none⟩ = some (Value.int .i64 d_aT.reg2_) := bx149.2 5 (by simp)
  have k293 : w231.cell? ⟨w97.heap.size, 6, none⟩ = some (Value.int .i64 d_aT.reg3_) := bx149.2 6 (by simp)
  have k294 : w231.cell? ⟨w97.heap.size, 7, none⟩ = some ((Value.slice a123 m124 c125)) := bx149.2 7 (by simp)
  have k295 : w231.cell? ⟨w97.heap.size, 8, none⟩ = some (Value.int .i64 d_aT.check_) := bx149.2 8 (by simp)
  have k296 : w231.cell? ⟨w97.heap.size, 9, none⟩ = some ((Value.slice a126 m127 c128)) := bx149.2 9 (by simp)
  have k297 : w231.cell? ⟨w97.heap.size, 10, none⟩ = some (Value.int .i64 d_aT.mine_) := bx149.2 10 (by simp)
  have k298 : w231.cell? ⟨w97.heap.size, 11, none⟩ = some (Value.int .i64 d_aT.state_) := bx149.2 11 (by simp)
  have k299 : w231.cell? ⟨w97.heap.size, 12, none⟩ = some (Value.int .i64 d_aT.commits_) := bx149.2 12 (by simp)
  have k300 : w231.cell? ⟨w97.heap.size, 13, none⟩ = some (Value.int .i64 d_aT.fails_) := bx149.2 13 (by simp)
  go_wp2_with fail
  clear k273 k274 k275 k276 k277 k278 k279 k280 k281 k282 k283 k284 k285 k286 k287 k288 k289 k290 k291 k292 k293 k294 k295 k296 k297 k298 k299 k300
  try go_wp2
  go_ret
  exact ⟨rfl, hB0.trans (Below.mono t270 hB0.size)⟩

end Go.Proofs.Ytikiaffgjpddeaa
