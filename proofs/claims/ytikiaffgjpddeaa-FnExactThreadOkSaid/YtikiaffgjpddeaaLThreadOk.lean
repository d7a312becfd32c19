/- FnExactThreadOk, walked. -/
import Derived.Test.YtikiaffgjpddeaaM8
import Derived.Test.YtikiaffgjpddeaaBx
import Derived.Test.YtikiaffgjpddeaaEnc4
import Derived.Test.YtikiaffgjpddeaaHop
import Derived.Test.YtikiaffgjpddeaaWr3
import Derived.Test.YtikiaffgjpddeaaKeep2
import Derived.Deep.RegionHeld3
import Derived.Deep.Cut
import Derived.StillTailTactics
namespace Go.Proofs.Ytikiaffgjpddeaa
set_option maxRecDepth 100000
open Go.RowKit Go.Proofs Go.Own
set_option linter.unusedVariables false

set_option maxRecDepth 100000 in
set_option maxHeartbeats 8000000 in
theorem law_ThreadOk (d_aS : StoreD) (v_aS0 v_aS1 : Value) (d_aT : ThreadD) (v_aT0 v_aT1 v_aT2 : Value) (w : World) (h_aS0 : rdsL w v_aS0 d_aS.heads_) (h_aS1 : rdsL w v_aS1 d_aS.descs_) (h_aT0 : rdsL w v_aT0 d_aT.prog_) (h_aT1 : rdsL w v_aT1 d_aT.open_) (h_aT2 : rdsL w v_aT2 d_aT.stack_) :
    Calls Try.prog 3 #[(.agg #[v_aS0, v_aS1]), (.agg #[.int .i64 d_aT.id_, v_aT0, .int .i64 d_aT.at_, .int .i64 d_aT.reg0_, .int .i64 d_aT.reg1_, .int .i64 d_aT.reg2_, .int .i64 d_aT.reg3_, v_aT1, .int .i64 d_aT.check_, v_aT2, .int .i64 d_aT.mine_, .int .i64 d_aT.state_, .int .i64 d_aT.commits_, .int .i64 d_aT.fails_])] w fun e w' => e = .returned (.bool true) ∧ Below w.heap.size w w' := by
  obtain ⟨a_aS0, c_aS0, rfl, -, -, -⟩ := rdsL_open h_aS0
  obtain ⟨a_aS1, c_aS1, rfl, -, -, -⟩ := rdsL_open h_aS1
  obtain ⟨a_aT0, c_aT0, rfl, -, -, -⟩ := rdsL_open h_aT0
  obtain ⟨a_aT1, c_aT1, rfl, -, -, -⟩ := rdsL_open h_aT1
  obtain ⟨a_aT2, c_aT2, rfl, -, -, -⟩ := rdsL_open h_aT2
  obtain ⟨W1, hW1⟩ : ∃ X, w.alloc (.cells #[(Value.slice a_aS0 d_aS.heads_.length c_aS0), (Value.slice a_aS1 d_aS.descs_.length c_aS1)] 25) = X := ⟨_, rfl⟩
  have hbx1 : Below w.heap.size w W1 := by rw [← hW1]; exact (Below.refl _ _).alloc (Nat.le_refl _) _
  have zw1 : W1.heap.size = w.heap.size + 1 := by rw [← hW1]; simp
  have bx_aS : Box W1 (w.heap.size) [(Value.slice a_aS0 d_aS.heads_.length c_aS0), (Value.slice a_aS1 d_aS.descs_.length c_aS1)] := by rw [← hW1]; exact Box.alloc _ _ _
  obtain ⟨W2, hW2⟩ : ∃ X, W1.alloc (.cells #[Value.int .i64 d_aT.id_, (Value.slice a_aT0 d_aT.prog_.length c_aT0), Value.int .i64 d_aT.at_, Value.int .i64 d_aT.reg0_, Value.int .i64 d_aT.reg1_, Value.int .i64 d_aT.reg2_, Value.int .i64 d_aT.reg3_, (Value.slice a_aT1 d_aT.open_.length c_aT1), Value.int .i64 d_aT.check_, (Value.slice a_aT2 d_aT.stack_.length c_aT2), Value.int .i64 d_aT.mine_, Value.int .i64 d_aT.state_, Value.int .i64 d_aT.commits_, Value.int .i64 d_aT.fails_] 31) = X := ⟨_, rfl⟩
  have hbx2 : Below W1.heap.size W1 W2 := by rw [← hW2]; exact (Below.refl _ _).alloc (Nat.le_refl _) _
  have zw2 : W2.heap.size = W1.heap.size + 1 := by rw [← hW2]; simp
  replace bx_aS := Box.below bx_aS hbx2
  have bx_aT : Box W2 (w.heap.size + 1) [Value.int .i64 d_aT.id_, (Value.slice a_aT0 d_aT.prog_.length c_aT0), Value.int .i64 d_aT.at_, Value.int .i64 d_aT.reg0_, Value.int .i64 d_aT.reg1_, Value.int .i64 d_aT.reg2_, Value.int .i64 d_aT.reg3_, (Value.slice a_aT1 d_aT.open_.length c_aT1), Value.int .i64 d_aT.check_, (Value.slice a_aT2 d_aT.stack_.length c_aT2), Value.int .i64 d_aT.mine_, Value.int .i64 d_aT.state_, Value.int .i64 d_aT.commits_, Value.int .i64 d_aT.fails_] := by rw [← hW2, ← zw1]; exact Box.alloc _ _ _
  have hB0 : Below w.heap.size w W2 := (hbx1.trans (hbx2.mono (by omega)))
  replace h_aS0 := rdsL.below h_aS0 hB0
  replace h_aS1 := rdsL.below h_aS1 hB0
  replace h_aT0 := rdsL.below h_aT0 hB0
  replace h_aT1 := rdsL.below h_aT1 hB0
  replace h_aT2 := rdsL.below h_aT2 hB0
  have tt0 : Below W2.heap.size W2 W2 := Below.refl _ _
  have zb0 : W2.heap.size ≤ W2.heap.size := Nat.le_refl _
  go_enter Try.func3, Try.ntmps3
  have k1 : W2.cell? ⟨w.heap.size, 0, none⟩ = some ((Value.slice a_aS0 d_aS.heads_.length c_aS0)) := bx_aS.2 0 (by simp)
  have k2 : W2.cell? ⟨w.heap.size, 1, none⟩ = some ((Value.slice a_aS1 d_aS.descs_.length c_aS1)) := bx_aS.2 1 (by simp)
  have k3 : W2.cell? ⟨w.heap.size + 1, 0, none⟩ = some (Value.int .i64 d_aT.id_) := bx_aT.2 0 (by simp)
  have k4 : W2.cell? ⟨w.heap.size + 1, 1, none⟩ = some ((Value.slice a_aT0 d_aT.prog_.length c_aT0)) := bx_aT.2 1 (by simp)
  have k5 : W2.cell? ⟨w.heap.size + 1, 2, none⟩ = some (Value.int .i64 d_aT.at_) := bx_aT.2 2 (by simp)
  have k6 : W2.cell? ⟨w.heap.size + 1, 3, none⟩ = some (Value.int .i64 d_aT.reg0_) := bx_aT.2 3 (by simp)
  have k7 : W2.cell? ⟨w.heap.size + 1, 4, none⟩ = some (Value.int .i64 d_aT.reg1_) := bx_aT.2 4 (by simp)
  have k8 : W2.cell? ⟨w.heap.size + 1, 5, none⟩ = some (Value.int .i64 d_aT.reg2_) := bx_aT.2 5 (by simp)
  have k9 : W2.cell? ⟨w.heap.size + 1, 6, none⟩ = some (Value.int .i64 d_aT.reg3_) := bx_aT.2 6 (by simp)
  have k10 : W2.cell? ⟨w.heap.size + 1, 7, none⟩ = some ((Value.slice a_aT1 d_aT.open_.length c_aT1)) := bx_aT.2 7 (by simp)
  have k11 : W2.cell? ⟨w.heap.size + 1, 8, none⟩ = some (Value.int .i64 d_aT.check_) := bx_aT.2 8 (by simp)
  have k12 : W2.cell? ⟨w.heap.size + 1, 9, none⟩ = some ((Value.slice a_aT2 d_aT.stack_.length c_aT2)) := bx_aT.2 9 (by simp)
  have k13 : W2.cell? ⟨w.heap.size + 1, 10, none⟩ = some (Value.int .i64 d_aT.mine_) := bx_aT.2 10 (by simp)
  have k14 : W2.cell? ⟨w.heap.size + 1, 11, none⟩ = some (Value.int .i64 d_aT.state_) := bx_aT.2 11 (by simp)
  have k15 : W2.cell? ⟨w.heap.size + 1, 12, none⟩ = some (Value.int .i64 d_aT.commits_) := bx_aT.2 12 (by simp)
  have k16 : W2.cell? ⟨w.heap.size + 1, 13, none⟩ = some (Value.int .i64 d_aT.fails_) := bx_aT.2 13 (by simp)
  go_wp2_with fail
  clear k1 k2 k3 k4 k5 k6 k7 k8 k9 k10 k11 k12 k13 k14 k15 k16 hW1 hW2
  have hl0_aS : 0 ≤ (1048576 : Int) := by omega
  refine (szStore_o d_aS (Value.slice a_aS0 d_aS.heads_.length c_aS0) (Value.slice a_aS1 d_aS.descs_.length c_aS1) _ _ (by omega) (by omega) (rdsL.below h_aS0 tt0) (rdsL.below h_aS1 tt0)).mono ?_
  rintro e w17 ⟨rfl, b18⟩
  have t19 := Below.trans tt0 (Below.mono b18 zb0)
  replace bx_aS := Box.below bx_aS b18
  replace bx_aT := Box.below bx_aT b18
  have z20 := Below.size b18
  replace zb0 : W2.heap.size ≤ w17.heap.size := by omega
  by_cases big_aS : (1048576 : Int) < (szStoreD d_aS : Int)
  · rw [szR_of, if_pos big_aS]
    go_wp2
    go_ret
    exact ⟨rfl, hB0.trans (Below.mono t19 hB0.size)⟩
  rw [szR_of, if_neg big_aS]
  have k21 : w17.cell? ⟨w.heap.size, 0, none⟩ = some ((Value.slice a_aS0 d_aS.heads_.length c_aS0)) := bx_aS.2 0 (by simp)
  have k22 : w17.cell? ⟨w.heap.size, 1, none⟩ = some ((Value.slice a_aS1 d_aS.descs_.length c_aS1)) := bx_aS.2 1 (by simp)
  have k23 : w17.cell? ⟨w.heap.size + 1, 0, none⟩ = some (Value.int .i64 d_aT.id_) := bx_aT.2 0 (by simp)
  have k24 : w17.cell? ⟨w.heap.size + 1, 1, none⟩ = some ((Value.slice a_aT0 d_aT.prog_.length c_aT0)) := bx_aT.2 1 (by simp)
  have k25 : w17.cell? ⟨w.heap.size + 1, 2, none⟩ = some (Value.int .i64 d_aT.at_) := bx_aT.2 2 (by simp)
  have k26 : w17.cell? ⟨w.heap.size + 1, 3, none⟩ = some (Value.int .i64 d_aT.reg0_) := bx_aT.2 3 (by simp)
  have k27 : w17.cell? ⟨w.heap.size + 1, 4, none⟩ = some (Value.int .i64 d_aT.reg1_) := bx_aT.2 4 (by simp)
  have k28 : w17.cell? ⟨w.heap.size + 1, 5, none⟩ = some (Value.int .i64 d_aT.reg2_) := bx_aT.2 5 (by simp)
  have k29 : w17.cell? ⟨w.heap.size + 1, 6, none⟩ = some (Value.int .i64 d_aT.reg3_) := bx_aT.2 6 (by simp)
  have k30 : w17.cell? ⟨w.heap.size + 1, 7, none⟩ = some ((Value.slice a_aT1 d_aT.open_.length c_aT1)) := bx_aT.2 7 (by simp)
  have k31 : w17.cell? ⟨w.heap.size + 1, 8, none⟩ = some (Value.int .i64 d_aT.check_) := bx_aT.2 8 (by simp)
  have k32 : w17.cell? ⟨w.heap.size + 1, 9, none⟩ = some ((Value.slice a_aT2 d_aT.stack_.length c_aT2)) := bx_aT.2 9 (by simp)
  have k33 : w17.cell? ⟨w.heap.size + 1, 10, none⟩ = some (Value.int .i64 d_aT.mine_) := bx_aT.2 10 (by simp)
  have k34 : w17.cell? ⟨w.heap.size + 1, 11, none⟩ = some (Value.int .i64 d_aT.state_) := bx_aT.2 11 (by simp)
  have k35 : w17.cell? ⟨w.heap.size + 1, 12, none⟩ = some (Value.int .i64 d_aT.commits_) := bx_aT.2 12 (by simp)
  have k36 : w17.cell? ⟨w.heap.size + 1, 13, none⟩ = some (Value.int .i64 d_aT.fails_) := bx_aT.2 13 (by simp)
  go_wp2_with fail
  clear k21 k22 k23 k24 k25 k26 k27 k28 k29 k30 k31 k32 k33 k34 k35 k36
  have hl0_aT : 0 ≤ (1048576 : Int) - (szStoreD d_aS : Int) := by omega
  refine (szThread_o d_aT (Value.slice a_aT0 d_aT.prog_.length c_aT0) (Value.slice a_aT1 d_aT.open_.length c_aT1) (Value.slice a_aT2 d_aT.stack_.length c_aT2) _ _ (by omega) (by omega) (rdsL.below h_aT0 t19) (rdsL.below h_aT1 t19) (rdsL.below h_aT2 t19)).mono ?_
  rintro e w37 ⟨rfl, b38⟩
  have t39 := Below.trans t19 (Below.mono b38 zb0)
  replace bx_aS := Box.below bx_aS b38
  replace bx_aT := Box.below bx_aT b38
  have z40 := Below.size b38
  replace zb0 : W2.heap.size ≤ w37.heap.size := by omega
  by_cases big_aT : (1048576 : Int) - (szStoreD d_aS : Int) < (szThreadD d_aT : Int)
  · rw [szR_of, if_pos big_aT]
    go_wp2
    go_ret
    exact ⟨rfl, hB0.trans (Below.mono t39 hB0.size)⟩
  rw [szR_of, if_neg big_aT]
  have k41 : w37.cell? ⟨w.heap.size, 0, none⟩ = some ((Value.slice a_aS0 d_aS.heads_.length c_aS0)) := bx_aS.2 0 (by simp)
  have k42 : w37.cell? ⟨w.heap.size, 1, none⟩ = some ((Value.slice a_aS1 d_aS.descs_.length c_aS1)) := bx_aS.2 1 (by simp)
  have k43 : w37.cell? ⟨w.heap.size + 1, 0, none⟩ = some (Value.int .i64 d_aT.id_) := bx_aT.2 0 (by simp)
  have k44 : w37.cell? ⟨w.heap.size + 1, 1, none⟩ = some ((Value.slice a_aT0 d_aT.prog_.length c_aT0)) := bx_aT.2 1 (by simp)
  have k45 : w37.cell? ⟨w.heap.size + 1, 2, none⟩ = some (Value.int .i64 d_aT.at_) := bx_aT.2 2 (by simp)
  have k46 : w37.cell? ⟨w.heap.size + 1, 3, none⟩ = some (Value.int .i64 d_aT.reg0_) := bx_aT.2 3 (by simp)
  have k47 : w37.cell? ⟨w.heap.size + 1, 4, none⟩ = some (Value.int .i64 d_aT.reg1_) := bx_aT.2 4 (by simp)
  have k48 : w37.cell? ⟨w.heap.size + 1, 5, none⟩ = some (Value.int .i64 d_aT.reg2_) := bx_aT.2 5 (by simp)
  have k49 : w37.cell? ⟨w.heap.size + 1, 6, none⟩ = some (Value.int .i64 d_aT.reg3_) := bx_aT.2 6 (by simp)
  have k50 : w37.cell? ⟨w.heap.size + 1, 7, none⟩ = some ((Value.slice a_aT1 d_aT.open_.length c_aT1)) := bx_aT.2 7 (by simp)
  have k51 : w37.cell? ⟨w.heap.size + 1, 8, none⟩ = some (Value.int .i64 d_aT.check_) := bx_aT.2 8 (by simp)
  have k52 : w37.cell? ⟨w.heap.size + 1, 9, none⟩ = some ((Value.slice a_aT2 d_aT.stack_.length c_aT2)) := bx_aT.2 9 (by simp)
  have k53 : w37.cell? ⟨w.heap.size + 1, 10, none⟩ = some (Value.int .i64 d_aT.mine_) := bx_aT.2 10 (by simp)
  have k54 : w37.cell? ⟨w.heap.size + 1, 11, none⟩ = some (Value.int .i64 d_aT.state_) := bx_aT.2 11 (by simp)
  have k55 : w37.cell? ⟨w.heap.size + 1, 12, none⟩ = some (Value.int .i64 d_aT.commits_) := bx_aT.2 12 (by simp)
  have k56 : w37.cell? ⟨w.heap.size + 1, 13, none⟩ = some (Value.int .i64 d_aT.fails_) := bx_aT.2 13 (by simp)
  go_wp2_with fail
  clear k41 k42 k43 k44 k45 k46 k47 k48 k49 k50 k51 k52 k53 k54 k55 k56
  have hb_aS : StoreB d_aS := by show _ ≤ 1048576; have := big_aS; unfold szStoreD at *; omega
  have hb_aT : ThreadB d_aT := by show _ ≤ 1048576; have := big_aT; unfold szThreadD at *; omega
  have lt92 := (bx_aS).1
  have lt93 := (bx_aT).1
  have k94 : w37.cell? ⟨w.heap.size, 0, none⟩ = some ((Value.slice a_aS0 d_aS.heads_.length c_aS0)) := bx_aS.2 0 (by simp)
  have k95 : w37.cell? ⟨w.heap.size, 1, none⟩ = some ((Value.slice a_aS1 d_aS.descs_.length c_aS1)) := bx_aS.2 1 (by simp)
  have k96 : w37.cell? ⟨w.heap.size + 1, 0, none⟩ = some (Value.int .i64 d_aT.id_) := bx_aT.2 0 (by simp)
  have k97 : w37.cell? ⟨w.heap.size + 1, 1, none⟩ = some ((Value.slice a_aT0 d_aT.prog_.length c_aT0)) := bx_aT.2 1 (by simp)
  have k98 : w37.cell? ⟨w.heap.size + 1, 2, none⟩ = some (Value.int .i64 d_aT.at_) := bx_aT.2 2 (by simp)
  have k99 : w37.cell? ⟨w.heap.size + 1, 3, none⟩ = some (Value.int .i64 d_aT.reg0_) := bx_aT.2 3 (by simp)
  have k100 : w37.cell? ⟨w.heap.size + 1, 4, none⟩ = some (Value.int .i64 d_aT.reg1_) := bx_aT.2 4 (by simp)
  have k101 : w37.cell? ⟨w.heap.size + 1, 5, none⟩ = some (Value.int .i64 d_aT.reg2_) := bx_aT.2 5 (by simp)
  have k102 : w37.cell? ⟨w.heap.size + 1, 6, none⟩ = some (Value.int .i64 d_aT.reg3_) := bx_aT.2 6 (by simp)
  have k103 : w37.cell? ⟨w.heap.size + 1, 7, none⟩ = some ((Value.slice a_aT1 d_aT.open_.length c_aT1)) := bx_aT.2 7 (by simp)
  have k104 : w37.cell? ⟨w.heap.size + 1, 8, none⟩ = some (Value.int .i64 d_aT.check_) := bx_aT.2 8 (by simp)
  have k105 : w37.cell? ⟨w.heap.size + 1, 9, none⟩ = some ((Value.slice a_aT2 d_aT.stack_.length c_aT2)) := bx_aT.2 9 (by simp)
  have k106 : w37.cell? ⟨w.heap.size + 1, 10, none⟩ = some (Value.int .i64 d_aT.mine_) := bx_aT.2 10 (by simp)
  have k107 : w37.cell? ⟨w.heap.size + 1, 11, none⟩ = some (Value.int .i64 d_aT.state_) := bx_aT.2 11 (by simp)
  have k108 : w37.cell? ⟨w.heap.size + 1, 12, none⟩ = some (Value.int .i64 d_aT.commits_) := bx_aT.2 12 (by simp)
  have k109 : w37.cell? ⟨w.heap.size + 1, 13, none⟩ = some (Value.int .i64 d_aT.fails_) := bx_aT.2 13 (by simp)
  go_region_held3 (fun w' => Below w37.heap.size w37 w' ∧ w37.heap.size ≤ w'.heap.size ∧ w'.cell? ⟨w.heap.size, 0, none⟩ = some ((Value.slice a_aS0 d_aS.heads_.length c_aS0)) ∧ w'.cell? ⟨w.heap.size, 1, none⟩ = some ((Value.slice a_aS1 d_aS.descs_.length c_aS1)) ∧ w'.cell? ⟨w.heap.size + 1, 0, none⟩ = some (Value.int .i64 d_aT.id_) ∧ w'.cell? ⟨w.heap.size + 1, 1, none⟩ = some ((Value.slice a_aT0 d_aT.prog_.length c_aT0)) ∧ w'.cell? ⟨w.heap.size + 1, 2, none⟩ = some (Value.int .i64 d_aT.at_) ∧ w'.cell? ⟨w.heap.size + 1, 3, none⟩ = some (Value.int .i64 d_aT.reg0_) ∧ w'.cell? ⟨w.heap.size + 1, 4, none⟩ = some (Value.int .i64 d_aT.reg1_) ∧ w'.cell? ⟨w.heap.size + 1, 5, none⟩ = some (Value.int .i64 d_aT.reg2_) ∧ w'.cell? ⟨w.heap.size + 1, 6, none⟩ = some (Value.int .i64 d_aT.reg3_) ∧ w'.cell? ⟨w.heap.size + 1, 7, none⟩ = some ((Value.slice a_aT1 d_aT.open_.length c_aT1)) ∧ w'.cell? ⟨w.heap.size + 1, 8, none⟩ = some (Value.int .i64 d_aT.check_) ∧ w'.cell? ⟨w.heap.size + 1, 9, none⟩ = some ((Value.slice a_aT2 d_aT.stack_.length c_aT2)) ∧ w'.cell? ⟨w.heap.size + 1, 10, none⟩ = some (Value.int .i64 d_aT.mine_) ∧ w'.cell? ⟨w.heap.size + 1, 11, none⟩ = some (Value.int .i64 d_aT.state_) ∧ w'.cell? ⟨w.heap.size + 1, 12, none⟩ = some (Value.int .i64 d_aT.commits_) ∧ w'.cell? ⟨w.heap.size + 1, 13, none⟩ = some (Value.int .i64 d_aT.fails_))
    (first | exact ⟨(Below.refl _ _).drew, Nat.le_refl _, k94, k95, k96, k97, k98, k99, k100, k101, k102, k103, k104, k105, k106, k107, k108, k109⟩ | exact keepBox16 (by omega) ‹_› ‹_›)
    (first
    | (go_at_call 10; have hz_w70 := hq_w57; refine (toThread_o d_aT (Value.slice a_aT0 d_aT.prog_.length c_aT0) (Value.slice a_aT1 d_aT.open_.length c_aT1) (Value.slice a_aT2 d_aT.stack_.length c_aT2) _ (rdsL.below (rdsL.below h_aT0 t39) (hq_w57)) (rdsL.below (rdsL.below h_aT1 t39) (hq_w57)) (rdsL.below (rdsL.below h_aT2 t39) (hq_w57)) hb_aT).mono ?_; rintro e w70 ⟨u72, u77, u82, S73, S78, S83, rfl, o74, o79, o84, r75, r80, r85, dj87, dj88, dj89, b71⟩; have hq_w70 : Below w37.heap.size w37 w70 := Below.trans (hq_w57) (Below.mono b71 (Below.size (hq_w57))))
    | (go_at_call 9; refine (toStore_o d_aS (Value.slice a_aS0 d_aS.heads_.length c_aS0) (Value.slice a_aS1 d_aS.descs_.length c_aS1) _ (rdsL.below (rdsL.below h_aS0 t39) ((Below.refl _ _).drew : Below w37.heap.size w37 w37.drew)) (rdsL.below (rdsL.below h_aS1 t39) ((Below.refl _ _).drew : Below w37.heap.size w37 w37.drew)) hb_aS).mono ?_; rintro e w57 ⟨u59, u64, S60, S65, rfl, o61, o66, r62, r67, dj69, b58⟩; have hq_w57 : Below w37.heap.size w37 w57 := Below.trans ((Below.refl _ _).drew : Below w37.heap.size w37 w37.drew) (Below.mono b58 (Below.size ((Below.refl _ _).drew : Below w37.heap.size w37 w37.drew))))
    | (go_at_call 8; refine (spec_ThreadOkW d_aS _ _ d_aT _ _ _ _ (rdsL.below (ownL.rds o61) b71) (rdsL.below (ownL.rds o66) b71) hb_aS (ownL.rds o74) (ownL.rds o79) (ownL.rds o84) hb_aT).mono ?_; rintro e w90 ⟨rfl, b91⟩))
  clear k94 k95 k96 k97 k98 k99 k100 k101 k102 k103 k104 k105 k106 k107 k108 k109
  have d110 : Below w37.heap.size w37 w37.drew := (Below.refl _ _).drew
  have t111 := Below.trans t39 (Below.mono d110 zb0)
  replace bx_aS := Box.below bx_aS d110
  replace bx_aT := Box.below bx_aT d110
  have z112 := Below.size d110
  replace zb0 : W2.heap.size ≤ w37.drew.heap.size := by omega
  have t113 := Below.trans t111 (Below.mono b58 zb0)
  replace bx_aS := Box.below bx_aS b58
  replace bx_aT := Box.below bx_aT b58
  have z114 := Below.size b58
  replace zb0 : W2.heap.size ≤ w57.heap.size := by omega
  have t115 := Below.trans t113 (Below.mono b71 zb0)
  replace bx_aS := Box.below bx_aS b71
  replace bx_aT := Box.below bx_aT b71
  have z116 := Below.size b71
  replace zb0 : W2.heap.size ≤ w70.heap.size := by omega
  have t117 := Below.trans t115 (Below.mono b91 zb0)
  replace bx_aS := Box.below bx_aS b91
  replace bx_aT := Box.below bx_aT b91
  have z118 := Below.size b91
  replace zb0 : W2.heap.size ≤ w90.heap.size := by omega
  have s119 : Below w90.heap.size w90 w90 := Below.refl _ _
  have za0 : w90.heap.size ≤ w90.heap.size := Nat.le_refl _
  have k120 : w90.cell? ⟨w.heap.size, 0, none⟩ = some ((Value.slice a_aS0 d_aS.heads_.length c_aS0)) := bx_aS.2 0 (by simp)
  have k121 : w90.cell? ⟨w.heap.size, 1, none⟩ = some ((Value.slice a_aS1 d_aS.descs_.length c_aS1)) := bx_aS.2 1 (by simp)
  have k122 : w90.cell? ⟨w.heap.size + 1, 0, none⟩ = some (Value.int .i64 d_aT.id_) := bx_aT.2 0 (by simp)
  have k123 : w90.cell? ⟨w.heap.size + 1, 1, none⟩ = some ((Value.slice a_aT0 d_aT.prog_.length c_aT0)) := bx_aT.2 1 (by simp)
  have k124 : w90.cell? ⟨w.heap.size + 1, 2, none⟩ = some (Value.int .i64 d_aT.at_) := bx_aT.2 2 (by simp)
  have k125 : w90.cell? ⟨w.heap.size + 1, 3, none⟩ = some (Value.int .i64 d_aT.reg0_) := bx_aT.2 3 (by simp)
  have k126 : w90.cell? ⟨w.heap.size + 1, 4, none⟩ = some (Value.int .i64 d_aT.reg1_) := bx_aT.2 4 (by simp)
  have k127 : w90.cell? ⟨w.heap.size + 1, 5, none⟩ = some (Value.int .i64 d_aT.reg2_) := bx_aT.2 5 (by simp)
  have k128 : w90.cell? ⟨w.heap.size + 1, 6, none⟩ = some (Value.int .i64 d_aT.reg3_) := bx_aT.2 6 (by simp)
  have k129 : w90.cell? ⟨w.heap.size + 1, 7, none⟩ = some ((Value.slice a_aT1 d_aT.open_.length c_aT1)) := bx_aT.2 7 (by simp)
  have k130 : w90.cell? ⟨w.heap.size + 1, 8, none⟩ = some (Value.int .i64 d_aT.check_) := bx_aT.2 8 (by simp)
  have k131 : w90.cell? ⟨w.heap.size + 1, 9, none⟩ = some ((Value.slice a_aT2 d_aT.stack_.length c_aT2)) := bx_aT.2 9 (by simp)
  have k132 : w90.cell? ⟨w.heap.size + 1, 10, none⟩ = some (Value.int .i64 d_aT.mine_) := bx_aT.2 10 (by simp)
  have k133 : w90.cell? ⟨w.heap.size + 1, 11, none⟩ = some (Value.int .i64 d_aT.state_) := bx_aT.2 11 (by simp)
  have k134 : w90.cell? ⟨w.heap.size + 1, 12, none⟩ = some (Value.int .i64 d_aT.commits_) := bx_aT.2 12 (by simp)
  have k135 : w90.cell? ⟨w.heap.size + 1, 13, none⟩ = some (Value.int .i64 d_aT.fails_) := bx_aT.2 13 (by simp)
  go_wp2_with fail
  clear k120 k121 k122 k123 k124 k125 k126 k127 k128 k129 k130 k131 k132 k133 k134 k135
  refine (toStore_o d_aS (Value.slice a_aS0 d_aS.heads_.length c_aS0) (Value.slice a_aS1 d_aS.descs_.length c_aS1) _ (rdsL.below h_aS0 t117) (rdsL.below h_aS1 t117) hb_aS).mono ?_
  rintro e w136 ⟨u138, u143, S139, S144, rfl, o140, o145, r141, r146, dj148, b137⟩
  have t149 := Below.trans t117 (Below.mono b137 zb0)
  have s150 := Below.trans s119 (Below.mono b137 za0)
  replace bx_aS := Box.below bx_aS b137
  replace bx_aT := Box.below bx_aT b137
  have z151 := Below.size b137
  replace zb0 : W2.heap.size ≤ w136.heap.size := by omega
  replace za0 : w90.heap.size ≤ w136.heap.size := by omega
  obtain ⟨a152, m153, c154, rfl⟩ := ownL_shape o140
  have hs142 := fun q hq => (r141 q hq).2
  obtain ⟨a155, m156, c157, rfl⟩ := ownL_shape o145
  have hs147 := fun q hq => (r146 q hq).2
  have k158 : w136.cell? ⟨w.heap.size, 0, none⟩ = some ((Value.slice a_aS0 d_aS.heads_.length c_aS0)) := bx_aS.2 0 (by simp)
  have k159 : w136.cell? ⟨w.heap.size, 1, none⟩ = some ((Value.slice a_aS1 d_aS.descs_.length c_aS1)) := bx_aS.2 1 (by simp)
  have k160 : w136.cell? ⟨w.heap.size + 1, 0, none⟩ = some (Value.int .i64 d_aT.id_) := bx_aT.2 0 (by simp)
  have k161 : w136.cell? ⟨w.heap.size + 1, 1, none⟩ = some ((Value.slice a_aT0 d_aT.prog_.length c_aT0)) := bx_aT.2 1 (by simp)
  have k162 : w136.cell? ⟨w.heap.size + 1, 2, none⟩ = some (Value.int .i64 d_aT.at_) := bx_aT.2 2 (by simp)
  have k163 : w136.cell? ⟨w.heap.size + 1, 3, none⟩ = some (Value.int .i64 d_aT.reg0_) := bx_aT.2 3 (by simp)
  have k164 : w136.cell? ⟨w.heap.size + 1, 4, none⟩ = some (Value.int .i64 d_aT.reg1_) := bx_aT.2 4 (by simp)
  have k165 : w136.cell? ⟨w.heap.size + 1, 5, none⟩ = some (Value.int .i64 d_aT.reg2_) := bx_aT.2 5 (by simp)
  have k166 : w136.cell? ⟨w.heap.size + 1, 6, none⟩ = some (Value.int .i64 d_aT.reg3_) := bx_aT.2 6 (by simp)
  have k167 : w136.cell? ⟨w.heap.size + 1, 7, none⟩ = some ((Value.slice a_aT1 d_aT.open_.length c_aT1)) := bx_aT.2 7 (by simp)
  have k168 : w136.cell? ⟨w.heap.size + 1, 8, none⟩ = some (Value.int .i64 d_aT.check_) := bx_aT.2 8 (by simp)
  have k169 : w136.cell? ⟨w.heap.size + 1, 9, none⟩ = some ((Value.slice a_aT2 d_aT.stack_.length c_aT2)) := bx_aT.2 9 (by simp)
  have k170 : w136.cell? ⟨w.heap.size + 1, 10, none⟩ = some (Value.int .i64 d_aT.mine_) := bx_aT.2 10 (by simp)
  have k171 : w136.cell? ⟨w.heap.size + 1, 11, none⟩ = some (Value.int .i64 d_aT.state_) := bx_aT.2 11 (by simp)
  have k172 : w136.cell? ⟨w.heap.size + 1, 12, none⟩ = some (Value.int .i64 d_aT.commits_) := bx_aT.2 12 (by simp)
  have k173 : w136.cell? ⟨w.heap.size + 1, 13, none⟩ = some (Value.int .i64 d_aT.fails_) := bx_aT.2 13 (by simp)
  obtain ⟨X174, hX175⟩ : ∃ X, w136.alloc (.cells #[(Value.slice a152 m153 c154), (Value.slice a155 m156 c157)] 38) = X := ⟨_, rfl⟩
  have bX176 : Below w136.heap.size w136 X174 := by rw [← hX175]; exact (Below.refl _ _).alloc (Nat.le_refl _) _
  have zX174 : X174.heap.size = w136.heap.size + 1 := by rw [← hX175]; simp
  have t177 := Below.trans t149 (Below.mono bX176 zb0)
  have s178 := Below.trans s150 (Below.mono bX176 za0)
  replace o140 := ownL.keep o140 (fun q hq => Below.block bX176 q (hs142 q hq))
  replace hs142 := fun q hq => Nat.lt_of_lt_of_le (hs142 q hq) (Below.size bX176)
  replace o145 := ownL.keep o145 (fun q hq => Below.block bX176 q (hs147 q hq))
  replace hs147 := fun q hq => Nat.lt_of_lt_of_le (hs147 q hq) (Below.size bX176)
  replace bx_aS := Box.below bx_aS bX176
  replace bx_aT := Box.below bx_aT bX176
  have z179 := Below.size bX176
  replace zb0 : W2.heap.size ≤ X174.heap.size := by omega
  replace za0 : w90.heap.size ≤ X174.heap.size := by omega
  have bx180 : Box X174 (w136.heap.size) [(Value.slice a152 m153 c154), (Value.slice a155 m156 c157)] := by rw [← hX175]; exact Box.alloc _ _ _
  have k181 : X174.cell? ⟨w.heap.size, 0, none⟩ = some ((Value.slice a_aS0 d_aS.heads_.length c_aS0)) := bx_aS.2 0 (by simp)
  have k182 : X174.cell? ⟨w.heap.size, 1, none⟩ = some ((Value.slice a_aS1 d_aS.descs_.length c_aS1)) := bx_aS.2 1 (by simp)
  have k183 : X174.cell? ⟨w.heap.size + 1, 0, none⟩ = some (Value.int .i64 d_aT.id_) := bx_aT.2 0 (by simp)
  have k184 : X174.cell? ⟨w.heap.size + 1, 1, none⟩ = some ((Value.slice a_aT0 d_aT.prog_.length c_aT0)) := bx_aT.2 1 (by simp)
  have k185 : X174.cell? ⟨w.heap.size + 1, 2, none⟩ = some (Value.int .i64 d_aT.at_) := bx_aT.2 2 (by simp)
  have k186 : X174.cell? ⟨w.heap.size + 1, 3, none⟩ = some (Value.int .i64 d_aT.reg0_) := bx_aT.2 3 (by simp)
  have k187 : X174.cell? ⟨w.heap.size + 1, 4, none⟩ = some (Value.int .i64 d_aT.reg1_) := bx_aT.2 4 (by simp)
  have k188 : X174.cell? ⟨w.heap.size + 1, 5, none⟩ = some (Value.int .i64 d_aT.reg2_) := bx_aT.2 5 (by simp)
  have k189 : X174.cell? ⟨w.heap.size + 1, 6, none⟩ = some (Value.int .i64 d_aT.reg3_) := bx_aT.2 6 (by simp)
  have k190 : X174.cell? ⟨w.heap.size + 1, 7, none⟩ = some ((Value.slice a_aT1 d_aT.open_.length c_aT1)) := bx_aT.2 7 (by simp)
  have k191 : X174.cell? ⟨w.heap.size + 1, 8, none⟩ = some (Value.int .i64 d_aT.check_) := bx_aT.2 8 (by simp)
  have k192 : X174.cell? ⟨w.heap.size + 1, 9, none⟩ = some ((Value.slice a_aT2 d_aT.stack_.length c_aT2)) := bx_aT.2 9 (by simp)
  have k193 : X174.cell? ⟨w.heap.size + 1, 10, none⟩ = some (Value.int .i64 d_aT.mine_) := bx_aT.2 10 (by simp)
  have k194 : X174.cell? ⟨w.heap.size + 1, 11, none⟩ = some (Value.int .i64 d_aT.state_) := bx_aT.2 11 (by simp)
  have k195 : X174.cell? ⟨w.heap.size + 1, 12, none⟩ = some (Value.int .i64 d_aT.commits_) := bx_aT.2 12 (by simp)
  have k196 : X174.cell? ⟨w.heap.size + 1, 13, none⟩ = some (Value.int .i64 d_aT.fails_) := bx_aT.2 13 (by simp)
  have k197 : X174.cell? ⟨w136.heap.size, 0, none⟩ = some ((Value.slice a152 m153 c154)) := bx180.2 0 (by simp)
  have k198 : X174.cell? ⟨w136.heap.size, 1, none⟩ = some ((Value.slice a155 m156 c157)) := bx180.2 1 (by simp)
  go_wp2_with fail
  clear k158 k159 k160 k161 k162 k163 k164 k165 k166 k167 k168 k169 k170 k171 k172 k173 k181 k182 k183 k184 k185 k186 k187 k188 k189 k190 k191 k192 k193 k194 k195 k196 k197 k198 hX175
  refine (toThread_o d_aT (Value.slice a_aT0 d_aT.prog_.length c_aT0) (Value.slice a_aT1 d_aT.open_.length c_aT1) (Value.slice a_aT2 d_aT.stack_.length c_aT2) _ (rdsL.below h_aT0 t177) (rdsL.below h_aT1 t177) (rdsL.below h_aT2 t177) hb_aT).mono ?_
  rintro e w199 ⟨u201, u206, u211, S202, S207, S212, rfl, o203, o208, o213, r204, r209, r214, dj216, dj217, dj218, b200⟩
  have t219 := Below.trans t177 (Below.mono b200 zb0)
  have s220 := Below.trans s178 (Below.mono b200 za0)
  replace o140 := ownL.keep o140 (fun q hq => Below.block b200 q (hs142 q hq))
  replace hs142 := fun q hq => Nat.lt_of_lt_of_le (hs142 q hq) (Below.size b200)
  replace o145 := ownL.keep o145 (fun q hq => Below.block b200 q (hs147 q hq))
  replace hs147 := fun q hq => Nat.lt_of_lt_of_le (hs147 q hq) (Below.size b200)
  replace bx_aS := Box.below bx_aS b200
  replace bx_aT := Box.below bx_aT b200
  replace bx180 := Box.below bx180 b200
  have z221 := Below.size b200
  replace zb0 : W2.heap.size ≤ w199.heap.size := by omega
  replace za0 : w90.heap.size ≤ w199.heap.size := by omega
  obtain ⟨a222, m223, c224, rfl⟩ := ownL_shape o203
  have hs205 := fun q hq => (r204 q hq).2
  obtain ⟨a225, m226, c227, rfl⟩ := ownL_shape o208
  have hs210 := fun q hq => (r209 q hq).2
  obtain ⟨a228, m229, c230, rfl⟩ := ownL_shape o213
  have hs215 := fun q hq => (r214 q hq).2
  have k231 : w199.cell? ⟨w.heap.size, 0, none⟩ = some ((Value.slice a_aS0 d_aS.heads_.length c_aS0)) := bx_aS.2 0 (by simp)
  have k232 : w199.cell? ⟨w.heap.size, 1, none⟩ = some ((Value.slice a_aS1 d_aS.descs_.length c_aS1)) := bx_aS.2 1 (by simp)
  have k233 : w199.cell? ⟨w.heap.size + 1, 0, none⟩ = some (Value.int .i64 d_aT.id_) := bx_aT.2 0 (by simp)
  have k234 : w199.cell? ⟨w.heap.size + 1, 1, none⟩ = some ((Value.slice a_aT0 d_aT.prog_.length c_aT0)) := bx_aT.2 1 (by simp)
  have k235 : w199.cell? ⟨w.heap.size + 1, 2, none⟩ = some (Value.int .i64 d_aT.at_) := bx_aT.2 2 (by simp)
  have k236 : w199.cell? ⟨w.heap.size + 1, 3, none⟩ = some (Value.int .i64 d_aT.reg0_) := bx_aT.2 3 (by simp)
  have k237 : w199.cell? ⟨w.heap.size + 1, 4, none⟩ = some (Value.int .i64 d_aT.reg1_) := bx_aT.2 4 (by simp)
  have k238 : w199.cell? ⟨w.heap.size + 1, 5, none⟩ = some (Value.int .i64 d_aT.reg2_) := bx_aT.2 5 (by simp)
  have k239 : w199.cell? ⟨w.heap.size + 1, 6, none⟩ = some (Value.int .i64 d_aT.reg3_) := bx_aT.2 6 (by simp)
  have k240 : w199.cell? ⟨w.heap.size + 1, 7, none⟩ = some ((Value.slice a_aT1 d_aT.open_.length c_aT1)) := bx_aT.2 7 (by simp)
  have k241 : w199.cell? ⟨w.heap.size + 1, 8, none⟩ = some (Value.int .i64 d_aT.check_) := bx_aT.2 8 (by simp)
  have k242 : w199.cell? ⟨w.heap.size + 1, 9, none⟩ = some ((Value.slice a_aT2 d_aT.stack_.length c_aT2)) := bx_aT.2 9 (by simp)
  have k243 : w199.cell? ⟨w.heap.size + 1, 10, none⟩ = some (Value.int .i64 d_aT.mine_) := bx_aT.2 10 (by simp)
  have k244 : w199.cell? ⟨w.heap.size + 1, 11, none⟩ = some (Value.int .i64 d_aT.state_) := bx_aT.2 11 (by simp)
  have k245 : w199.cell? ⟨w.heap.size + 1, 12, none⟩ = some (Value.int .i64 d_aT.commits_) := bx_aT.2 12 (by simp)
  have k246 : w199.cell? ⟨w.heap.size + 1, 13, none⟩ = some (Value.int .i64 d_aT.fails_) := bx_aT.2 13 (by simp)
  have k247 : w199.cell? ⟨w136.heap.size, 0, none⟩ = some ((Value.slice a152 m153 c154)) := bx180.2 0 (by simp)
  have k248 : w199.cell? ⟨w136.heap.size, 1, none⟩ = some ((Value.slice a155 m156 c157)) := bx180.2 1 (by simp)
  obtain ⟨X249, hX250⟩ : ∃ X, w199.alloc (.cells #[Value.int .i64 d_aT.id_, (Value.slice a222 m223 c224), Value.int .i64 d_aT.at_, Value.int .i64 d_aT.reg0_, Value.int .i64 d_aT.reg1_, Value.int .i64 d_aT.reg2_, Value.int .i64 d_aT.reg3_, (Value.slice a225 m226 c227), Value.int .i64 d_aT.check_, (Value.slice a228 m229 c230), Value.int .i64 d_aT.mine_, Value.int .i64 d_aT.state_, Value.int .i64 d_aT.commits_, Value.int .i64 d_aT.fails_] 44) = X := ⟨_, rfl⟩
  have bX251 : Below w199.heap.size w199 X249 := by rw [← hX250]; exact (Below.refl _ _).alloc (Nat.le_refl _) _
  have zX249 : X249.heap.size = w199.heap.size + 1 := by rw [← hX250]; simp
  have t252 := Below.trans t219 (Below.mono bX251 zb0)
  have s253 := Below.trans s220 (Below.mono bX251 za0)
  replace o140 := ownL.keep o140 (fun q hq => Below.block bX251 q (hs142 q hq))
  replace hs142 := fun q hq => Nat.lt_of_lt_of_le (hs142 q hq) (Below.size bX251)
  replace o145 := ownL.keep o145 (fun q hq => Below.block bX251 q (hs147 q hq))
  replace hs147 := fun q hq => Nat.lt_of_lt_of_le (hs147 q hq) (Below.size bX251)
  replace o203 := ownL.keep o203 (fun q hq => Below.block bX251 q (hs205 q hq))
  replace hs205 := fun q hq => Nat.lt_of_lt_of_le (hs205 q hq) (Below.size bX251)
  replace o208 := ownL.keep o208 (fun q hq => Below.block bX251 q (hs210 q hq))
  replace hs210 := fun q hq => Nat.lt_of_lt_of_le (hs210 q hq) (Below.size bX251)
  replace o213 := ownL.keep o213 (fun q hq => Below.block bX251 q (hs215 q hq))
  replace hs215 := fun q hq => Nat.lt_of_lt_of_le (hs215 q hq) (Below.size bX251)
  replace bx_aS := Box.below bx_aS bX251
  replace bx_aT := Box.below bx_aT bX251
  replace bx180 := Box.below bx180 bX251
  have z254 := Below.size bX251
  replace zb0 : W2.heap.size ≤ X249.heap.size := by omega
  replace za0 : w90.heap.size ≤ X249.heap.size := by omega
  have bx255 : Box X249 (w199.heap.size) [Value.int .i64 d_aT.id_, (Value.slice a222 m223 c224), Value.int .i64 d_aT.at_, Value.int .i64 d_aT.reg0_, Value.int .i64 d_aT.reg1_, Value.int .i64 d_aT.reg2_, Value.int .i64 d_aT.reg3_, (Value.slice a225 m226 c227), Value.int .i64 d_aT.check_, (Value.slice a228 m229 c230), Value.int .i64 d_aT.mine_, Value.int .i64 d_aT.state_, Value.int .i64 d_aT.commits_, Value.int .i64 d_aT.fails_] := by rw [← hX250]; exact Box.alloc _ _ _
  have k256 : X249.cell? ⟨w.heap.size, 0, none⟩ = some ((Value.slice a_aS0 d_aS.heads_.length c_aS0)) := bx_aS.2 0 (by simp)
  have k257 : X249.cell? ⟨w.heap.size, 1, none⟩ = some ((Value.slice a_aS1 d_aS.descs_.length c_aS1)) := bx_aS.2 1 (by simp)
  have k258 : X249.cell? ⟨w.heap.size + 1, 0, none⟩ = some (Value.int .i64 d_aT.id_) := bx_aT.2 0 (by simp)
  have k259 : X249.cell? ⟨w.heap.size + 1, 1, none⟩ = some ((Value.slice a_aT0 d_aT.prog_.length c_aT0)) := bx_aT.2 1 (by simp)
  have k260 : X249.cell? ⟨w.heap.size + 1, 2, none⟩ = some (Value.int .i64 d_aT.at_) := bx_aT.2 2 (by simp)
  have k261 : X249.cell? ⟨w.heap.size + 1, 3, none⟩ = some (Value.int .i64 d_aT.reg0_) := bx_aT.2 3 (by simp)
  have k262 : X249.cell? ⟨w.heap.size + 1, 4, none⟩ = some (Value.int .i64 d_aT.reg1_) := bx_aT.2 4 (by simp)
  have k263 : X249.cell? ⟨w.heap.size + 1, 5, none⟩ = some (Value.int .i64 d_aT.reg2_) := bx_aT.2 5 (by simp)
  have k264 : X249.cell? ⟨w.heap.size + 1, 6, none⟩ = some (Value.int .i64 d_aT.reg3_) := bx_aT.2 6 (by simp)
  have k265 : X249.cell? ⟨w.heap.size + 1, 7, none⟩ = some ((Value.slice a_aT1 d_aT.open_.length c_aT1)) := bx_aT.2 7 (by simp)
  have k266 : X249.cell? ⟨w.heap.size + 1, 8, none⟩ = some (Value.int .i64 d_aT.check_) := bx_aT.2 8 (by simp)
  have k267 : X249.cell? ⟨w.heap.size + 1, 9, none⟩ = some ((Value.slice a_aT2 d_aT.stack_.length c_aT2)) := bx_aT.2 9 (by simp)
  have k268 : X249.cell? ⟨w.heap.size + 1, 10, none⟩ = some (Value.int .i64 d_aT.mine_) := bx_aT.2 10 (by simp)
  have k269 : X249.cell? ⟨w.heap.size + 1, 11, none⟩ = some (Value.int .i64 d_aT.state_) := bx_aT.2 11 (by simp)
  have k270 : X249.cell? ⟨w.heap.size + 1, 12, none⟩ = some (Value.int .i64 d_aT.commits_) := bx_aT.2 12 (by simp)
  have k271 : X249.cell? ⟨w.heap.size + 1, 13, none⟩ = some (Value.int .i64 d_aT.fails_) := bx_aT.2 13 (by simp)
  have k272 : X249.cell? ⟨w136.heap.size, 0, none⟩ = some ((Value.slice a152 m153 c154)) := bx180.2 0 (by simp)
  have k273 : X249.cell? ⟨w136.heap.size, 1, none⟩ = some ((Value.slice a155 m156 c157)) := bx180.2 1 (by simp)
  have k274 : X249.cell? ⟨w199.heap.size, 0, none⟩ = some (Value.int .i64 d_aT.id_) := bx255.2 0 (by simp)
  have k275 : X249.cell? ⟨w199.heap.size, 1, none⟩ = some ((Value.slice a222 m223 c224)) := bx255.2 1 (by simp)
  have k276 : X249.cell? ⟨w199.heap.size, 2, none⟩ = some (Value.int .i64 d_aT.at_) := bx255.2 2 (by simp)
  have k277 : X249.cell? ⟨w199.heap.size, 3, none⟩ = some (Value.int .i64 d_aT.reg0_) := bx255.2 3 (by simp)
  have k278 : X249.cell? ⟨w199.heap.size, 4, none⟩ = some (Value.int .i64 d_aT.reg1_) := bx255.2 4 (by simp)
  have k279 : X249.cell? ⟨w199.heap.size, 5, none⟩ = some (Value.int .i64 d_aT.reg2_) := bx255.2 5 (by simp)
  have k280 : X249.cell? ⟨w199.heap.size, 6, none⟩ = some (Value.int .i64 d_aT.reg3_) := bx255.2 6 (by simp)
  have k281 : X249.cell? ⟨w199.heap.size, 7, none⟩ = some ((Value.slice a225 m226 c227)) := bx255.2 7 (by simp)
  have k282 : X249.cell? ⟨w199.heap.size, 8, none⟩ = some (Value.int .i64 d_aT.check_) := bx255.2 8 (by simp)
  have k283 : X249.cell? ⟨w199.heap.size, 9, none⟩ = some ((Value.slice a228 m229 c230)) := bx255.2 9 (by simp)
  have k284 : X249.cell? ⟨w199.heap.size, 10, none⟩ = some (Value.int .i64 d_aT.mine_) := bx255.2 10 (by simp)
  have k285 : X249.cell? ⟨w199.heap.size, 11, none⟩ = some (Value.int .i64 d_aT.state_) := bx255.2 11 (by simp)
  have k286 : X249.cell? ⟨w199.heap.size, 12, none⟩ = some (Value.int .i64 d_aT.commits_) := bx255.2 12 (by simp)
  have k287 : X249.cell? ⟨w199.heap.size, 13, none⟩ = some (Value.int .i64 d_aT.fails_) := bx255.2 13 (by simp)
  go_wp2_with fail
  clear k231 k232 k233 k234 k235 k236 k237 k238 k239 k240 k241 k242 k243 k244 k245 k246 k247 k248 k256 k257 k258 k259 k260 k261 k262 k263 k264 k265 k266 k267 k268 k269 k270 k271 k272 k273 k274 k275 k276 k277 k278 k279 k280 k281 k282 k283 k284 k285 k286 k287 hX250
  refine (impl_ThreadOkW d_aS (Value.slice a152 m153 c154) (Value.slice a155 m156 c157) d_aT (Value.slice a222 m223 c224) (Value.slice a225 m226 c227) (Value.slice a228 m229 c230) _ (ownL.rds o140) (ownL.rds o145) hb_aS (ownL.rds o203) (ownL.rds o208) (ownL.rds o213) hb_aT).mono ?_
  rintro e w288 ⟨rfl, b289⟩
  have t290 := Below.trans t252 (Below.mono b289 zb0)
  have s291 := Below.trans s253 (Below.mono b289 za0)
  replace o140 := ownL.keep o140 (fun q hq => Below.block b289 q (hs142 q hq))
  replace hs142 := fun q hq => Nat.lt_of_lt_of_le (hs142 q hq) (Below.size b289)
  replace o145 := ownL.keep o145 (fun q hq => Below.block b289 q (hs147 q hq))
  replace hs147 := fun q hq => Nat.lt_of_lt_of_le (hs147 q hq) (Below.size b289)
  replace o203 := ownL.keep o203 (fun q hq => Below.block b289 q (hs205 q hq))
  replace hs205 := fun q hq => Nat.lt_of_lt_of_le (hs205 q hq) (Below.size b289)
  replace o208 := ownL.keep o208 (fun q hq => Below.block b289 q (hs210 q hq))
  replace hs210 := fun q hq => Nat.lt_of_lt_of_le (hs210 q hq) (Below.size b289)
  replace o213 := ownL.keep o213 (fun q hq => Below.block b289 q (hs215 q hq))
  replace hs215 := fun q hq => Nat.lt_of_lt_of_le (hs215 q hq) (Below.size b289)
  replace bx_aS := Box.below bx_aS b289
  replace bx_aT := Box.below bx_aT b289
  replace bx180 := Box.below bx180 b289
  replace bx255 := Box.below bx255 b289
  have z292 := Below.size b289
  replace zb0 : W2.heap.size ≤ w288.heap.size := by omega
  replace za0 : w90.heap.size ≤ w288.heap.size := by omega
  have k293 : w288.cell? ⟨w.heap.size, 0, none⟩ = some ((Value.slice a_aS0 d_aS.heads_.length c_aS0)) := bx_aS.2 0 (by simp)
  have k294 : w288.cell? ⟨w.heap.size, 1, none⟩ = some ((Value.slice a_aS1 d_aS.descs_.length c_aS1)) := bx_aS.2 1 (by simp)
  have k295 : w288.cell? ⟨w.heap.size + 1, 0, none⟩ = some (Value.int .i64 d_aT.id_) := bx_aT.2 0 (by simp)
  have k296 : w288.cell? ⟨w.heap.size + 1, 1, none⟩ = some ((Value.slice a_aT0 d_aT.prog_.length c_aT0)) := bx_aT.2 1 (by simp)
  have k297 : w288.cell? ⟨w.heap.size + 1, 2, none⟩ = some (Value.int .i64 d_aT.at_) := bx_aT.2 2 (by simp)
  have k298 : w288.cell? ⟨w.heap.size + 1, 3, none⟩ = some (Value.int .i64 d_aT.reg0_) := bx_aT.2 3 (by simp)
  have k299 : w288.cell? ⟨w.heap.size + 1, 4, none⟩ = some (Value.int .i64 d_aT.reg1_) := bx_aT.2 4 (by simp)
  have k300 : w288.cell? ⟨w.heap.size + 1, 5, none⟩ = some (Value.int .i64 d_aT.reg2_) := bx_aT.2 5 (by simp)
  have k301 : w288.cell? ⟨w.heap.size + 1, 6, none⟩ = some (Value.int .i64 d_aT.reg3_) := bx_aT.2 6 (by simp)
  have k302 : w288.cell? ⟨w.heap.size + 1, 7, none⟩ = some ((Value.slice a_aT1 d_aT.open_.length c_aT1)) := bx_aT.2 7 (by simp)
  have k303 : w288.cell? ⟨w.heap.size + 1, 8, none⟩ = some (Value.int .i64 d_aT.check_) := bx_aT.2 8 (by simp)
  have k304 : w288.cell? ⟨w.heap.size + 1, 9, none⟩ = some ((Value.slice a_aT2 d_aT.stack_.length c_aT2)) := bx_aT.2 9 (by simp)
  have k305 : w288.cell? ⟨w.heap.size + 1, 10, none⟩ = some (Value.int .i64 d_aT.mine_) := bx_aT.2 10 (by simp)
  have k306 : w288.cell? ⟨w.heap.size + 1, 11, none⟩ = some (Value.int .i64 d_aT.state_) := bx_aT.2 11 (by simp)
  have k307 : w288.cell? ⟨w.heap.size + 1, 12, none⟩ = some (Value.int .i64 d_aT.commits_) := bx_aT.2 12 (by simp)
  have k308 : w288.cell? ⟨w.heap.size + 1, 13, none⟩ = some (Value.int .i64 d_aT.fails_) := bx_aT.2 13 (by simp)
  have k309 : w288.cell? ⟨w136.heap.size, 0, none⟩ = some ((Value.slice a152 m153 c154)) := bx180.2 0 (by simp)
  have k310 : w288.cell? ⟨w136.heap.size, 1, none⟩ = some ((Value.slice a155 m156 c157)) := bx180.2 1 (by simp)
  have k311 : w288.cell? ⟨w199.heap.size, 0, none⟩ = some (Value.int .i64 d_aT.id_) := bx255.2 0 (by simp)
  have k312 : w288.cell? ⟨w199.heap.size, 1, none⟩ = some ((Value.slice a222 m223 c224)) := bx255.2 1 (by simp)
  have k313 : w288.cell? ⟨w199.heap.size, 2, none⟩ = some (Value.int .i64 d_aT.at_) := bx255.2 2 (by simp)
  have k314 : w288.cell? ⟨w199.heap.size, 3, none⟩ = some (Value.int .i64 d_aT.reg0_) := bx255.2 3 (by simp)
  have k315 : w288.cell? ⟨w199.heap.size, 4, none⟩ = some (Value.int .i64 d_aT.reg1_) := bx255.2 4 (by simp)
  have k316 : w288.cell? ⟨w199.heap.size, 5, none⟩ = some (Value.int .i64 d_aT.reg2_) := bx255.2 5 (by simp)
  have k317 : w288.cell? ⟨w199.heap.size, 6, none⟩ = some (Value.int .i64 d_aT.reg3_) := bx255.2 6 (by simp)
  have k318 : w288.cell? ⟨w199.heap.size, 7, none⟩ = some ((Value.slice a225 m226 c227)) := bx255.2 7 (by simp)
  have k319 : w288.cell? ⟨w199.heap.size, 8, none⟩ = some (Value.int .i64 d_aT.check_) := bx255.2 8 (by simp)
  have k320 : w288.cell? ⟨w199.heap.size, 9, none⟩ = some ((Value.slice a228 m229 c230)) := bx255.2 9 (by simp)
  have k321 : w288.cell? ⟨w199.heap.size, 10, none⟩ = some (Value.int .i64 d_aT.mine_) := bx255.2 10 (by simp)
  have k322 : w288.cell? ⟨w199.heap.size, 11, none⟩ = some (Value.int .i64 d_aT.state_) := bx255.2 11 (by simp)
  have k323 : w288.cell? ⟨w199.heap.size, 12, none⟩ = some (Value.int .i64 d_aT.commits_) := bx255.2 12 (by simp)
  have k324 : w288.cell? ⟨w199.heap.size, 13, none⟩ = some (Value.int .i64 d_aT.fails_) := bx255.2 13 (by simp)
  go_wp2_with fail
  clear k293 k294 k295 k296 k297 k298 k299 k300 k301 k302 k303 k304 k305 k306 k307 k308 k309 k310 k311 k312 k313 k314 k315 k316 k317 k318 k319 k320 k321 k322 k323 k324
  have lt340 := (bx_aS).1
  have lt341 := (bx_aT).1
  have lt342 := (bx180).1
  have lt343 := (bx255).1
  have k344 : w288.cell? ⟨w.heap.size, 0, none⟩ = some ((Value.slice a_aS0 d_aS.heads_.length c_aS0)) := bx_aS.2 0 (by simp)
  have k345 : w288.cell? ⟨w.heap.size, 1, none⟩ = some ((Value.slice a_aS1 d_aS.descs_.length c_aS1)) := bx_aS.2 1 (by simp)
  have k346 : w288.cell? ⟨w.heap.size + 1, 0, none⟩ = some (Value.int .i64 d_aT.id_) := bx_aT.2 0 (by simp)
  have k347 : w288.cell? ⟨w.heap.size + 1, 1, none⟩ = some ((Value.slice a_aT0 d_aT.prog_.length c_aT0)) := bx_aT.2 1 (by simp)
  have k348 : w288.cell? ⟨w.heap.size + 1, 2, none⟩ = some (Value.int .i64 d_aT.at_) := bx_aT.2 2 (by simp)
  have k349 : w288.cell? ⟨w.heap.size + 1, 3, none⟩ = some (Value.int .i64 d_aT.reg0_) := bx_aT.2 3 (by simp)
  have k350 : w288.cell? ⟨w.heap.size + 1, 4, none⟩ = some (Value.int .i64 d_aT.reg1_) := bx_aT.2 4 (by simp)
  have k351 : w288.cell? ⟨w.heap.size + 1, 5, none⟩ = some (Value.int .i64 d_aT.reg2_) := bx_aT.2 5 (by simp)
  have k352 : w288.cell? ⟨w.heap.size + 1, 6, none⟩ = some (Value.int .i64 d_aT.reg3_) := bx_aT.2 6 (by simp)
  have k353 : w288.cell? ⟨w.heap.size + 1, 7, none⟩ = some ((Value.slice a_aT1 d_aT.open_.length c_aT1)) := bx_aT.2 7 (by simp)
  have k354 : w288.cell? ⟨w.heap.size + 1, 8, none⟩ = some (Value.int .i64 d_aT.check_) := bx_aT.2 8 (by simp)
  have k355 : w288.cell? ⟨w.heap.size + 1, 9, none⟩ = some ((Value.slice a_aT2 d_aT.stack_.length c_aT2)) := bx_aT.2 9 (by simp)
  have k356 : w288.cell? ⟨w.heap.size + 1, 10, none⟩ = some (Value.int .i64 d_aT.mine_) := bx_aT.2 10 (by simp)
  have k357 : w288.cell? ⟨w.heap.size + 1, 11, none⟩ = some (Value.int .i64 d_aT.state_) := bx_aT.2 11 (by simp)
  have k358 : w288.cell? ⟨w.heap.size + 1, 12, none⟩ = some (Value.int .i64 d_aT.commits_) := bx_aT.2 12 (by simp)
  have k359 : w288.cell? ⟨w.heap.size + 1, 13, none⟩ = some (Value.int .i64 d_aT.fails_) := bx_aT.2 13 (by simp)
  have k360 : w288.cell? ⟨w136.heap.size, 0, none⟩ = some ((Value.slice a152 m153 c154)) := bx180.2 0 (by simp)
  have k361 : w288.cell? ⟨w136.heap.size, 1, none⟩ = some ((Value.slice a155 m156 c157)) := bx180.2 1 (by simp)
  have k362 : w288.cell? ⟨w199.heap.size, 0, none⟩ = some (Value.int .i64 d_aT.id_) := bx255.2 0 (by simp)
  have k363 : w288.cell? ⟨w199.heap.size, 1, none⟩ = some ((Value.slice a222 m223 c224)) := bx255.2 1 (by simp)
  have k364 : w288.cell? ⟨w199.heap.size, 2, none⟩ = some (Value.int .i64 d_aT.at_) := bx255.2 2 (by simp)
  have k365 : w288.cell? ⟨w199.heap.size, 3, none⟩ = some (Value.int .i64 d_aT.reg0_) := bx255.2 3 (by simp)
  have k366 : w288.cell? ⟨w199.heap.size, 4, none⟩ = some (Value.int .i64 d_aT.reg1_) := bx255.2 4 (by simp)
  have k367 : w288.cell? ⟨w199.heap.size, 5, none⟩ = some (Value.int .i64 d_aT.reg2_) := bx255.2 5 (by simp)
  have k368 : w288.cell? ⟨w199.heap.size, 6, none⟩ = some (Value.int .i64 d_aT.reg3_) := bx255.2 6 (by simp)
  have k369 : w288.cell? ⟨w199.heap.size, 7, none⟩ = some ((Value.slice a225 m226 c227)) := bx255.2 7 (by simp)
  have k370 : w288.cell? ⟨w199.heap.size, 8, none⟩ = some (Value.int .i64 d_aT.check_) := bx255.2 8 (by simp)
  have k371 : w288.cell? ⟨w199.heap.size, 9, none⟩ = some ((Value.slice a228 m229 c230)) := bx255.2 9 (by simp)
  have k372 : w288.cell? ⟨w199.heap.size, 10, none⟩ = some (Value.int .i64 d_aT.mine_) := bx255.2 10 (by simp)
  have k373 : w288.cell? ⟨w199.heap.size, 11, none⟩ = some (Value.int .i64 d_aT.state_) := bx255.2 11 (by simp)
  have k374 : w288.cell? ⟨w199.heap.size, 12, none⟩ = some (Value.int .i64 d_aT.commits_) := bx255.2 12 (by simp)
  have k375 : w288.cell? ⟨w199.heap.size, 13, none⟩ = some (Value.int .i64 d_aT.fails_) := bx255.2 13 (by simp)
  go_region_held3 (fun w' => Below w288.heap.size w288 w' ∧ w288.heap.size ≤ w'.heap.size ∧ w'.cell? ⟨w.heap.size, 0, none⟩ = some ((Value.slice a_aS0 d_aS.heads_.length c_aS0)) ∧ w'.cell? ⟨w.heap.size, 1, none⟩ = some ((Value.slice a_aS1 d_aS.descs_.length c_aS1)) ∧ w'.cell? ⟨w.heap.size + 1, 0, none⟩ = some (Value.int .i64 d_aT.id_) ∧ w'.cell? ⟨w.heap.size + 1, 1, none⟩ = some ((Value.slice a_aT0 d_aT.prog_.length c_aT0)) ∧ w'.cell? ⟨w.heap.size + 1, 2, none⟩ = some (Value.int .i64 d_aT.at_) ∧ w'.cell? ⟨w.heap.size + 1, 3, none⟩ = some (Value.int .i64 d_aT.reg0_) ∧ w'.cell? ⟨w.heap.size + 1, 4, none⟩ = some (Value.int .i64 d_aT.reg1_) ∧ w'.cell? ⟨w.heap.size + 1, 5, none⟩ = some (Value.int .i64 d_aT.reg2_) ∧ w'.cell? ⟨w.heap.size + 1, 6, none⟩ = some (Value.int .i64 d_aT.reg3_) ∧ w'.cell? ⟨w.heap.size + 1, 7, none⟩ = some ((Value.slice a_aT1 d_aT.open_.length c_aT1)) ∧ w'.cell? ⟨w.heap.size + 1, 8, none⟩ = some (Value.int .i64 d_aT.check_) ∧ w'.cell? ⟨w.heap.size + 1, 9, none⟩ = some ((Value.slice a_aT2 d_aT.stack_.length c_aT2)) ∧ w'.cell? ⟨w.heap.size + 1, 10, none⟩ = some (Value.int .i64 d_aT.mine_) ∧ w'.cell? ⟨w.heap.size + 1, 11, none⟩ = some (Value.int .i64 d_aT.state_) ∧ w'.cell? ⟨w.heap.size + 1, 12, none⟩ = some (Value.int .i64 d_aT.commits_) ∧ w'.cell? ⟨w.heap.size + 1, 13, none⟩ = some (Value.int .i64 d_aT.fails_) ∧ w'.cell? ⟨w136.heap.size, 0, none⟩ = some ((Value.slice a152 m153 c154)) ∧ w'.cell? ⟨w136.heap.size, 1, none⟩ = some ((Value.slice a155 m156 c157)) ∧ w'.cell? ⟨w199.heap.size, 0, none⟩ = some (Value.int .i64 d_aT.id_) ∧ w'.cell? ⟨w199.heap.size, 1, none⟩ = some ((Value.slice a222 m223 c224)) ∧ w'.cell? ⟨w199.heap.size, 2, none⟩ = some (Value.int .i64 d_aT.at_) ∧ w'.cell? ⟨w199.heap.size, 3, none⟩ = some (Value.int .i64 d_aT.reg0_) ∧ w'.cell? ⟨w199.heap.size, 4, none⟩ = some (Value.int .i64 d_aT.reg1_) ∧ w'.cell? ⟨w199.heap.size, 5, none⟩ = some (Value.int .i64 d_aT.reg2_) ∧ w'.cell? ⟨w199.heap.size, 6, none⟩ = some (Value.int .i64 d_aT.reg3_) ∧ w'.cell? ⟨w199.heap.size, 7, none⟩ = some ((Value.slice a225 m226 c227)) ∧ w'.cell? ⟨w199.heap.size, 8, none⟩ = some (Value.int .i64 d_aT.check_) ∧ w'.cell? ⟨w199.heap.size, 9, none⟩ = some ((Value.slice a228 m229 c230)) ∧ w'.cell? ⟨w199.heap.size, 10, none⟩ = some (Value.int .i64 d_aT.mine_) ∧ w'.cell? ⟨w199.heap.size, 11, none⟩ = some (Value.int .i64 d_aT.state_) ∧ w'.cell? ⟨w199.heap.size, 12, none⟩ = some (Value.int .i64 d_aT.commits_) ∧ w'.cell? ⟨w199.heap.size, 13, none⟩ = some (Value.int .i64 d_aT.fails_))
    (first | exact ⟨(Below.refl _ _).drew, Nat.le_refl _, k344, k345, k346, k347, k348, k349, k350, k351, k352, k353, k354, k355, k356, k357, k358, k359, k360, k361, k362, k363, k364, k365, k366, k367, k368, k369, k370, k371, k372, k373, k374, k375⟩ | exact keepBox32 (by omega) ‹_› ‹_›)
    (first
    | (go_at_call 9; refine (toStore_o d_aS (Value.slice a_aS0 d_aS.heads_.length c_aS0) (Value.slice a_aS1 d_aS.descs_.length c_aS1) _ (rdsL.below (rdsL.below h_aS0 t290) ((Below.refl _ _).drew : Below w288.heap.size w288 w288.drew)) (rdsL.below (rdsL.below h_aS1 t290) ((Below.refl _ _).drew : Below w288.heap.size w288 w288.drew)) hb_aS).mono ?_; rintro e w325 ⟨u327, u332, S328, S333, rfl, o329, o334, r330, r335, dj337, b326⟩; have hq_w325 : Below w288.heap.size w288 w325 := Below.trans ((Below.refl _ _).drew : Below w288.heap.size w288 w288.drew) (Below.mono b326 (Below.size ((Below.refl _ _).drew : Below w288.heap.size w288 w288.drew))))
    | (go_at_call 12; refine (eqStore_o _ _ _ _ _ _ (rdsL.below (rdsL.below (ownL.rds o140) ((Below.refl _ _).drew : Below w288.heap.size w288 w288.drew)) b326) (rdsL.below (rdsL.below (ownL.rds o145) ((Below.refl _ _).drew : Below w288.heap.size w288 w288.drew)) b326) (ownL.rds o329) (ownL.rds o334)).mono ?_; rintro e w338 ⟨rfl, b339⟩))
  clear k344 k345 k346 k347 k348 k349 k350 k351 k352 k353 k354 k355 k356 k357 k358 k359 k360 k361 k362 k363 k364 k365 k366 k367 k368 k369 k370 k371 k372 k373 k374 k375
  have d376 : Below w288.heap.size w288 w288.drew := (Below.refl _ _).drew
  have t377 := Below.trans t290 (Below.mono d376 zb0)
  have s378 := Below.trans s291 (Below.mono d376 za0)
  replace o140 := ownL.keep o140 (fun q hq => Below.block d376 q (hs142 q hq))
  replace hs142 := fun q hq => Nat.lt_of_lt_of_le (hs142 q hq) (Below.size d376)
  replace o145 := ownL.keep o145 (fun q hq => Below.block d376 q (hs147 q hq))
  replace hs147 := fun q hq => Nat.lt_of_lt_of_le (hs147 q hq) (Below.size d376)
  replace o203 := ownL.keep o203 (fun q hq => Below.block d376 q (hs205 q hq))
  replace hs205 := fun q hq => Nat.lt_of_lt_of_le (hs205 q hq) (Below.size d376)
  replace o208 := ownL.keep o208 (fun q hq => Below.block d376 q (hs210 q hq))
  replace hs210 := fun q hq => Nat.lt_of_lt_of_le (hs210 q hq) (Below.size d376)
  replace o213 := ownL.keep o213 (fun q hq => Below.block d376 q (hs215 q hq))
  replace hs215 := fun q hq => Nat.lt_of_lt_of_le (hs215 q hq) (Below.size d376)
  replace bx_aS := Box.below bx_aS d376
  replace bx_aT := Box.below bx_aT d376
  replace bx180 := Box.below bx180 d376
  replace bx255 := Box.below bx255 d376
  have z379 := Below.size d376
  replace zb0 : W2.heap.size ≤ w288.drew.heap.size := by omega
  replace za0 : w90.heap.size ≤ w288.drew.heap.size := by omega
  have t380 := Below.trans t377 (Below.mono b326 zb0)
  have s381 := Below.trans s378 (Below.mono b326 za0)
  replace o140 := ownL.keep o140 (fun q hq => Below.block b326 q (hs142 q hq))
  replace hs142 := fun q hq => Nat.lt_of_lt_of_le (hs142 q hq) (Below.size b326)
  replace o145 := ownL.keep o145 (fun q hq => Below.block b326 q (hs147 q hq))
  replace hs147 := fun q hq => Nat.lt_of_lt_of_le (hs147 q hq) (Below.size b326)
  replace o203 := ownL.keep o203 (fun q hq => Below.block b326 q (hs205 q hq))
  replace hs205 := fun q hq => Nat.lt_of_lt_of_le (hs205 q hq) (Below.size b326)
  replace o208 := ownL.keep o208 (fun q hq => Below.block b326 q (hs210 q hq))
  replace hs210 := fun q hq => Nat.lt_of_lt_of_le (hs210 q hq) (Below.size b326)
  replace o213 := ownL.keep o213 (fun q hq => Below.block b326 q (hs215 q hq))
  replace hs215 := fun q hq => Nat.lt_of_lt_of_le (hs215 q hq) (Below.size b326)
  replace bx_aS := Box.below bx_aS b326
  replace bx_aT := Box.below bx_aT b326
  replace bx180 := Box.below bx180 b326
  replace bx255 := Box.below bx255 b326
  have z382 := Below.size b326
  replace zb0 : W2.heap.size ≤ w325.heap.size := by omega
  replace za0 : w90.heap.size ≤ w325.heap.size := by omega
  have t383 := Below.trans t380 (Below.mono b339 zb0)
  have s384 := Below.trans s381 (Below.mono b339 za0)
  replace o140 := ownL.keep o140 (fun q hq => Below.block b339 q (hs142 q hq))
  replace hs142 := fun q hq => Nat.lt_of_lt_of_le (hs142 q hq) (Below.size b339)
  replace o145 := ownL.keep o145 (fun q hq => Below.block b339 q (hs147 q hq))
  replace hs147 := fun q hq => Nat.lt_of_lt_of_le (hs147 q hq) (Below.size b339)
  replace o203 := ownL.keep o203 (fun q hq => Below.block b339 q (hs205 q hq))
  replace hs205 := fun q hq => Nat.lt_of_lt_of_le (hs205 q hq) (Below.size b339)
  replace o208 := ownL.keep o208 (fun q hq => Below.block b339 q (hs210 q hq))
  replace hs210 := fun q hq => Nat.lt_of_lt_of_le (hs210 q hq) (Below.size b339)
  replace o213 := ownL.keep o213 (fun q hq => Below.block b339 q (hs215 q hq))
  replace hs215 := fun q hq => Nat.lt_of_lt_of_le (hs215 q hq) (Below.size b339)
  replace bx_aS := Box.below bx_aS b339
  replace bx_aT := Box.below bx_aT b339
  replace bx180 := Box.below bx180 b339
  replace bx255 := Box.below bx255 b339
  have z385 := Below.size b339
  replace zb0 : W2.heap.size ≤ w338.heap.size := by omega
  replace za0 : w90.heap.size ≤ w338.heap.size := by omega
  have k386 : w338.cell? ⟨w.heap.size, 0, none⟩ = some ((Value.slice a_aS0 d_aS.heads_.length c_aS0)) := bx_aS.2 0 (by simp)
  have k387 : w338.cell? ⟨w.heap.size, 1, none⟩ = some ((Value.slice a_aS1 d_aS.descs_.length c_aS1)) := bx_aS.2 1 (by simp)
  have k388 : w338.cell? ⟨w.heap.size + 1, 0, none⟩ = some (Value.int .i64 d_aT.id_) := bx_aT.2 0 (by simp)
  have k389 : w338.cell? ⟨w.heap.size + 1, 1, none⟩ = some ((Value.slice a_aT0 d_aT.prog_.length c_aT0)) := bx_aT.2 1 (by simp)
  have k390 : w338.cell? ⟨w.heap.size + 1, 2, none⟩ = some (Value.int .i64 d_aT.at_) := bx_aT.2 2 (by simp)
  have k391 : w338.cell? ⟨w.heap.size + 1, 3, none⟩ = some (Value.int .i64 d_aT.reg0_) := bx_aT.2 3 (by simp)
  have k392 : w338.cell? ⟨w.heap.size + 1, 4, none⟩ = some (Value.int .i64 d_aT.reg1_) := bx_aT.2 4 (by simp)
  have k393 : w338.cell? ⟨w.heap.size + 1, 5, none⟩ = some (Value.int .i64 d_aT.reg2_) := bx_aT.2 5 (by simp)
  have k394 : w338.cell? ⟨w.heap.size + 1, 6, none⟩ = some (Value.int .i64 d_aT.reg3_) := bx_aT.2 6 (by simp)
  have k395 : w338.cell? ⟨w.heap.size + 1, 7, none⟩ = some ((Value.slice a_aT1 d_aT.open_.length c_aT1)) := bx_aT.2 7 (by simp)
  have k396 : w338.cell? ⟨w.heap.size + 1, 8, none⟩ = some (Value.int .i64 d_aT.check_) := bx_aT.2 8 (by simp)
  have k397 : w338.cell? ⟨w.heap.size + 1, 9, none⟩ = some ((Value.slice a_aT2 d_aT.stack_.length c_aT2)) := bx_aT.2 9 (by simp)
  have k398 : w338.cell? ⟨w.heap.size + 1, 10, none⟩ = some (Value.int .i64 d_aT.mine_) := bx_aT.2 10 (by simp)
  have k399 : w338.cell? ⟨w.heap.size + 1, 11, none⟩ = some (Value.int .i64 d_aT.state_) := bx_aT.2 11 (by simp)
  have k400 : w338.cell? ⟨w.heap.size + 1, 12, none⟩ = some (Value.int .i64 d_aT.commits_) := bx_aT.2 12 (by simp)
  have k401 : w338.cell? ⟨w.heap.size + 1, 13, none⟩ = some (Value.int .i64 d_aT.fails_) := bx_aT.2 13 (by simp)
  have k402 : w338.cell? ⟨w136.heap.size, 0, none⟩ = some ((Value.slice a152 m153 c154)) := bx180.2 0 (by simp)
  have k403 : w338.cell? ⟨w136.heap.size, 1, none⟩ = some ((Value.slice a155 m156 c157)) := bx180.2 1 (by simp)
  have k404 : w338.cell? ⟨w199.heap.size, 0, none⟩ = some (Value.int .i64 d_aT.id_) := bx255.2 0 (by simp)
  have k405 : w338.cell? ⟨w199.heap.size, 1, none⟩ = some ((Value.slice a222 m223 c224)) := bx255.2 1 (by simp)
  have k406 : w338.cell? ⟨w199.heap.size, 2, none⟩ = some (Value.int .i64 d_aT.at_) := bx255.2 2 (by simp)
  have k407 : w338.cell? ⟨w199.heap.size, 3, none⟩ = some (Value.int .i64 d_aT.reg0_) := bx255.2 3 (by simp)
  have k408 : w338.cell? ⟨w199.heap.size, 4, none⟩ = some (Value.int .i64 d_aT.reg1_) := bx255.2 4 (by simp)
  have k409 : w338.cell? ⟨w199.heap.size, 5, none⟩ = some (Value.int .i64 d_aT.reg2_) := bx255.2 5 (by simp)
  have k410 : w338.cell? ⟨w199.heap.size, 6, none⟩ = some (Value.int .i64 d_aT.reg3_) := bx255.2 6 (by simp)
  have k411 : w338.cell? ⟨w199.heap.size, 7, none⟩ = some ((Value.slice a225 m226 c227)) := bx255.2 7 (by simp)
  have k412 : w338.cell? ⟨w199.heap.size, 8, none⟩ = some (Value.int .i64 d_aT.check_) := bx255.2 8 (by simp)
  have k413 : w338.cell? ⟨w199.heap.size, 9, none⟩ = some ((Value.slice a228 m229 c230)) := bx255.2 9 (by simp)
  have k414 : w338.cell? ⟨w199.heap.size, 10, none⟩ = some (Value.int .i64 d_aT.mine_) := bx255.2 10 (by simp)
  have k415 : w338.cell? ⟨w199.heap.size, 11, none⟩ = some (Value.int .i64 d_aT.state_) := bx255.2 11 (by simp)
  have k416 : w338.cell? ⟨w199.heap.size, 12, none⟩ = some (Value.int .i64 d_aT.commits_) := bx255.2 12 (by simp)
  have k417 : w338.cell? ⟨w199.heap.size, 13, none⟩ = some (Value.int .i64 d_aT.fails_) := bx255.2 13 (by simp)
  go_wp2_with fail
  clear k386 k387 k388 k389 k390 k391 k392 k393 k394 k395 k396 k397 k398 k399 k400 k401 k402 k403 k404 k405 k406 k407 k408 k409 k410 k411 k412 k413 k414 k415 k416 k417
  have lt440 := (bx_aS).1
  have lt441 := (bx_aT).1
  have lt442 := (bx180).1
  have lt443 := (bx255).1
  have k444 : w338.cell? ⟨w.heap.size, 0, none⟩ = some ((Value.slice a_aS0 d_aS.heads_.length c_aS0)) := bx_aS.2 0 (by simp)
  have k445 : w338.cell? ⟨w.heap.size, 1, none⟩ = some ((Value.slice a_aS1 d_aS.descs_.length c_aS1)) := bx_aS.2 1 (by simp)
  have k446 : w338.cell? ⟨w.heap.size + 1, 0, none⟩ = some (Value.int .i64 d_aT.id_) := bx_aT.2 0 (by simp)
  have k447 : w338.cell? ⟨w.heap.size + 1, 1, none⟩ = some ((Value.slice a_aT0 d_aT.prog_.length c_aT0)) := bx_aT.2 1 (by simp)
  have k448 : w338.cell? ⟨w.heap.size + 1, 2, none⟩ = some (Value.int .i64 d_aT.at_) := bx_aT.2 2 (by simp)
  have k449 : w338.cell? ⟨w.heap.size + 1, 3, none⟩ = some (Value.int .i64 d_aT.reg0_) := bx_aT.2 3 (by simp)
  have k450 : w338.cell? ⟨w.heap.size + 1, 4, none⟩ = some (Value.int .i64 d_aT.reg1_) := bx_aT.2 4 (by simp)
  have k451 : w338.cell? ⟨w.heap.size + 1, 5, none⟩ = some (Value.int .i64 d_aT.reg2_) := bx_aT.2 5 (by simp)
  have k452 : w338.cell? ⟨w.heap.size + 1, 6, none⟩ = some (Value.int .i64 d_aT.reg3_) := bx_aT.2 6 (by simp)
  have k453 : w338.cell? ⟨w.heap.size + 1, 7, none⟩ = some ((Value.slice a_aT1 d_aT.open_.length c_aT1)) := bx_aT.2 7 (by simp)
  have k454 : w338.cell? ⟨w.heap.size + 1, 8, none⟩ = some (Value.int .i64 d_aT.check_) := bx_aT.2 8 (by simp)
  have k455 : w338.cell? ⟨w.heap.size + 1, 9, none⟩ = some ((Value.slice a_aT2 d_aT.stack_.length c_aT2)) := bx_aT.2 9 (by simp)
  have k456 : w338.cell? ⟨w.heap.size + 1, 10, none⟩ = some (Value.int .i64 d_aT.mine_) := bx_aT.2 10 (by simp)
  have k457 : w338.cell? ⟨w.heap.size + 1, 11, none⟩ = some (Value.int .i64 d_aT.state_) := bx_aT.2 11 (by simp)
  have k458 : w338.cell? ⟨w.heap.size + 1, 12, none⟩ = some (Value.int .i64 d_aT.commits_) := bx_aT.2 12 (by simp)
  have k459 : w338.cell? ⟨w.heap.size + 1, 13, none⟩ = some (Value.int .i64 d_aT.fails_) := bx_aT.2 13 (by simp)
  have k460 : w338.cell? ⟨w136.heap.size, 0, none⟩ = some ((Value.slice a152 m153 c154)) := bx180.2 0 (by simp)
  have k461 : w338.cell? ⟨w136.heap.size, 1, none⟩ = some ((Value.slice a155 m156 c157)) := bx180.2 1 (by simp)
  have k462 : w338.cell? ⟨w199.heap.size, 0, none⟩ = some (Value.int .i64 d_aT.id_) := bx255.2 0 (by simp)
  have k463 : w338.cell? ⟨w199.heap.size, 1, none⟩ = some ((Value.slice a222 m223 c224)) := bx255.2 1 (by simp)
  have k464 : w338.cell? ⟨w199.heap.size, 2, none⟩ = some (Value.int .i64 d_aT.at_) := bx255.2 2 (by simp)
  have k465 : w338.cell? ⟨w199.heap.size, 3, none⟩ = some (Value.int .i64 d_aT.reg0_) := bx255.2 3 (by simp)
  have k466 : w338.cell? ⟨w199.heap.size, 4, none⟩ = some (Value.int .i64 d_aT.reg1_) := bx255.2 4 (by simp)
  have k467 : w338.cell? ⟨w199.heap.size, 5, none⟩ = some (Value.int .i64 d_aT.reg2_) := bx255.2 5 (by simp)
  have k468 : w338.cell? ⟨w199.heap.size, 6, none⟩ = some (Value.int .i64 d_aT.reg3_) := bx255.2 6 (by simp)
  have k469 : w338.cell? ⟨w199.heap.size, 7, none⟩ = some ((Value.slice a225 m226 c227)) := bx255.2 7 (by simp)
  have k470 : w338.cell? ⟨w199.heap.size, 8, none⟩ = some (Value.int .i64 d_aT.check_) := bx255.2 8 (by simp)
  have k471 : w338.cell? ⟨w199.heap.size, 9, none⟩ = some ((Value.slice a228 m229 c230)) := bx255.2 9 (by simp)
  have k472 : w338.cell? ⟨w199.heap.size, 10, none⟩ = some (Value.int .i64 d_aT.mine_) := bx255.2 10 (by simp)
  have k473 : w338.cell? ⟨w199.heap.size, 11, none⟩ = some (Value.int .i64 d_aT.state_) := bx255.2 11 (by simp)
  have k474 : w338.cell? ⟨w199.heap.size, 12, none⟩ = some (Value.int .i64 d_aT.commits_) := bx255.2 12 (by simp)
  have k475 : w338.cell? ⟨w199.heap.size, 13, none⟩ = some (Value.int .i64 d_aT.fails_) := bx255.2 13 (by simp)
  go_region_held3 (fun w' => Below w338.heap.size w338 w' ∧ w338.heap.size ≤ w'.heap.size ∧ w'.cell? ⟨w.heap.size, 0, none⟩ = some ((Value.slice a_aS0 d_aS.heads_.length c_aS0)) ∧ w'.cell? ⟨w.heap.size, 1, none⟩ = some ((Value.slice a_aS1 d_aS.descs_.length c_aS1)) ∧ w'.cell? ⟨w.heap.size + 1, 0, none⟩ = some (Value.int .i64 d_aT.id_) ∧ w'.cell? ⟨w.heap.size + 1, 1, none⟩ = some ((Value.slice a_aT0 d_aT.prog_.length c_aT0)) ∧ w'.cell? ⟨w.heap.size + 1, 2, none⟩ = some (Value.int .i64 d_aT.at_) ∧ w'.cell? ⟨w.heap.size + 1, 3, none⟩ = some (Value.int .i64 d_aT.reg0_) ∧ w'.cell? ⟨w.heap.size + 1, 4, none⟩ = some (Value.int .i64 d_aT.reg1_) ∧ w'.cell? ⟨w.heap.size + 1, 5, none⟩ = some (Value.int .i64 d_aT.reg2_) ∧ w'.cell? ⟨w.heap.size + 1, 6, none⟩ = some (Value.int .i64 d_aT.reg3_) ∧ w'.cell? ⟨w.heap.size + 1, 7, none⟩ = some ((Value.slice a_aT1 d_aT.open_.length c_aT1)) ∧ w'.cell? ⟨w.heap.size + 1, 8, none⟩ = some (Value.int .i64 d_aT.check_) ∧ w'.cell? ⟨w.heap.size + 1, 9, none⟩ = some ((Value.slice a_aT2 d_aT.stack_.length c_aT2)) ∧ w'.cell? ⟨w.heap.size + 1, 10, none⟩ = some (Value.int .i64 d_aT.mine_) ∧ w'.cell? ⟨w.heap.size + 1, 11, none⟩ = some (Value.int .i64 d_aT.state_) ∧ w'.cell? ⟨w.heap.size + 1, 12, none⟩ = some (Value.int .i64 d_aT.commits_) ∧ w'.cell? ⟨w.heap.size + 1, 13, none⟩ = some (Value.int .i64 d_aT.fails_) ∧ w'.cell? ⟨w136.heap.size, 0, none⟩ = some ((Value.slice a152 m153 c154)) ∧ w'.cell? ⟨w136.heap.size, 1, none⟩ = some ((Value.slice a155 m156 c157)) ∧ w'.cell? ⟨w199.heap.size, 0, none⟩ = some (Value.int .i64 d_aT.id_) ∧ w'.cell? ⟨w199.heap.size, 1, none⟩ = some ((Value.slice a222 m223 c224)) ∧ w'.cell? ⟨w199.heap.size, 2, none⟩ = some (Value.int .i64 d_aT.at_) ∧ w'.cell? ⟨w199.heap.size, 3, none⟩ = some (Value.int .i64 d_aT.reg0_) ∧ w'.cell? ⟨w199.heap.size, 4, none⟩ = some (Value.int .i64 d_aT.reg1_) ∧ w'.cell? ⟨w199.heap.size, 5, none⟩ = some (Value.int .i64 d_aT.reg2_) ∧ w'.cell? ⟨w199.heap.size, 6, none⟩ = some (Value.int .i64 d_aT.reg3_) ∧ w'.cell? ⟨w199.heap.size, 7, none⟩ = some ((Value.slice a225 m226 c227)) ∧ w'.cell? ⟨w199.heap.size, 8, none⟩ = some (Value.int .i64 d_aT.check_) ∧ w'.cell? ⟨w199.heap.size, 9, none⟩ = some ((Value.slice a228 m229 c230)) ∧ w'.cell? ⟨w199.heap.size, 10, none⟩ = some (Value.int .i64 d_aT.mine_) ∧ w'.cell? ⟨w199.heap.size, 11, none⟩ = some (Value.int .i64 d_aT.state_) ∧ w'.cell? ⟨w199.heap.size, 12, none⟩ = some (Value.int .i64 d_aT.commits_) ∧ w'.cell? ⟨w199.heap.size, 13, none⟩ = some (Value.int .i64 d_aT.fails_))
    (first | exact ⟨(Below.refl _ _).drew, Nat.le_refl _, k444, k445, k446, k447, k448, k449, k450, k451, k452, k453, k454, k455, k456, k457, k458, k459, k460, k461, k462, k463, k464, k465, k466, k467, k468, k469, k470, k471, k472, k473, k474, k475⟩ | exact keepBox32 (by omega) ‹_› ‹_›)
    (first
    | (go_at_call 10; refine (toThread_o d_aT (Value.slice a_aT0 d_aT.prog_.length c_aT0) (Value.slice a_aT1 d_aT.open_.length c_aT1) (Value.slice a_aT2 d_aT.stack_.length c_aT2) _ (rdsL.below (rdsL.below h_aT0 t383) ((Below.refl _ _).drew : Below w338.heap.size w338 w338.drew)) (rdsL.below (rdsL.below h_aT1 t383) ((Below.refl _ _).drew : Below w338.heap.size w338 w338.drew)) (rdsL.below (rdsL.below h_aT2 t383) ((Below.refl _ _).drew : Below w338.heap.size w338 w338.drew)) hb_aT).mono ?_; rintro e w418 ⟨u420, u425, u430, S421, S426, S431, rfl, o422, o427, o432, r423, r428, r433, dj435, dj436, dj437, b419⟩; have hq_w418 : Below w338.heap.size w338 w418 := Below.trans ((Below.refl _ _).drew : Below w338.heap.size w338 w338.drew) (Below.mono b419 (Below.size ((Below.refl _ _).drew : Below w338.heap.size w338 w338.drew))))
    | (go_at_call 13; refine (eqThread_o _ _ _ _ _ _ _ _ (rdsL.below (rdsL.below (ownL.rds o203) ((Below.refl _ _).drew : Below w338.heap.size w338 w338.drew)) b419) (rdsL.below (rdsL.below (ownL.rds o208) ((Below.refl _ _).drew : Below w338.heap.size w338 w338.drew)) b419) (rdsL.below (rdsL.below (ownL.rds o213) ((Below.refl _ _).drew : Below w338.heap.size w338 w338.drew)) b419) (ownL.rds o422) (ownL.rds o427) (ownL.rds o432)).mono ?_; rintro e w438 ⟨rfl, b439⟩))
  clear k444 k445 k446 k447 k448 k449 k450 k451 k452 k453 k454 k455 k456 k457 k458 k459 k460 k461 k462 k463 k464 k465 k466 k467 k468 k469 k470 k471 k472 k473 k474 k475
  have d476 : Below w338.heap.size w338 w338.drew := (Below.refl _ _).drew
  have t477 := Below.trans t383 (Below.mono d476 zb0)
  have s478 := Below.trans s384 (Below.mono d476 za0)
  replace o140 := ownL.keep o140 (fun q hq => Below.block d476 q (hs142 q hq))
  replace hs142 := fun q hq => Nat.lt_of_lt_of_le (hs142 q hq) (Below.size d476)
  replace o145 := ownL.keep o145 (fun q hq => Below.block d476 q (hs147 q hq))
  replace hs147 := fun q hq => Nat.lt_of_lt_of_le (hs147 q hq) (Below.size d476)
  replace o203 := ownL.keep o203 (fun q hq => Below.block d476 q (hs205 q hq))
  replace hs205 := fun q hq => Nat.lt_of_lt_of_le (hs205 q hq) (Below.size d476)
  replace o208 := ownL.keep o208 (fun q hq => Below.block d476 q (hs210 q hq))
  replace hs210 := fun q hq => Nat.lt_of_lt_of_le (hs210 q hq) (Below.size d476)
  replace o213 := ownL.keep o213 (fun q hq => Below.block d476 q (hs215 q hq))
  replace hs215 := fun q hq => Nat.lt_of_lt_of_le (hs215 q hq) (Below.size d476)
  replace bx_aS := Box.below bx_aS d476
  replace bx_aT := Box.below bx_aT d476
  replace bx180 := Box.below bx180 d476
  replace bx255 := Box.below bx255 d476
  have z479 := Below.size d476
  replace zb0 : W2.heap.size ≤ w338.drew.heap.size := by omega
  replace za0 : w90.heap.size ≤ w338.drew.heap.size := by omega
  have t480 := Below.trans t477 (Below.mono b419 zb0)
  have s481 := Below.trans s478 (Below.mono b419 za0)
  replace o140 := ownL.keep o140 (fun q hq => Below.block b419 q (hs142 q hq))
  replace hs142 := fun q hq => Nat.lt_of_lt_of_le (hs142 q hq) (Below.size b419)
  replace o145 := ownL.keep o145 (fun q hq => Below.block b419 q (hs147 q hq))
  replace hs147 := fun q hq => Nat.lt_of_lt_of_le (hs147 q hq) (Below.size b419)
  replace o203 := ownL.keep o203 (fun q hq => Below.block b419 q (hs205 q hq))
  replace hs205 := fun q hq => Nat.lt_of_lt_of_le (hs205 q hq) (Below.size b419)
  replace o208 := ownL.keep o208 (fun q hq => Below.block b419 q (hs210 q hq))
  replace hs210 := fun q hq => Nat.lt_of_lt_of_le (hs210 q hq) (Below.size b419)
  replace o213 := ownL.keep o213 (fun q hq => Below.block b419 q (hs215 q hq))
  replace hs215 := fun q hq => Nat.lt_of_lt_of_le (hs215 q hq) (Below.size b419)
  replace bx_aS := Box.below bx_aS b419
  replace bx_aT := Box.below bx_aT b419
  replace bx180 := Box.below bx180 b419
  replace bx255 := Box.below bx255 b419
  have z482 := Below.size b419
  replace zb0 : W2.heap.size ≤ w418.heap.size := by omega
  replace za0 : w90.heap.size ≤ w418.heap.size := by omega
  have t483 := Below.trans t480 (Below.mono b439 zb0)
  have s484 := Below.trans s481 (Below.mono b439 za0)
  replace o140 := ownL.keep o140 (fun q hq => Below.block b439 q (hs142 q hq))
  replace hs142 := fun q hq => Nat.lt_of_lt_of_le (hs142 q hq) (Below.size b439)
  replace o145 := ownL.keep o145 (fun q hq => Below.block b439 q (hs147 q hq))
  replace hs147 := fun q hq => Nat.lt_of_lt_of_le (hs147 q hq) (Below.size b439)
  replace o203 := ownL.keep o203 (fun q hq => Below.block b439 q (hs205 q hq))
  replace hs205 := fun q hq => Nat.lt_of_lt_of_le (hs205 q hq) (Below.size b439)
  replace o208 := ownL.keep o208 (fun q hq => Below.block b439 q (hs210 q hq))
  replace hs210 := fun q hq => Nat.lt_of_lt_of_le (hs210 q hq) (Below.size b439)
  replace o213 := ownL.keep o213 (fun q hq => Below.block b439 q (hs215 q hq))
  replace hs215 := fun q hq => Nat.lt_of_lt_of_le (hs215 q hq) (Below.size b439)
  replace bx_aS := Box.below bx_aS b439
  replace bx_aT := Box.below bx_aT b439
  replace bx180 := Box.below bx180 b439
  replace bx255 := Box.below bx255 b439
  have z485 := Below.size b439
  replace zb0 : W2.heap.size ≤ w438.heap.size := by omega
  replace za0 : w90.heap.size ≤ w438.heap.size := by omega
  have k486 : w438.cell? ⟨w.heap.size, 0, none⟩ = some ((Value.slice a_aS0 d_aS.heads_.length c_aS0)) := bx_aS.2 0 (by simp)
  have k487 : w438.cell? ⟨w.heap.size, 1, none⟩ = some ((Value.slice a_aS1 d_aS.descs_.length c_aS1)) := bx_aS.2 1 (by simp)
  have k488 : w438.cell? ⟨w.heap.size + 1, 0, none⟩ = some (Value.int .i64 d_aT.id_) := bx_aT.2 0 (by simp)
  have k489 : w438.cell? ⟨w.heap.size + 1, 1, none⟩ = some ((Value.slice a_aT0 d_aT.prog_.length c_aT0)) := bx_aT.2 1 (by simp)
  have k490 : w438.cell? ⟨w.heap.size + 1, 2, none⟩ = some (Value.int .i64 d_aT.at_) := bx_aT.2 2 (by simp)
  have k491 : w438.cell? ⟨w.heap.size + 1, 3, none⟩ = some (Value.int .i64 d_aT.reg0_) := bx_aT.2 3 (by simp)
  have k492 : w438.cell? ⟨w.heap.size + 1, 4, none⟩ = some (Value.int .i64 d_aT.reg1_) := bx_aT.2 4 (by simp)
  have k493 : w438.cell? ⟨w.heap.size + 1, 5, none⟩ = some (Value.int .i64 d_aT.reg2_) := bx_aT.2 5 (by simp)
  have k494 : w438.cell? ⟨w.heap.size + 1, 6, none⟩ = some (Value.int .i64 d_aT.reg3_) := bx_aT.2 6 (by simp)
  have k495 : w438.cell? ⟨w.heap.size + 1, 7, none⟩ = some ((Value.slice a_aT1 d_aT.open_.length c_aT1)) := bx_aT.2 7 (by simp)
  have k496 : w438.cell? ⟨w.heap.size + 1, 8, none⟩ = some (Value.int .i64 d_aT.check_) := bx_aT.2 8 (by simp)
  have k497 : w438.cell? ⟨w.heap.size + 1, 9, none⟩ = some ((Value.slice a_aT2 d_aT.stack_.length c_aT2)) := bx_aT.2 9 (by simp)
  have k498 : w438.cell? ⟨w.heap.size + 1, 10, none⟩ = some (Value.int .i64 d_aT.mine_) := bx_aT.2 10 (by simp)
  have k499 : w438.cell? ⟨w.heap.size + 1, 11, none⟩ = some (Value.int .i64 d_aT.state_) := bx_aT.2 11 (by simp)
  have k500 : w438.cell? ⟨w.heap.size + 1, 12, none⟩ = some (Value.int .i64 d_aT.commits_) := bx_aT.2 12 (by simp)
  have k501 : w438.cell? ⟨w.heap.size + 1, 13, none⟩ = some (Value.int .i64 d_aT.fails_) := bx_aT.2 13 (by simp)
  have k502 : w438.cell? ⟨w136.heap.size, 0, none⟩ = some ((Value.slice a152 m153 c154)) := bx180.2 0 (by simp)
  have k503 : w438.cell? ⟨w136.heap.size, 1, none⟩ = some ((Value.slice a155 m156 c157)) := bx180.2 1 (by simp)
  have k504 : w438.cell? ⟨w199.heap.size, 0, none⟩ = some (Value.int .i64 d_aT.id_) := bx255.2 0 (by simp)
  have k505 : w438.cell? ⟨w199.heap.size, 1, none⟩ = some ((Value.slice a222 m223 c224)) := bx255.2 1 (by simp)
  have k506 : w438.cell? ⟨w199.heap.size, 2, none⟩ = some (Value.int .i64 d_aT.at_) := bx255.2 2 (by simp)
  have k507 : w438.cell? ⟨w199.heap.size, 3, none⟩ = some (Value.int .i64 d_aT.reg0_) := bx255.2 3 (by simp)
  have k508 : w438.cell? ⟨w199.heap.size, 4, none⟩ = some (Value.int .i64 d_aT.reg1_) := bx255.2 4 (by simp)
  have k509 : w438.cell? ⟨w199.heap.size, 5, none⟩ = some (Value.int .i64 d_aT.reg2_) := bx255.2 5 (by simp)
  have k510 : w438.cell? ⟨w199.heap.size, 6, none⟩ = some (Value.int .i64 d_aT.reg3_) := bx255.2 6 (by simp)
  have k511 : w438.cell? ⟨w199.heap.size, 7, none⟩ = some ((Value.slice a225 m226 c227)) := bx255.2 7 (by simp)
  have k512 : w438.cell? ⟨w199.heap.size, 8, none⟩ = some (Value.int .i64 d_aT.check_) := bx255.2 8 (by simp)
  have k513 : w438.cell? ⟨w199.heap.size, 9, none⟩ = some ((Value.slice a228 m229 c230)) := bx255.2 9 (by simp)
  have k514 : w438.cell? ⟨w199.heap.size, 10, none⟩ = some (Value.int .i64 d_aT.mine_) := bx255.2 10 (by simp)
  have k515 : w438.cell? ⟨w199.heap.size, 11, none⟩ = some (Value.int .i64 d_aT.state_) := bx255.2 11 (by simp)
  have k516 : w438.cell? ⟨w199.heap.size, 12, none⟩ = some (Value.int .i64 d_aT.commits_) := bx255.2 12 (by simp)
  have k517 : w438.cell? ⟨w199.heap.size, 13, none⟩ = some (Value.int .i64 d_aT.fails_) := bx255.2 13 (by simp)
  go_wp2_with fail
  clear k486 k487 k488 k489 k490 k491 k492 k493 k494 k495 k496 k497 k498 k499 k500 k501 k502 k503 k504 k505 k506 k507 k508 k509 k510 k511 k512 k513 k514 k515 k516 k517
  try go_wp2
  go_ret
  exact ⟨rfl, hB0.trans (Below.mono t483 hB0.size)⟩

end Go.Proofs.Ytikiaffgjpddeaa
