/- FnExactTogether, walked. -/
import Derived.Test.YtambpjjfndnadaaW8t
import Derived.Test.YtambpjjfndnadaaBx
import Derived.Test.YtambpjjfndnadaaEnc4
import Derived.Test.YtambpjjfndnadaaHop
import Derived.Test.YtambpjjfndnadaaWr3
import Derived.Test.YtambpjjfndnadaaKeep
import Derived.Deep.RegionHeld3
import Derived.Deep.Cut
import Derived.StillTailTactics
namespace Go.Proofs.Ytambpjjfndnadaa
set_option maxRecDepth 100000
open Go.RowKit Go.Proofs Go.Own
set_option linter.unusedVariables false

set_option maxRecDepth 100000 in
set_option maxHeartbeats 8000000 in
theorem law_Together (d_aS : StoreD) (v_aS0 v_aS1 : Value) (d_aA : List Frame) (v_aA0 : Value) (d_aB : List Frame) (v_aB0 : Value) (d_aTurns : List Bool) (v_aTurns0 : Value) (w : World) (h_aS0 : rdsL w v_aS0 d_aS.heads_) (h_aS1 : rdsL w v_aS1 d_aS.descs_) (h_aA0 : rdsL w v_aA0 d_aA) (h_aB0 : rdsL w v_aB0 d_aB) (h_aTurns0 : rdsL w v_aTurns0 d_aTurns) :
    Calls Try.prog 8 #[(.agg #[v_aS0, v_aS1]), v_aA0, v_aB0, v_aTurns0] w fun e w' => e = .returned (.bool true) ∧ Below w.heap.size w w' := by
  obtain ⟨a_aS0, c_aS0, rfl, -, -, -⟩ := rdsL_open h_aS0
  obtain ⟨a_aS1, c_aS1, rfl, -, -, -⟩ := rdsL_open h_aS1
  obtain ⟨a_aA0, c_aA0, rfl, -, -, -⟩ := rdsL_open h_aA0
  obtain ⟨a_aB0, c_aB0, rfl, -, -, -⟩ := rdsL_open h_aB0
  obtain ⟨a_aTurns0, c_aTurns0, rfl, -, -, -⟩ := rdsL_open h_aTurns0
  obtain ⟨W1, hW1⟩ : ∃ X, w.alloc (.cells #[(Value.slice a_aS0 d_aS.heads_.length c_aS0), (Value.slice a_aS1 d_aS.descs_.length c_aS1)] 25) = X := ⟨_, rfl⟩
  have hbx1 : Below w.heap.size w W1 := by rw [← hW1]; exact (Below.refl _ _).alloc (Nat.le_refl _) _
  have zw1 : W1.heap.size = w.heap.size + 1 := by rw [← hW1]; simp
  have bx_aS : Box W1 (w.heap.size) [(Value.slice a_aS0 d_aS.heads_.length c_aS0), (Value.slice a_aS1 d_aS.descs_.length c_aS1)] := by rw [← hW1]; exact Box.alloc _ _ _
  have hB0 : Below w.heap.size w W1 := hbx1
  replace h_aS0 := rdsL.below h_aS0 hB0
  replace h_aS1 := rdsL.below h_aS1 hB0
  replace h_aA0 := rdsL.below h_aA0 hB0
  replace h_aB0 := rdsL.below h_aB0 hB0
  replace h_aTurns0 := rdsL.below h_aTurns0 hB0
  have tt0 : Below W1.heap.size W1 W1 := Below.refl _ _
  have zb0 : W1.heap.size ≤ W1.heap.size := Nat.le_refl _
  go_enter Try.func8, Try.ntmps8
  have hlen_aTurns : d_aTurns.length ≤ 9223372036854775807 := by obtain ⟨_, _, _, z1, z2, _⟩ := rdsL_open h_aTurns0; omega
  by_cases big_aTurns : (1048576 : Int) < (d_aTurns.length : Int)
  · go_wp2
    go_ret
    exact ⟨rfl, hB0.trans (Below.mono tt0 hB0.size)⟩
  have hb_aTurns : BoolSB d_aTurns := by show _ ≤ 1048576; omega
  have k1 : W1.cell? ⟨w.heap.size, 0, none⟩ = some ((Value.slice a_aS0 d_aS.heads_.length c_aS0)) := bx_aS.2 0 (by simp)
  have k2 : W1.cell? ⟨w.heap.size, 1, none⟩ = some ((Value.slice a_aS1 d_aS.descs_.length c_aS1)) := bx_aS.2 1 (by simp)
  go_wp2_with fail
  clear k1 k2 hW1
  have hl0_aS : 0 ≤ (1048576 : Int) := by omega
  refine (szStore_o d_aS (Value.slice a_aS0 d_aS.heads_.length c_aS0) (Value.slice a_aS1 d_aS.descs_.length c_aS1) _ _ (by omega) (by omega) (rdsL.below h_aS0 tt0) (rdsL.below h_aS1 tt0)).mono ?_
  rintro e w3 ⟨rfl, b4⟩
  have t5 := Below.trans tt0 (Below.mono b4 zb0)
  replace bx_aS := Box.below bx_aS b4
  have z6 := Below.size b4
  replace zb0 : W1.heap.size ≤ w3.heap.size := by omega
  by_cases big_aS : (1048576 : Int) < (szStoreD d_aS : Int)
  · rw [szR_of, if_pos big_aS]
    go_wp2
    go_ret
    exact ⟨rfl, hB0.trans (Below.mono t5 hB0.size)⟩
  rw [szR_of, if_neg big_aS]
  have k7 : w3.cell? ⟨w.heap.size, 0, none⟩ = some ((Value.slice a_aS0 d_aS.heads_.length c_aS0)) := bx_aS.2 0 (by simp)
  have k8 : w3.cell? ⟨w.heap.size, 1, none⟩ = some ((Value.slice a_aS1 d_aS.descs_.length c_aS1)) := bx_aS.2 1 (by simp)
  go_wp2_with fail
  clear k7 k8
  have hl0_aA : 0 ≤ (1048576 : Int) - (szStoreD d_aS : Int) := by omega
  refine (szFrameS_o d_aA (Value.slice a_aA0 d_aA.length c_aA0) _ _ (by omega) (by omega) (rdsL.below h_aA0 t5)).mono ?_
  rintro e w9 ⟨rfl, b10⟩
  have t11 := Below.trans t5 (Below.mono b10 zb0)
  replace bx_aS := Box.below bx_aS b10
  have z12 := Below.size b10
  replace zb0 : W1.heap.size ≤ w9.heap.size := by omega
  by_cases big_aA : (1048576 : Int) - (szStoreD d_aS : Int) < (szFrameSD d_aA : Int)
  · rw [szR_of, if_pos big_aA]
    go_wp2
    go_ret
    exact ⟨rfl, hB0.trans (Below.mono t11 hB0.size)⟩
  rw [szR_of, if_neg big_aA]
  have k13 : w9.cell? ⟨w.heap.size, 0, none⟩ = some ((Value.slice a_aS0 d_aS.heads_.length c_aS0)) := bx_aS.2 0 (by simp)
  have k14 : w9.cell? ⟨w.heap.size, 1, none⟩ = some ((Value.slice a_aS1 d_aS.descs_.length c_aS1)) := bx_aS.2 1 (by simp)
  go_wp2_with fail
  clear k13 k14
  have hl0_aB : 0 ≤ (1048576 : Int) - (szStoreD d_aS : Int) - (szFrameSD d_aA : Int) := by omega
  refine (szFrameS_o d_aB (Value.slice a_aB0 d_aB.length c_aB0) _ _ (by omega) (by omega) (rdsL.below h_aB0 t11)).mono ?_
  rintro e w15 ⟨rfl, b16⟩
  have t17 := Below.trans t11 (Below.mono b16 zb0)
  replace bx_aS := Box.below bx_aS b16
  have z18 := Below.size b16
  replace zb0 : W1.heap.size ≤ w15.heap.size := by omega
  by_cases big_aB : (1048576 : Int) - (szStoreD d_aS : Int) - (szFrameSD d_aA : Int) < (szFrameSD d_aB : Int)
  · rw [szR_of, if_pos big_aB]
    go_wp2
    go_ret
    exact ⟨rfl, hB0.trans (Below.mono t17 hB0.size)⟩
  rw [szR_of, if_neg big_aB]
  have k19 : w15.cell? ⟨w.heap.size, 0, none⟩ = some ((Value.slice a_aS0 d_aS.heads_.length c_aS0)) := bx_aS.2 0 (by simp)
  have k20 : w15.cell? ⟨w.heap.size, 1, none⟩ = some ((Value.slice a_aS1 d_aS.descs_.length c_aS1)) := bx_aS.2 1 (by simp)
  go_wp2_with fail
  clear k19 k20
  have hb_aS : StoreB d_aS := by show _ ≤ 1048576; have := big_aS; unfold szStoreD at *; omega
  have hb_aA : FrameSB d_aA := by show _ ≤ 1048576; have := big_aA; unfold szFrameSD at *; omega
  have hb_aB : FrameSB d_aB := by show _ ≤ 1048576; have := big_aB; unfold szFrameSD at *; omega
  refine (toStore_o d_aS (Value.slice a_aS0 d_aS.heads_.length c_aS0) (Value.slice a_aS1 d_aS.descs_.length c_aS1) _ (rdsL.below h_aS0 t17) (rdsL.below h_aS1 t17) hb_aS).mono ?_
  rintro e w21 ⟨u23, u28, S24, S29, rfl, o25, o30, r26, r31, dj33, b22⟩
  have t34 := Below.trans t17 (Below.mono b22 zb0)
  replace bx_aS := Box.below bx_aS b22
  have z35 := Below.size b22
  replace zb0 : W1.heap.size ≤ w21.heap.size := by omega
  obtain ⟨a36, m37, c38, rfl⟩ := ownL_shape o25
  have hs27 := fun q hq => (r26 q hq).2
  obtain ⟨a39, m40, c41, rfl⟩ := ownL_shape o30
  have hs32 := fun q hq => (r31 q hq).2
  have k42 : w21.cell? ⟨w.heap.size, 0, none⟩ = some ((Value.slice a_aS0 d_aS.heads_.length c_aS0)) := bx_aS.2 0 (by simp)
  have k43 : w21.cell? ⟨w.heap.size, 1, none⟩ = some ((Value.slice a_aS1 d_aS.descs_.length c_aS1)) := bx_aS.2 1 (by simp)
  go_wp2_with fail
  clear k42 k43
  refine (toFrameS_o d_aA (Value.slice a_aA0 d_aA.length c_aA0) _ (rdsL.below h_aA0 t34) hb_aA).mono ?_
  rintro e w44 ⟨u46, S47, rfl, o48, r49, b45⟩
  have t51 := Below.trans t34 (Below.mono b45 zb0)
  replace o25 := ownL.keep o25 (fun q hq => Below.block b45 q (hs27 q hq))
  replace hs27 := fun q hq => Nat.lt_of_lt_of_le (hs27 q hq) (Below.size b45)
  replace o30 := ownL.keep o30 (fun q hq => Below.block b45 q (hs32 q hq))
  replace hs32 := fun q hq => Nat.lt_of_lt_of_le (hs32 q hq) (Below.size b45)
  replace bx_aS := Box.below bx_aS b45
  have z52 := Below.size b45
  replace zb0 : W1.heap.size ≤ w44.heap.size := by omega
  obtain ⟨a53, m54, c55, rfl⟩ := ownL_shape o48
  have hs50 := fun q hq => (r49 q hq).2
  have k56 : w44.cell? ⟨w.heap.size, 0, none⟩ = some ((Value.slice a_aS0 d_aS.heads_.length c_aS0)) := bx_aS.2 0 (by simp)
  have k57 : w44.cell? ⟨w.heap.size, 1, none⟩ = some ((Value.slice a_aS1 d_aS.descs_.length c_aS1)) := bx_aS.2 1 (by simp)
  go_wp2_with fail
  clear k56 k57
  refine (toFrameS_o d_aB (Value.slice a_aB0 d_aB.length c_aB0) _ (rdsL.below h_aB0 t51) hb_aB).mono ?_
  rintro e w58 ⟨u60, S61, rfl, o62, r63, b59⟩
  have t65 := Below.trans t51 (Below.mono b59 zb0)
  replace o25 := ownL.keep o25 (fun q hq => Below.block b59 q (hs27 q hq))
  replace hs27 := fun q hq => Nat.lt_of_lt_of_le (hs27 q hq) (Below.size b59)
  replace o30 := ownL.keep o30 (fun q hq => Below.block b59 q (hs32 q hq))
  replace hs32 := fun q hq => Nat.lt_of_lt_of_le (hs32 q hq) (Below.size b59)
  replace o48 := ownL.keep o48 (fun q hq => Below.block b59 q (hs50 q hq))
  replace hs50 := fun q hq => Nat.lt_of_lt_of_le (hs50 q hq) (Below.size b59)
  replace bx_aS := Box.below bx_aS b59
  have z66 := Below.size b59
  replace zb0 : W1.heap.size ≤ w58.heap.size := by omega
  obtain ⟨a67, m68, c69, rfl⟩ := ownL_shape o62
  have hs64 := fun q hq => (r63 q hq).2
  have k70 : w58.cell? ⟨w.heap.size, 0, none⟩ = some ((Value.slice a_aS0 d_aS.heads_.length c_aS0)) := bx_aS.2 0 (by simp)
  have k71 : w58.cell? ⟨w.heap.size, 1, none⟩ = some ((Value.slice a_aS1 d_aS.descs_.length c_aS1)) := bx_aS.2 1 (by simp)
  go_wp2_with fail
  clear k70 k71
  refine (toBoolS_o d_aTurns (Value.slice a_aTurns0 d_aTurns.length c_aTurns0) _ (rdsL.below h_aTurns0 t65) hb_aTurns).mono ?_
  rintro e w72 ⟨u74, S75, rfl, o76, r77, b73⟩
  have t79 := Below.trans t65 (Below.mono b73 zb0)
  replace o25 := ownL.keep o25 (fun q hq => Below.block b73 q (hs27 q hq))
  replace hs27 := fun q hq => Nat.lt_of_lt_of_le (hs27 q hq) (Below.size b73)
  replace o30 := ownL.keep o30 (fun q hq => Below.block b73 q (hs32 q hq))
  replace hs32 := fun q hq => Nat.lt_of_lt_of_le (hs32 q hq) (Below.size b73)
  replace o48 := ownL.keep o48 (fun q hq => Below.block b73 q (hs50 q hq))
  replace hs50 := fun q hq => Nat.lt_of_lt_of_le (hs50 q hq) (Below.size b73)
  replace o62 := ownL.keep o62 (fun q hq => Below.block b73 q (hs64 q hq))
  replace hs64 := fun q hq => Nat.lt_of_lt_of_le (hs64 q hq) (Below.size b73)
  replace bx_aS := Box.below bx_aS b73
  have z80 := Below.size b73
  replace zb0 : W1.heap.size ≤ w72.heap.size := by omega
  obtain ⟨a81, m82, c83, rfl⟩ := ownL_shape o76
  have hs78 := fun q hq => (r77 q hq).2
  have k84 : w72.cell? ⟨w.heap.size, 0, none⟩ = some ((Value.slice a_aS0 d_aS.heads_.length c_aS0)) := bx_aS.2 0 (by simp)
  have k85 : w72.cell? ⟨w.heap.size, 1, none⟩ = some ((Value.slice a_aS1 d_aS.descs_.length c_aS1)) := bx_aS.2 1 (by simp)
  go_wp2_with fail
  clear k84 k85
  refine (spec_TogetherW d_aS (Value.slice a36 m37 c38) (Value.slice a39 m40 c41) d_aA (Value.slice a53 m54 c55) d_aB (Value.slice a67 m68 c69) d_aTurns (Value.slice a81 m82 c83) _ (ownL.rds o25) (ownL.rds o30) hb_aS (ownL.rds o48) hb_aA (ownL.rds o62) hb_aB (ownL.rds o76) hb_aTurns).mono ?_
  rintro e w86 ⟨u88, u93, u99, u105, S89, S94, S100, S106, rfl, o90, o95, o101, o107, r91, r96, r102, r108, dj111, dj112, dj113, dj114, dj115, dj116, hb98, hb104, hb110, b87⟩
  replace o90 := ownL.rds o90
  replace o95 := ownL.rds o95
  replace o101 := ownL.rds o101
  replace o107 := ownL.rds o107
  have t117 := Below.trans t79 (Below.mono b87 zb0)
  replace bx_aS := Box.below bx_aS b87
  have z118 := Below.size b87
  replace zb0 : W1.heap.size ≤ w86.heap.size := by omega
  obtain ⟨a119, m120, c121, rfl⟩ := rdsL_shape o90
  obtain ⟨a122, m123, c124, rfl⟩ := rdsL_shape o95
  obtain ⟨a125, m126, c127, rfl⟩ := rdsL_shape o101
  obtain ⟨a128, m129, c130, rfl⟩ := rdsL_shape o107
  have s131 : Below w86.heap.size w86 w86 := Below.refl _ _
  have za0 : w86.heap.size ≤ w86.heap.size := Nat.le_refl _
  have k132 : w86.cell? ⟨w.heap.size, 0, none⟩ = some ((Value.slice a_aS0 d_aS.heads_.length c_aS0)) := bx_aS.2 0 (by simp)
  have k133 : w86.cell? ⟨w.heap.size, 1, none⟩ = some ((Value.slice a_aS1 d_aS.descs_.length c_aS1)) := bx_aS.2 1 (by simp)
  obtain ⟨X134, hX135⟩ : ∃ X, w86.alloc (.cells #[(Value.slice a119 m120 c121), (Value.slice a122 m123 c124)] 32) = X := ⟨_, rfl⟩
  have bX136 : Below w86.heap.size w86 X134 := by rw [← hX135]; exact (Below.refl _ _).alloc (Nat.le_refl _) _
  have zX134 : X134.heap.size = w86.heap.size + 1 := by rw [← hX135]; simp
  have t137 := Below.trans t117 (Below.mono bX136 zb0)
  have s138 := Below.trans s131 (Below.mono bX136 za0)
  replace bx_aS := Box.below bx_aS bX136
  have z139 := Below.size bX136
  replace zb0 : W1.heap.size ≤ X134.heap.size := by omega
  replace za0 : w86.heap.size ≤ X134.heap.size := by omega
  have bx140 : Box X134 (w86.heap.size) [(Value.slice a119 m120 c121), (Value.slice a122 m123 c124)] := by rw [← hX135]; exact Box.alloc _ _ _
  have k141 : X134.cell? ⟨w.heap.size, 0, none⟩ = some ((Value.slice a_aS0 d_aS.heads_.length c_aS0)) := bx_aS.2 0 (by simp)
  have k142 : X134.cell? ⟨w.heap.size, 1, none⟩ = some ((Value.slice a_aS1 d_aS.descs_.length c_aS1)) := bx_aS.2 1 (by simp)
  have k143 : X134.cell? ⟨w86.heap.size, 0, none⟩ = some ((Value.slice a119 m120 c121)) := bx140.2 0 (by simp)
  have k144 : X134.cell? ⟨w86.heap.size, 1, none⟩ = some ((Value.slice a122 m123 c124)) := bx140.2 1 (by simp)
  go_wp2_with fail
  clear k132 k133 k141 k142 k143 k144 hX135
  refine (toStore_o d_aS (Value.slice a_aS0 d_aS.heads_.length c_aS0) (Value.slice a_aS1 d_aS.descs_.length c_aS1) _ (rdsL.below h_aS0 t137) (rdsL.below h_aS1 t137) hb_aS).mono ?_
  rintro e w145 ⟨u147, u152, S148, S153, rfl, o149, o154, r150, r155, dj157, b146⟩
  have t158 := Below.trans t137 (Below.mono b146 zb0)
  have s159 := Below.trans s138 (Below.mono b146 za0)
  replace bx_aS := Box.below bx_aS b146
  replace bx140 := Box.below bx140 b146
  have z160 := Below.size b146
  replace zb0 : W1.heap.size ≤ w145.heap.size := by omega
  replace za0 : w86.heap.size ≤ w145.heap.size := by omega
  obtain ⟨a161, m162, c163, rfl⟩ := ownL_shape o149
  have hs151 := fun q hq => (r150 q hq).2
  obtain ⟨a164, m165, c166, rfl⟩ := ownL_shape o154
  have hs156 := fun q hq => (r155 q hq).2
  have k167 : w145.cell? ⟨w.heap.size, 0, none⟩ = some ((Value.slice a_aS0 d_aS.heads_.length c_aS0)) := bx_aS.2 0 (by simp)
  have k168 : w145.cell? ⟨w.heap.size, 1, none⟩ = some ((Value.slice a_aS1 d_aS.descs_.length c_aS1)) := bx_aS.2 1 (by simp)
  have k169 : w145.cell? ⟨w86.heap.size, 0, none⟩ = some ((Value.slice a119 m120 c121)) := bx140.2 0 (by simp)
  have k170 : w145.cell? ⟨w86.heap.size, 1, none⟩ = some ((Value.slice a122 m123 c124)) := bx140.2 1 (by simp)
  obtain ⟨X171, hX172⟩ : ∃ X, w145.alloc (.cells #[(Value.slice a161 m162 c163), (Value.slice a164 m165 c166)] 32) = X := ⟨_, rfl⟩
  have bX173 : Below w145.heap.size w145 X171 := by rw [← hX172]; exact (Below.refl _ _).alloc (Nat.le_refl _) _
  have zX171 : X171.heap.size = w145.heap.size + 1 := by rw [← hX172]; simp
  have t174 := Below.trans t158 (Below.mono bX173 zb0)
  have s175 := Below.trans s159 (Below.mono bX173 za0)
  replace o149 := ownL.keep o149 (fun q hq => Below.block bX173 q (hs151 q hq))
  replace hs151 := fun q hq => Nat.lt_of_lt_of_le (hs151 q hq) (Below.size bX173)
  replace o154 := ownL.keep o154 (fun q hq => Below.block bX173 q (hs156 q hq))
  replace hs156 := fun q hq => Nat.lt_of_lt_of_le (hs156 q hq) (Below.size bX173)
  replace bx_aS := Box.below bx_aS bX173
  replace bx140 := Box.below bx140 bX173
  have z176 := Below.size bX173
  replace zb0 : W1.heap.size ≤ X171.heap.size := by omega
  replace za0 : w86.heap.size ≤ X171.heap.size := by omega
  have bx177 : Box X171 (w145.heap.size) [(Value.slice a161 m162 c163), (Value.slice a164 m165 c166)] := by rw [← hX172]; exact Box.alloc _ _ _
  have k178 : X171.cell? ⟨w.heap.size, 0, none⟩ = some ((Value.slice a_aS0 d_aS.heads_.length c_aS0)) := bx_aS.2 0 (by simp)
  have k179 : X171.cell? ⟨w.heap.size, 1, none⟩ = some ((Value.slice a_aS1 d_aS.descs_.length c_aS1)) := bx_aS.2 1 (by simp)
  have k180 : X171.cell? ⟨w86.heap.size, 0, none⟩ = some ((Value.slice a119 m120 c121)) := bx140.2 0 (by simp)
  have k181 : X171.cell? ⟨w86.heap.size, 1, none⟩ = some ((Value.slice a122 m123 c124)) := bx140.2 1 (by simp)
  have k182 : X171.cell? ⟨w145.heap.size, 0, none⟩ = some ((Value.slice a161 m162 c163)) := bx177.2 0 (by simp)
  have k183 : X171.cell? ⟨w145.heap.size, 1, none⟩ = some ((Value.slice a164 m165 c166)) := bx177.2 1 (by simp)
  go_wp2_with fail
  clear k167 k168 k169 k170 k178 k179 k180 k181 k182 k183 hX172
  refine (toFrameS_o d_aA (Value.slice a_aA0 d_aA.length c_aA0) _ (rdsL.below h_aA0 t174) hb_aA).mono ?_
  rintro e w184 ⟨u186, S187, rfl, o188, r189, b185⟩
  have t191 := Below.trans t174 (Below.mono b185 zb0)
  have s192 := Below.trans s175 (Below.mono b185 za0)
  replace o149 := ownL.keep o149 (fun q hq => Below.block b185 q (hs151 q hq))
  replace hs151 := fun q hq => Nat.lt_of_lt_of_le (hs151 q hq) (Below.size b185)
  replace o154 := ownL.keep o154 (fun q hq => Below.block b185 q (hs156 q hq))
  replace hs156 := fun q hq => Nat.lt_of_lt_of_le (hs156 q hq) (Below.size b185)
  replace bx_aS := Box.below bx_aS b185
  replace bx140 := Box.below bx140 b185
  replace bx177 := Box.below bx177 b185
  have z193 := Below.size b185
  replace zb0 : W1.heap.size ≤ w184.heap.size := by omega
  replace za0 : w86.heap.size ≤ w184.heap.size := by omega
  obtain ⟨a194, m195, c196, rfl⟩ := ownL_shape o188
  have hs190 := fun q hq => (r189 q hq).2
  have k197 : w184.cell? ⟨w.heap.size, 0, none⟩ = some ((Value.slice a_aS0 d_aS.heads_.length c_aS0)) := bx_aS.2 0 (by simp)
  have k198 : w184.cell? ⟨w.heap.size, 1, none⟩ = some ((Value.slice a_aS1 d_aS.descs_.length c_aS1)) := bx_aS.2 1 (by simp)
  have k199 : w184.cell? ⟨w86.heap.size, 0, none⟩ = some ((Value.slice a119 m120 c121)) := bx140.2 0 (by simp)
  have k200 : w184.cell? ⟨w86.heap.size, 1, none⟩ = some ((Value.slice a122 m123 c124)) := bx140.2 1 (by simp)
  have k201 : w184.cell? ⟨w145.heap.size, 0, none⟩ = some ((Value.slice a161 m162 c163)) := bx177.2 0 (by simp)
  have k202 : w184.cell? ⟨w145.heap.size, 1, none⟩ = some ((Value.slice a164 m165 c166)) := bx177.2 1 (by simp)
  go_wp2_with fail
  clear k197 k198 k199 k200 k201 k202
  refine (toFrameS_o d_aB (Value.slice a_aB0 d_aB.length c_aB0) _ (rdsL.below h_aB0 t191) hb_aB).mono ?_
  rintro e w203 ⟨u205, S206, rfl, o207, r208, b204⟩
  have t210 := Below.trans t191 (Below.mono b204 zb0)
  have s211 := Below.trans s192 (Below.mono b204 za0)
  replace o149 := ownL.keep o149 (fun q hq => Below.block b204 q (hs151 q hq))
  replace hs151 := fun q hq => Nat.lt_of_lt_of_le (hs151 q hq) (Below.size b204)
  replace o154 := ownL.keep o154 (fun q hq => Below.block b204 q (hs156 q hq))
  replace hs156 := fun q hq => Nat.lt_of_lt_of_le (hs156 q hq) (Below.size b204)
  replace o188 := ownL.keep o188 (fun q hq => Below.block b204 q (hs190 q hq))
  replace hs190 := fun q hq => Nat.lt_of_lt_of_le (hs190 q hq) (Below.size b204)
  replace bx_aS := Box.below bx_aS b204
  replace bx140 := Box.below bx140 b204
  replace bx177 := Box.below bx177 b204
  have z212 := Below.size b204
  replace zb0 : W1.heap.size ≤ w203.heap.size := by omega
  replace za0 : w86.heap.size ≤ w203.heap.size := by omega
  obtain ⟨a213, m214, c215, rfl⟩ := ownL_shape o207
  have hs209 := fun q hq => (r208 q hq).2
  have k216 : w203.cell? ⟨w.heap.size, 0, none⟩ = some ((Value.slice a_aS0 d_aS.heads_.length c_aS0)) := bx_aS.2 0 (by simp)
  have k217 : w203.cell? ⟨w.heap.size, 1, none⟩ = some ((Value.slice a_aS1 d_aS.descs_.length c_aS1)) := bx_aS.2 1 (by simp)
  have k218 : w203.cell? ⟨w86.heap.size, 0, none⟩ = some ((Value.slice a119 m120 c121)) := bx140.2 0 (by simp)
  have k219 : w203.cell? ⟨w86.heap.size, 1, none⟩ = some ((Value.slice a122 m123 c124)) := bx140.2 1 (by simp)
  have k220 : w203.cell? ⟨w145.heap.size, 0, none⟩ = some ((Value.slice a161 m162 c163)) := bx177.2 0 (by simp)
  have k221 : w203.cell? ⟨w145.heap.size, 1, none⟩ = some ((Value.slice a164 m165 c166)) := bx177.2 1 (by simp)
  go_wp2_with fail
  clear k216 k217 k218 k219 k220 k221
  refine (toBoolS_o d_aTurns (Value.slice a_aTurns0 d_aTurns.length c_aTurns0) _ (rdsL.below h_aTurns0 t210) hb_aTurns).mono ?_
  rintro e w222 ⟨u224, S225, rfl, o226, r227, b223⟩
  have t229 := Below.trans t210 (Below.mono b223 zb0)
  have s230 := Below.trans s211 (Below.mono b223 za0)
  replace o149 := ownL.keep o149 (fun q hq => Below.block b223 q (hs151 q hq))
  replace hs151 := fun q hq => Nat.lt_of_lt_of_le (hs151 q hq) (Below.size b223)
  replace o154 := ownL.keep o154 (fun q hq => Below.block b223 q (hs156 q hq))
  replace hs156 := fun q hq => Nat.lt_of_lt_of_le (hs156 q hq) (Below.size b223)
  replace o188 := ownL.keep o188 (fun q hq => Below.block b223 q (hs190 q hq))
  replace hs190 := fun q hq => Nat.lt_of_lt_of_le (hs190 q hq) (Below.size b223)
  replace o207 := ownL.keep o207 (fun q hq => Below.block b223 q (hs209 q hq))
  replace hs209 := fun q hq => Nat.lt_of_lt_of_le (hs209 q hq) (Below.size b223)
  replace bx_aS := Box.below bx_aS b223
  replace bx140 := Box.below bx140 b223
  replace bx177 := Box.below bx177 b223
  have z231 := Below.size b223
  replace zb0 : W1.heap.size ≤ w222.heap.size := by omega
  replace za0 : w86.heap.size ≤ w222.heap.size := by omega
  obtain ⟨a232, m233, c234, rfl⟩ := ownL_shape o226
  have hs228 := fun q hq => (r227 q hq).2
  have k235 : w222.cell? ⟨w.heap.size, 0, none⟩ = some ((Value.slice a_aS0 d_aS.heads_.length c_aS0)) := bx_aS.2 0 (by simp)
  have k236 : w222.cell? ⟨w.heap.size, 1, none⟩ = some ((Value.slice a_aS1 d_aS.descs_.length c_aS1)) := bx_aS.2 1 (by simp)
  have k237 : w222.cell? ⟨w86.heap.size, 0, none⟩ = some ((Value.slice a119 m120 c121)) := bx140.2 0 (by simp)
  have k238 : w222.cell? ⟨w86.heap.size, 1, none⟩ = some ((Value.slice a122 m123 c124)) := bx140.2 1 (by simp)
  have k239 : w222.cell? ⟨w145.heap.size, 0, none⟩ = some ((Value.slice a161 m162 c163)) := bx177.2 0 (by simp)
  have k240 : w222.cell? ⟨w145.heap.size, 1, none⟩ = some ((Value.slice a164 m165 c166)) := bx177.2 1 (by simp)
  go_wp2_with fail
  clear k235 k236 k237 k238 k239 k240
  refine (impl_TogetherW d_aS (Value.slice a161 m162 c163) (Value.slice a164 m165 c166) d_aA (Value.slice a194 m195 c196) d_aB (Value.slice a213 m214 c215) d_aTurns (Value.slice a232 m233 c234) _ (ownL.rds o149) (ownL.rds o154) hb_aS (ownL.rds o188) hb_aA (ownL.rds o207) hb_aB (ownL.rds o226) hb_aTurns).mono ?_
  rintro e w241 ⟨u243, u248, u254, u260, S244, S249, S255, S261, rfl, o245, o250, o256, o262, r246, r251, r257, r263, dj266, dj267, dj268, dj269, dj270, dj271, hb253, hb259, hb265, b242⟩
  have t272 := Below.trans t229 (Below.mono b242 zb0)
  have s273 := Below.trans s230 (Below.mono b242 za0)
  replace o149 := ownL.keep o149 (fun q hq => Below.block b242 q (hs151 q hq))
  replace hs151 := fun q hq => Nat.lt_of_lt_of_le (hs151 q hq) (Below.size b242)
  replace o154 := ownL.keep o154 (fun q hq => Below.block b242 q (hs156 q hq))
  replace hs156 := fun q hq => Nat.lt_of_lt_of_le (hs156 q hq) (Below.size b242)
  replace o188 := ownL.keep o188 (fun q hq => Below.block b242 q (hs190 q hq))
  replace hs190 := fun q hq => Nat.lt_of_lt_of_le (hs190 q hq) (Below.size b242)
  replace o207 := ownL.keep o207 (fun q hq => Below.block b242 q (hs209 q hq))
  replace hs209 := fun q hq => Nat.lt_of_lt_of_le (hs209 q hq) (Below.size b242)
  replace o226 := ownL.keep o226 (fun q hq => Below.block b242 q (hs228 q hq))
  replace hs228 := fun q hq => Nat.lt_of_lt_of_le (hs228 q hq) (Below.size b242)
  replace bx_aS := Box.below bx_aS b242
  replace bx140 := Box.below bx140 b242
  replace bx177 := Box.below bx177 b242
  have z274 := Below.size b242
  replace zb0 : W1.heap.size ≤ w241.heap.size := by omega
  replace za0 : w86.heap.size ≤ w241.heap.size := by omega
  obtain ⟨a275, m276, c277, rfl⟩ := ownL_shape o245
  have hs247 := fun q hq => (r246 q hq).2
  obtain ⟨a278, m279, c280, rfl⟩ := ownL_shape o250
  have hs252 := fun q hq => (r251 q hq).2
  obtain ⟨a281, m282, c283, rfl⟩ := ownL_shape o256
  have hs258 := fun q hq => (r257 q hq).2
  obtain ⟨a284, m285, c286, rfl⟩ := ownL_shape o262
  have hs264 := fun q hq => (r263 q hq).2
  have k287 : w241.cell? ⟨w.heap.size, 0, none⟩ = some ((Value.slice a_aS0 d_aS.heads_.length c_aS0)) := bx_aS.2 0 (by simp)
  have k288 : w241.cell? ⟨w.heap.size, 1, none⟩ = some ((Value.slice a_aS1 d_aS.descs_.length c_aS1)) := bx_aS.2 1 (by simp)
  have k289 : w241.cell? ⟨w86.heap.size, 0, none⟩ = some ((Value.slice a119 m120 c121)) := bx140.2 0 (by simp)
  have k290 : w241.cell? ⟨w86.heap.size, 1, none⟩ = some ((Value.slice a122 m123 c124)) := bx140.2 1 (by simp)
  have k291 : w241.cell? ⟨w145.heap.size, 0, none⟩ = some ((Value.slice a161 m162 c163)) := bx177.2 0 (by simp)
  have k292 : w241.cell? ⟨w145.heap.size, 1, none⟩ = some ((Value.slice a164 m165 c166)) := bx177.2 1 (by simp)
  obtain ⟨X293, hX294⟩ : ∃ X, w241.alloc (.cells #[(Value.slice a275 m276 c277), (Value.slice a278 m279 c280)] 32) = X := ⟨_, rfl⟩
  have bX295 : Below w241.heap.size w241 X293 := by rw [← hX294]; exact (Below.refl _ _).alloc (Nat.le_refl _) _
  have zX293 : X293.heap.size = w241.heap.size + 1 := by rw [← hX294]; simp
  have t296 := Below.trans t272 (Below.mono bX295 zb0)
  have s297 := Below.trans s273 (Below.mono bX295 za0)
  replace o149 := ownL.keep o149 (fun q hq => Below.block bX295 q (hs151 q hq))
  replace hs151 := fun q hq => Nat.lt_of_lt_of_le (hs151 q hq) (Below.size bX295)
  replace o154 := ownL.keep o154 (fun q hq => Below.block bX295 q (hs156 q hq))
  replace hs156 := fun q hq => Nat.lt_of_lt_of_le (hs156 q hq) (Below.size bX295)
  replace o188 := ownL.keep o188 (fun q hq => Below.block bX295 q (hs190 q hq))
  replace hs190 := fun q hq => Nat.lt_of_lt_of_le (hs190 q hq) (Below.size bX295)
  replace o207 := ownL.keep o207 (fun q hq => Below.block bX295 q (hs209 q hq))
  replace hs209 := fun q hq => Nat.lt_of_lt_of_le (hs209 q hq) (Below.size bX295)
  replace o226 := ownL.keep o226 (fun q hq => Below.block bX295 q (hs228 q hq))
  replace hs228 := fun q hq => Nat.lt_of_lt_of_le (hs228 q hq) (Below.size bX295)
  replace o245 := ownL.keep o245 (fun q hq => Below.block bX295 q (hs247 q hq))
  replace hs247 := fun q hq => Nat.lt_of_lt_of_le (hs247 q hq) (Below.size bX295)
  replace o250 := ownL.keep o250 (fun q hq => Below.block bX295 q (hs252 q hq))
  replace hs252 := fun q hq => Nat.lt_of_lt_of_le (hs252 q hq) (Below.size bX295)
  replace o256 := ownL.keep o256 (fun q hq => Below.block bX295 q (hs258 q hq))
  replace hs258 := fun q hq => Nat.lt_of_lt_of_le (hs258 q hq) (Below.size bX295)
  replace o262 := ownL.keep o262 (fun q hq => Below.block bX295 q (hs264 q hq))
  replace hs264 := fun q hq => Nat.lt_of_lt_of_le (hs264 q hq) (Below.size bX295)
  replace bx_aS := Box.below bx_aS bX295
  replace bx140 := Box.below bx140 bX295
  replace bx177 := Box.below bx177 bX295
  have z298 := Below.size bX295
  replace zb0 : W1.heap.size ≤ X293.heap.size := by omega
  replace za0 : w86.heap.size ≤ X293.heap.size := by omega
  have bx299 : Box X293 (w241.heap.size) [(Value.slice a275 m276 c277), (Value.slice a278 m279 c280)] := by rw [← hX294]; exact Box.alloc _ _ _
  have k300 : X293.cell? ⟨w.heap.size, 0, none⟩ = some ((Value.slice a_aS0 d_aS.heads_.length c_aS0)) := bx_aS.2 0 (by simp)
  have k301 : X293.cell? ⟨w.heap.size, 1, none⟩ = some ((Value.slice a_aS1 d_aS.descs_.length c_aS1)) := bx_aS.2 1 (by simp)
  have k302 : X293.cell? ⟨w86.heap.size, 0, none⟩ = some ((Value.slice a119 m120 c121)) := bx140.2 0 (by simp)
  have k303 : X293.cell? ⟨w86.heap.size, 1, none⟩ = some ((Value.slice a122 m123 c124)) := bx140.2 1 (by simp)
  have k304 : X293.cell? ⟨w145.heap.size, 0, none⟩ = some ((Value.slice a161 m162 c163)) := bx177.2 0 (by simp)
  have k305 : X293.cell? ⟨w145.heap.size, 1, none⟩ = some ((Value.slice a164 m165 c166)) := bx177.2 1 (by simp)
  have k306 : X293.cell? ⟨w241.heap.size, 0, none⟩ = some ((Value.slice a275 m276 c277)) := bx299.2 0 (by simp)
  have k307 : X293.cell? ⟨w241.heap.size, 1, none⟩ = some ((Value.slice a278 m279 c280)) := bx299.2 1 (by simp)
  go_wp2_with fail
  clear k287 k288 k289 k290 k291 k292 k300 k301 k302 k303 k304 k305 k306 k307 hX294
  refine (eqStore_o _ _ _ _ _ _ (ownL.rds o245) (ownL.rds o250) (rdsL.below o90 s297) (rdsL.below o95 s297)).mono ?_
  rintro e w308 ⟨rfl, b309⟩
  have t310 := Below.trans t296 (Below.mono b309 zb0)
  have s311 := Below.trans s297 (Below.mono b309 za0)
  replace o149 := ownL.keep o149 (fun q hq => Below.block b309 q (hs151 q hq))
  replace hs151 := fun q hq => Nat.lt_of_lt_of_le (hs151 q hq) (Below.size b309)
  replace o154 := ownL.keep o154 (fun q hq => Below.block b309 q (hs156 q hq))
  replace hs156 := fun q hq => Nat.lt_of_lt_of_le (hs156 q hq) (Below.size b309)
  replace o188 := ownL.keep o188 (fun q hq => Below.block b309 q (hs190 q hq))
  replace hs190 := fun q hq => Nat.lt_of_lt_of_le (hs190 q hq) (Below.size b309)
  replace o207 := ownL.keep o207 (fun q hq => Below.block b309 q (hs209 q hq))
  replace hs209 := fun q hq => Nat.lt_of_lt_of_le (hs209 q hq) (Below.size b309)
  replace o226 := ownL.keep o226 (fun q hq => Below.block b309 q (hs228 q hq))
  replace hs228 := fun q hq => Nat.lt_of_lt_of_le (hs228 q hq) (Below.size b309)
  replace o245 := ownL.keep o245 (fun q hq => Below.block b309 q (hs247 q hq))
  replace hs247 := fun q hq => Nat.lt_of_lt_of_le (hs247 q hq) (Below.size b309)
  replace o250 := ownL.keep o250 (fun q hq => Below.block b309 q (hs252 q hq))
  replace hs252 := fun q hq => Nat.lt_of_lt_of_le (hs252 q hq) (Below.size b309)
  replace o256 := ownL.keep o256 (fun q hq => Below.block b309 q (hs258 q hq))
  replace hs258 := fun q hq => Nat.lt_of_lt_of_le (hs258 q hq) (Below.size b309)
  replace o262 := ownL.keep o262 (fun q hq => Below.block b309 q (hs264 q hq))
  replace hs264 := fun q hq => Nat.lt_of_lt_of_le (hs264 q hq) (Below.size b309)
  replace bx_aS := Box.below bx_aS b309
  replace bx140 := Box.below bx140 b309
  replace bx177 := Box.below bx177 b309
  replace bx299 := Box.below bx299 b309
  have z312 := Below.size b309
  replace zb0 : W1.heap.size ≤ w308.heap.size := by omega
  replace za0 : w86.heap.size ≤ w308.heap.size := by omega
  have k313 : w308.cell? ⟨w.heap.size, 0, none⟩ = some ((Value.slice a_aS0 d_aS.heads_.length c_aS0)) := bx_aS.2 0 (by simp)
  have k314 : w308.cell? ⟨w.heap.size, 1, none⟩ = some ((Value.slice a_aS1 d_aS.descs_.length c_aS1)) := bx_aS.2 1 (by simp)
  have k315 : w308.cell? ⟨w86.heap.size, 0, none⟩ = some ((Value.slice a119 m120 c121)) := bx140.2 0 (by simp)
  have k316 : w308.cell? ⟨w86.heap.size, 1, none⟩ = some ((Value.slice a122 m123 c124)) := bx140.2 1 (by simp)
  have k317 : w308.cell? ⟨w145.heap.size, 0, none⟩ = some ((Value.slice a161 m162 c163)) := bx177.2 0 (by simp)
  have k318 : w308.cell? ⟨w145.heap.size, 1, none⟩ = some ((Value.slice a164 m165 c166)) := bx177.2 1 (by simp)
  have k319 : w308.cell? ⟨w241.heap.size, 0, none⟩ = some ((Value.slice a275 m276 c277)) := bx299.2 0 (by simp)
  have k320 : w308.cell? ⟨w241.heap.size, 1, none⟩ = some ((Value.slice a278 m279 c280)) := bx299.2 1 (by simp)
  go_wp2_with fail
  clear k313 k314 k315 k316 k317 k318 k319 k320
  refine (eqFrameS_o _ _ _ _ (ownL.rds o256) (rdsL.below o101 s311)).mono ?_
  rintro e w321 ⟨rfl, b322⟩
  have t323 := Below.trans t310 (Below.mono b322 zb0)
  have s324 := Below.trans s311 (Below.mono b322 za0)
  replace o149 := ownL.keep o149 (fun q hq => Below.block b322 q (hs151 q hq))
  replace hs151 := fun q hq => Nat.lt_of_lt_of_le (hs151 q hq) (Below.size b322)
  replace o154 := ownL.keep o154 (fun q hq => Below.block b322 q (hs156 q hq))
  replace hs156 := fun q hq => Nat.lt_of_lt_of_le (hs156 q hq) (Below.size b322)
  replace o188 := ownL.keep o188 (fun q hq => Below.block b322 q (hs190 q hq))
  replace hs190 := fun q hq => Nat.lt_of_lt_of_le (hs190 q hq) (Below.size b322)
  replace o207 := ownL.keep o207 (fun q hq => Below.block b322 q (hs209 q hq))
  replace hs209 := fun q hq => Nat.lt_of_lt_of_le (hs209 q hq) (Below.size b322)
  replace o226 := ownL.keep o226 (fun q hq => Below.block b322 q (hs228 q hq))
  replace hs228 := fun q hq => Nat.lt_of_lt_of_le (hs228 q hq) (Below.size b322)
  replace o245 := ownL.keep o245 (fun q hq => Below.block b322 q (hs247 q hq))
  replace hs247 := fun q hq => Nat.lt_of_lt_of_le (hs247 q hq) (Below.size b322)
  replace o250 := ownL.keep o250 (fun q hq => Below.block b322 q (hs252 q hq))
  replace hs252 := fun q hq => Nat.lt_of_lt_of_le (hs252 q hq) (Below.size b322)
  replace o256 := ownL.keep o256 (fun q hq => Below.block b322 q (hs258 q hq))
  replace hs258 := fun q hq => Nat.lt_of_lt_of_le (hs258 q hq) (Below.size b322)
  replace o262 := ownL.keep o262 (fun q hq => Below.block b322 q (hs264 q hq))
  replace hs264 := fun q hq => Nat.lt_of_lt_of_le (hs264 q hq) (Below.size b322)
  replace bx_aS := Box.below bx_aS b322
  replace bx140 := Box.below bx140 b322
  replace bx177 := Box.below bx177 b322
  replace bx299 := Box.below bx299 b322
  have z325 := Below.size b322
  replace zb0 : W1.heap.size ≤ w321.heap.size := by omega
  replace za0 : w86.heap.size ≤ w321.heap.size := by omega
  have k326 : w321.cell? ⟨w.heap.size, 0, none⟩ = some ((Value.slice a_aS0 d_aS.heads_.length c_aS0)) := bx_aS.2 0 (by simp)
  have k327 : w321.cell? ⟨w.heap.size, 1, none⟩ = some ((Value.slice a_aS1 d_aS.descs_.length c_aS1)) := bx_aS.2 1 (by simp)
  have k328 : w321.cell? ⟨w86.heap.size, 0, none⟩ = some ((Value.slice a119 m120 c121)) := bx140.2 0 (by simp)
  have k329 : w321.cell? ⟨w86.heap.size, 1, none⟩ = some ((Value.slice a122 m123 c124)) := bx140.2 1 (by simp)
  have k330 : w321.cell? ⟨w145.heap.size, 0, none⟩ = some ((Value.slice a161 m162 c163)) := bx177.2 0 (by simp)
  have k331 : w321.cell? ⟨w145.heap.size, 1, none⟩ = some ((Value.slice a164 m165 c166)) := bx177.2 1 (by simp)
  have k332 : w321.cell? ⟨w241.heap.size, 0, none⟩ = some ((Value.slice a275 m276 c277)) := bx299.2 0 (by simp)
  have k333 : w321.cell? ⟨w241.heap.size, 1, none⟩ = some ((Value.slice a278 m279 c280)) := bx299.2 1 (by simp)
  go_wp2_with fail
  clear k326 k327 k328 k329 k330 k331 k332 k333
  refine (eqFrameS_o _ _ _ _ (ownL.rds o262) (rdsL.below o107 s324)).mono ?_
  rintro e w334 ⟨rfl, b335⟩
  have t336 := Below.trans t323 (Below.mono b335 zb0)
  have s337 := Below.trans s324 (Below.mono b335 za0)
  replace o149 := ownL.keep o149 (fun q hq => Below.block b335 q (hs151 q hq))
  replace hs151 := fun q hq => Nat.lt_of_lt_of_le (hs151 q hq) (Below.size b335)
  replace o154 := ownL.keep o154 (fun q hq => Below.block b335 q (hs156 q hq))
  replace hs156 := fun q hq => Nat.lt_of_lt_of_le (hs156 q hq) (Below.size b335)
  replace o188 := ownL.keep o188 (fun q hq => Below.block b335 q (hs190 q hq))
  replace hs190 := fun q hq => Nat.lt_of_lt_of_le (hs190 q hq) (Below.size b335)
  replace o207 := ownL.keep o207 (fun q hq => Below.block b335 q (hs209 q hq))
  replace hs209 := fun q hq => Nat.lt_of_lt_of_le (hs209 q hq) (Below.size b335)
  replace o226 := ownL.keep o226 (fun q hq => Below.block b335 q (hs228 q hq))
  replace hs228 := fun q hq => Nat.lt_of_lt_of_le (hs228 q hq) (Below.size b335)
  replace o245 := ownL.keep o245 (fun q hq => Below.block b335 q (hs247 q hq))
  replace hs247 := fun q hq => Nat.lt_of_lt_of_le (hs247 q hq) (Below.size b335)
  replace o250 := ownL.keep o250 (fun q hq => Below.block b335 q (hs252 q hq))
  replace hs252 := fun q hq => Nat.lt_of_lt_of_le (hs252 q hq) (Below.size b335)
  replace o256 := ownL.keep o256 (fun q hq => Below.block b335 q (hs258 q hq))
  replace hs258 := fun q hq => Nat.lt_of_lt_of_le (hs258 q hq) (Below.size b335)
  replace o262 := ownL.keep o262 (fun q hq => Below.block b335 q (hs264 q hq))
  replace hs264 := fun q hq => Nat.lt_of_lt_of_le (hs264 q hq) (Below.size b335)
  replace bx_aS := Box.below bx_aS b335
  replace bx140 := Box.below bx140 b335
  replace bx177 := Box.below bx177 b335
  replace bx299 := Box.below bx299 b335
  have z338 := Below.size b335
  replace zb0 : W1.heap.size ≤ w334.heap.size := by omega
  replace za0 : w86.heap.size ≤ w334.heap.size := by omega
  have k339 : w334.cell? ⟨w.heap.size, 0, none⟩ = some ((Value.slice a_aS0 d_aS.heads_.length c_aS0)) := bx_aS.2 0 (by simp)
  have k340 : w334.cell? ⟨w.heap.size, 1, none⟩ = some ((Value.slice a_aS1 d_aS.descs_.length c_aS1)) := bx_aS.2 1 (by simp)
  have k341 : w334.cell? ⟨w86.heap.size, 0, none⟩ = some ((Value.slice a119 m120 c121)) := bx140.2 0 (by simp)
  have k342 : w334.cell? ⟨w86.heap.size, 1, none⟩ = some ((Value.slice a122 m123 c124)) := bx140.2 1 (by simp)
  have k343 : w334.cell? ⟨w145.heap.size, 0, none⟩ = some ((Value.slice a161 m162 c163)) := bx177.2 0 (by simp)
  have k344 : w334.cell? ⟨w145.heap.size, 1, none⟩ = some ((Value.slice a164 m165 c166)) := bx177.2 1 (by simp)
  have k345 : w334.cell? ⟨w241.heap.size, 0, none⟩ = some ((Value.slice a275 m276 c277)) := bx299.2 0 (by simp)
  have k346 : w334.cell? ⟨w241.heap.size, 1, none⟩ = some ((Value.slice a278 m279 c280)) := bx299.2 1 (by simp)
  go_wp2_with fail
  clear k339 k340 k341 k342 k343 k344 k345 k346
  have lt362 := (bx_aS).1
  have lt363 := (bx140).1
  have lt364 := (bx177).1
  have lt365 := (bx299).1
  have k366 : w334.cell? ⟨w.heap.size, 0, none⟩ = some ((Value.slice a_aS0 d_aS.heads_.length c_aS0)) := bx_aS.2 0 (by simp)
  have k367 : w334.cell? ⟨w.heap.size, 1, none⟩ = some ((Value.slice a_aS1 d_aS.descs_.length c_aS1)) := bx_aS.2 1 (by simp)
  have k368 : w334.cell? ⟨w86.heap.size, 0, none⟩ = some ((Value.slice a119 m120 c121)) := bx140.2 0 (by simp)
  have k369 : w334.cell? ⟨w86.heap.size, 1, none⟩ = some ((Value.slice a122 m123 c124)) := bx140.2 1 (by simp)
  have k370 : w334.cell? ⟨w145.heap.size, 0, none⟩ = some ((Value.slice a161 m162 c163)) := bx177.2 0 (by simp)
  have k371 : w334.cell? ⟨w145.heap.size, 1, none⟩ = some ((Value.slice a164 m165 c166)) := bx177.2 1 (by simp)
  have k372 : w334.cell? ⟨w241.heap.size, 0, none⟩ = some ((Value.slice a275 m276 c277)) := bx299.2 0 (by simp)
  have k373 : w334.cell? ⟨w241.heap.size, 1, none⟩ = some ((Value.slice a278 m279 c280)) := bx299.2 1 (by simp)
  go_region_held3 (fun w' => Below w334.heap.size w334 w' ∧ w334.heap.size ≤ w'.heap.size ∧ w'.cell? ⟨w.heap.size, 0, none⟩ = some ((Value.slice a_aS0 d_aS.heads_.length c_aS0)) ∧ w'.cell? ⟨w.heap.size, 1, none⟩ = some ((Value.slice a_aS1 d_aS.descs_.length c_aS1)) ∧ w'.cell? ⟨w86.heap.size, 0, none⟩ = some ((Value.slice a119 m120 c121)) ∧ w'.cell? ⟨w86.heap.size, 1, none⟩ = some ((Value.slice a122 m123 c124)) ∧ w'.cell? ⟨w145.heap.size, 0, none⟩ = some ((Value.slice a161 m162 c163)) ∧ w'.cell? ⟨w145.heap.size, 1, none⟩ = some ((Value.slice a164 m165 c166)) ∧ w'.cell? ⟨w241.heap.size, 0, none⟩ = some ((Value.slice a275 m276 c277)) ∧ w'.cell? ⟨w241.heap.size, 1, none⟩ = some ((Value.slice a278 m279 c280)))
    (first | exact ⟨(Below.refl _ _).drew, Nat.le_refl _, k366, k367, k368, k369, k370, k371, k372, k373⟩ | exact keepBox8 (by omega) ‹_› ‹_›)
    (first
    | (go_at_call 12; refine (toStore_o d_aS (Value.slice a_aS0 d_aS.heads_.length c_aS0) (Value.slice a_aS1 d_aS.descs_.length c_aS1) _ (rdsL.below (rdsL.below h_aS0 t336) ((Below.refl _ _).drew : Below w334.heap.size w334 w334.drew)) (rdsL.below (rdsL.below h_aS1 t336) ((Below.refl _ _).drew : Below w334.heap.size w334 w334.drew)) hb_aS).mono ?_; rintro e w347 ⟨u349, u354, S350, S355, rfl, o351, o356, r352, r357, dj359, b348⟩; have hq_w347 : Below w334.heap.size w334 w347 := Below.trans ((Below.refl _ _).drew : Below w334.heap.size w334 w334.drew) (Below.mono b348 (Below.size ((Below.refl _ _).drew : Below w334.heap.size w334 w334.drew))))
    | (go_at_call 15; refine (eqStore_o _ _ _ _ _ _ (rdsL.below (rdsL.below (ownL.rds o149) ((Below.refl _ _).drew : Below w334.heap.size w334 w334.drew)) b348) (rdsL.below (rdsL.below (ownL.rds o154) ((Below.refl _ _).drew : Below w334.heap.size w334 w334.drew)) b348) (ownL.rds o351) (ownL.rds o356)).mono ?_; rintro e w360 ⟨rfl, b361⟩))
  clear k366 k367 k368 k369 k370 k371 k372 k373
  have d374 : Below w334.heap.size w334 w334.drew := (Below.refl _ _).drew
  have t375 := Below.trans t336 (Below.mono d374 zb0)
  have s376 := Below.trans s337 (Below.mono d374 za0)
  replace o149 := ownL.keep o149 (fun q hq => Below.block d374 q (hs151 q hq))
  replace hs151 := fun q hq => Nat.lt_of_lt_of_le (hs151 q hq) (Below.size d374)
  replace o154 := ownL.keep o154 (fun q hq => Below.block d374 q (hs156 q hq))
  replace hs156 := fun q hq => Nat.lt_of_lt_of_le (hs156 q hq) (Below.size d374)
  replace o188 := ownL.keep o188 (fun q hq => Below.block d374 q (hs190 q hq))
  replace hs190 := fun q hq => Nat.lt_of_lt_of_le (hs190 q hq) (Below.size d374)
  replace o207 := ownL.keep o207 (fun q hq => Below.block d374 q (hs209 q hq))
  replace hs209 := fun q hq => Nat.lt_of_lt_of_le (hs209 q hq) (Below.size d374)
  replace o226 := ownL.keep o226 (fun q hq => Below.block d374 q (hs228 q hq))
  replace hs228 := fun q hq => Nat.lt_of_lt_of_le (hs228 q hq) (Below.size d374)
  replace o245 := ownL.keep o245 (fun q hq => Below.block d374 q (hs247 q hq))
  replace hs247 := fun q hq => Nat.lt_of_lt_of_le (hs247 q hq) (Below.size d374)
  replace o250 := ownL.keep o250 (fun q hq => Below.block d374 q (hs252 q hq))
  replace hs252 := fun q hq => Nat.lt_of_lt_of_le (hs252 q hq) (Below.size d374)
  replace o256 := ownL.keep o256 (fun q hq => Below.block d374 q (hs258 q hq))
  replace hs258 := fun q hq => Nat.lt_of_lt_of_le (hs258 q hq) (Below.size d374)
  replace o262 := ownL.keep o262 (fun q hq => Below.block d374 q (hs264 q hq))
  replace hs264 := fun q hq => Nat.lt_of_lt_of_le (hs264 q hq) (Below.size d374)
  replace bx_aS := Box.below bx_aS d374
  replace bx140 := Box.below bx140 d374
  replace bx177 := Box.below bx177 d374
  replace bx299 := Box.below bx299 d374
  have z377 := Below.size d374
  replace zb0 : W1.heap.size ≤ w334.drew.heap.size := by omega
  replace za0 : w86.heap.size ≤ w334.drew.heap.size := by omega
  have t378 := Below.trans t375 (Below.mono b348 zb0)
  have s379 := Below.trans s376 (Below.mono b348 za0)
  replace o149 := ownL.keep o149 (fun q hq => Below.block b348 q (hs151 q hq))
  replace hs151 := fun q hq => Nat.lt_of_lt_of_le (hs151 q hq) (Below.size b348)
  replace o154 := ownL.keep o154 (fun q hq => Below.block b348 q (hs156 q hq))
  replace hs156 := fun q hq => Nat.lt_of_lt_of_le (hs156 q hq) (Below.size b348)
  replace o188 := ownL.keep o188 (fun q hq => Below.block b348 q (hs190 q hq))
  replace hs190 := fun q hq => Nat.lt_of_lt_of_le (hs190 q hq) (Below.size b348)
  replace o207 := ownL.keep o207 (fun q hq => Below.block b348 q (hs209 q hq))
  replace hs209 := fun q hq => Nat.lt_of_lt_of_le (hs209 q hq) (Below.size b348)
  replace o226 := ownL.keep o226 (fun q hq => Below.block b348 q (hs228 q hq))
  replace hs228 := fun q hq => Nat.lt_of_lt_of_le (hs228 q hq) (Below.size b348)
  replace o245 := ownL.keep o245 (fun q hq => Below.block b348 q (hs247 q hq))
  replace hs247 := fun q hq => Nat.lt_of_lt_of_le (hs247 q hq) (Below.size b348)
  replace o250 := ownL.keep o250 (fun q hq => Below.block b348 q (hs252 q hq))
  replace hs252 := fun q hq => Nat.lt_of_lt_of_le (hs252 q hq) (Below.size b348)
  replace o256 := ownL.keep o256 (fun q hq => Below.block b348 q (hs258 q hq))
  replace hs258 := fun q hq => Nat.lt_of_lt_of_le (hs258 q hq) (Below.size b348)
  replace o262 := ownL.keep o262 (fun q hq => Below.block b348 q (hs264 q hq))
  replace hs264 := fun q hq => Nat.lt_of_lt_of_le (hs264 q hq) (Below.size b348)
  replace bx_aS := Box.below bx_aS b348
  replace bx140 := Box.below bx140 b348
  replace bx177 := Box.below bx177 b348
  replace bx299 := Box.below bx299 b348
  have z380 := Below.size b348
  replace zb0 : W1.heap.size ≤ w347.heap.size := by omega
  replace za0 : w86.heap.size ≤ w347.heap.size := by omega
  have t381 := Below.trans t378 (Below.mono b361 zb0)
  have s382 := Below.trans s379 (Below.mono b361 za0)
  replace o149 := ownL.keep o149 (fun q hq => Below.block b361 q (hs151 q hq))
  replace hs151 := fun q hq => Nat.lt_of_lt_of_le (hs151 q hq) (Below.size b361)
  replace o154 := ownL.keep o154 (fun q hq => Below.block b361 q (hs156 q hq))
  replace hs156 := fun q hq => Nat.lt_of_lt_of_le (hs156 q hq) (Below.size b361)
  replace o188 := ownL.keep o188 (fun q hq => Below.block b361 q (hs190 q hq))
  replace hs190 := fun q hq => Nat.lt_of_lt_of_le (hs190 q hq) (Below.size b361)
  replace o207 := ownL.keep o207 (fun q hq => Below.block b361 q (hs209 q hq))
  replace hs209 := fun q hq => Nat.lt_of_lt_of_le (hs209 q hq) (Below.size b361)
  replace o226 := ownL.keep o226 (fun q hq => Below.block b361 q (hs228 q hq))
  replace hs228 := fun q hq => Nat.lt_of_lt_of_le (hs228 q hq) (Below.size b361)
  replace o245 := ownL.keep o245 (fun q hq => Below.block b361 q (hs247 q hq))
  replace hs247 := fun q hq => Nat.lt_of_lt_of_le (hs247 q hq) (Below.size b361)
  replace o250 := ownL.keep o250 (fun q hq => Below.block b361 q (hs252 q hq))
  replace hs252 := fun q hq => Nat.lt_of_lt_of_le (hs252 q hq) (Below.size b361)
  replace o256 := ownL.keep o256 (fun q hq => Below.block b361 q (hs258 q hq))
  replace hs258 := fun q hq => Nat.lt_of_lt_of_le (hs258 q hq) (Below.size b361)
  replace o262 := ownL.keep o262 (fun q hq => Below.block b361 q (hs264 q hq))
  replace hs264 := fun q hq => Nat.lt_of_lt_of_le (hs264 q hq) (Below.size b361)
  replace bx_aS := Box.below bx_aS b361
  replace bx140 := Box.below bx140 b361
  replace bx177 := Box.below bx177 b361
  replace bx299 := Box.below bx299 b361
  have z383 := Below.size b361
  replace zb0 : W1.heap.size ≤ w360.heap.size := by omega
  replace za0 : w86.heap.size ≤ w360.heap.size := by omega
  have k384 : w360.cell? ⟨w.heap.size, 0, none⟩ = some ((Value.slice a_aS0 d_aS.heads_.length c_aS0)) := bx_aS.2 0 (by simp)
  have k385 : w360.cell? ⟨w.heap.size, 1, none⟩ = some ((Value.slice a_aS1 d_aS.descs_.length c_aS1)) := bx_aS.2 1 (by simp)
  have k386 : w360.cell? ⟨w86.heap.size, 0, none⟩ = some ((Value.slice a119 m120 c121)) := bx140.2 0 (by simp)
  have k387 : w360.cell? ⟨w86.heap.size, 1, none⟩ = some ((Value.slice a122 m123 c124)) := bx140.2 1 (by simp)
  have k388 : w360.cell? ⟨w145.heap.size, 0, none⟩ = some ((Value.slice a161 m162 c163)) := bx177.2 0 (by simp)
  have k389 : w360.cell? ⟨w145.heap.size, 1, none⟩ = some ((Value.slice a164 m165 c166)) := bx177.2 1 (by simp)
  have k390 : w360.cell? ⟨w241.heap.size, 0, none⟩ = some ((Value.slice a275 m276 c277)) := bx299.2 0 (by simp)
  have k391 : w360.cell? ⟨w241.heap.size, 1, none⟩ = some ((Value.slice a278 m279 c280)) := bx299.2 1 (by simp)
  go_wp2_with fail
  clear k384 k385 k386 k387 k388 k389 k390 k391
  refine (toFrameS_o d_aA (Value.slice a_aA0 d_aA.length c_aA0) _ (rdsL.below h_aA0 t381) hb_aA).mono ?_
  rintro e w392 ⟨u394, S395, rfl, o396, r397, b393⟩
  have t399 := Below.trans t381 (Below.mono b393 zb0)
  have s400 := Below.trans s382 (Below.mono b393 za0)
  replace o149 := ownL.keep o149 (fun q hq => Below.block b393 q (hs151 q hq))
  replace hs151 := fun q hq => Nat.lt_of_lt_of_le (hs151 q hq) (Below.size b393)
  replace o154 := ownL.keep o154 (fun q hq => Below.block b393 q (hs156 q hq))
  replace hs156 := fun q hq => Nat.lt_of_lt_of_le (hs156 q hq) (Below.size b393)
  replace o188 := ownL.keep o188 (fun q hq => Below.block b393 q (hs190 q hq))
  replace hs190 := fun q hq => Nat.lt_of_lt_of_le (hs190 q hq) (Below.size b393)
  replace o207 := ownL.keep o207 (fun q hq => Below.block b393 q (hs209 q hq))
  replace hs209 := fun q hq => Nat.lt_of_lt_of_le (hs209 q hq) (Below.size b393)
  replace o226 := ownL.keep o226 (fun q hq => Below.block b393 q (hs228 q hq))
  replace hs228 := fun q hq => Nat.lt_of_lt_of_le (hs228 q hq) (Below.size b393)
  replace o245 := ownL.keep o245 (fun q hq => Below.block b393 q (hs247 q hq))
  replace hs247 := fun q hq => Nat.lt_of_lt_of_le (hs247 q hq) (Below.size b393)
  replace o250 := ownL.keep o250 (fun q hq => Below.block b393 q (hs252 q hq))
  replace hs252 := fun q hq => Nat.lt_of_lt_of_le (hs252 q hq) (Below.size b393)
  replace o256 := ownL.keep o256 (fun q hq => Below.block b393 q (hs258 q hq))
  replace hs258 := fun q hq => Nat.lt_of_lt_of_le (hs258 q hq) (Below.size b393)
  replace o262 := ownL.keep o262 (fun q hq => Below.block b393 q (hs264 q hq))
  replace hs264 := fun q hq => Nat.lt_of_lt_of_le (hs264 q hq) (Below.size b393)
  replace bx_aS := Box.below bx_aS b393
  replace bx140 := Box.below bx140 b393
  replace bx177 := Box.below bx177 b393
  replace bx299 := Box.below bx299 b393
  have z401 := Below.size b393
  replace zb0 : W1.heap.size ≤ w392.heap.size := by omega
  replace za0 : w86.heap.size ≤ w392.heap.size := by omega
  obtain ⟨a402, m403, c404, rfl⟩ := ownL_shape o396
  have hs398 := fun q hq => (r397 q hq).2
  have k405 : w392.cell? ⟨w.heap.size, 0, none⟩ = some ((Value.slice a_aS0 d_aS.heads_.length c_aS0)) := bx_aS.2 0 (by simp)
  have k406 : w392.cell? ⟨w.heap.size, 1, none⟩ = some ((Value.slice a_aS1 d_aS.descs_.length c_aS1)) := bx_aS.2 1 (by simp)
  have k407 : w392.cell? ⟨w86.heap.size, 0, none⟩ = some ((Value.slice a119 m120 c121)) := bx140.2 0 (by simp)
  have k408 : w392.cell? ⟨w86.heap.size, 1, none⟩ = some ((Value.slice a122 m123 c124)) := bx140.2 1 (by simp)
  have k409 : w392.cell? ⟨w145.heap.size, 0, none⟩ = some ((Value.slice a161 m162 c163)) := bx177.2 0 (by simp)
  have k410 : w392.cell? ⟨w145.heap.size, 1, none⟩ = some ((Value.slice a164 m165 c166)) := bx177.2 1 (by simp)
  have k411 : w392.cell? ⟨w241.heap.size, 0, none⟩ = some ((Value.slice a275 m276 c277)) := bx299.2 0 (by simp)
  have k412 : w392.cell? ⟨w241.heap.size, 1, none⟩ = some ((Value.slice a278 m279 c280)) := bx299.2 1 (by simp)
  go_wp2_with fail
  clear k405 k406 k407 k408 k409 k410 k411 k412
  refine (eqFrameS_o _ _ _ _ (ownL.rds o188) (ownL.rds o396)).mono ?_
  rintro e w413 ⟨rfl, b414⟩
  have t415 := Below.trans t399 (Below.mono b414 zb0)
  have s416 := Below.trans s400 (Below.mono b414 za0)
  replace o149 := ownL.keep o149 (fun q hq => Below.block b414 q (hs151 q hq))
  replace hs151 := fun q hq => Nat.lt_of_lt_of_le (hs151 q hq) (Below.size b414)
  replace o154 := ownL.keep o154 (fun q hq => Below.block b414 q (hs156 q hq))
  replace hs156 := fun q hq => Nat.lt_of_lt_of_le (hs156 q hq) (Below.size b414)
  replace o188 := ownL.keep o188 (fun q hq => Below.block b414 q (hs190 q hq))
  replace hs190 := fun q hq => Nat.lt_of_lt_of_le (hs190 q hq) (Below.size b414)
  replace o207 := ownL.keep o207 (fun q hq => Below.block b414 q (hs209 q hq))
  replace hs209 := fun q hq => Nat.lt_of_lt_of_le (hs209 q hq) (Below.size b414)
  replace o226 := ownL.keep o226 (fun q hq => Below.block b414 q (hs228 q hq))
  replace hs228 := fun q hq => Nat.lt_of_lt_of_le (hs228 q hq) (Below.size b414)
  replace o245 := ownL.keep o245 (fun q hq => Below.block b414 q (hs247 q hq))
  replace hs247 := fun q hq => Nat.lt_of_lt_of_le (hs247 q hq) (Below.size b414)
  replace o250 := ownL.keep o250 (fun q hq => Below.block b414 q (hs252 q hq))
  replace hs252 := fun q hq => Nat.lt_of_lt_of_le (hs252 q hq) (Below.size b414)
  replace o256 := ownL.keep o256 (fun q hq => Below.block b414 q (hs258 q hq))
  replace hs258 := fun q hq => Nat.lt_of_lt_of_le (hs258 q hq) (Below.size b414)
  replace o262 := ownL.keep o262 (fun q hq => Below.block b414 q (hs264 q hq))
  replace hs264 := fun q hq => Nat.lt_of_lt_of_le (hs264 q hq) (Below.size b414)
  replace bx_aS := Box.below bx_aS b414
  replace bx140 := Box.below bx140 b414
  replace bx177 := Box.below bx177 b414
  replace bx299 := Box.below bx299 b414
  have z417 := Below.size b414
  replace zb0 : W1.heap.size ≤ w413.heap.size := by omega
  replace za0 : w86.heap.size ≤ w413.heap.size := by omega
  have k418 : w413.cell? ⟨w.heap.size, 0, none⟩ = some ((Value.slice a_aS0 d_aS.heads_.length c_aS0)) := bx_aS.2 0 (by simp)
  have k419 : w413.cell? ⟨w.heap.size, 1, none⟩ = some ((Value.slice a_aS1 d_aS.descs_.length c_aS1)) := bx_aS.2 1 (by simp)
  have k420 : w413.cell? ⟨w86.heap.size, 0, none⟩ = some ((Value.slice a119 m120 c121)) := bx140.2 0 (by simp)
  have k421 : w413.cell? ⟨w86.heap.size, 1, none⟩ = some ((Value.slice a122 m123 c124)) := bx140.2 1 (by simp)
  have k422 : w413.cell? ⟨w145.heap.size, 0, none⟩ = some ((Value.slice a161 m162 c163)) := bx177.2 0 (by simp)
  have k423 : w413.cell? ⟨w145.heap.size, 1, none⟩ = some ((Value.slice a164 m165 c166)) := bx177.2 1 (by simp)
  have k424 : w413.cell? ⟨w241.heap.size, 0, none⟩ = some ((Value.slice a275 m276 c277)) := bx299.2 0 (by simp)
  have k425 : w413.cell? ⟨w241.heap.size, 1, none⟩ = some ((Value.slice a278 m279 c280)) := bx299.2 1 (by simp)
  go_wp2_with fail
  clear k418 k419 k420 k421 k422 k423 k424 k425
  refine (toFrameS_o d_aB (Value.slice a_aB0 d_aB.length c_aB0) _ (rdsL.below h_aB0 t415) hb_aB).mono ?_
  rintro e w426 ⟨u428, S429, rfl, o430, r431, b427⟩
  have t433 := Below.trans t415 (Below.mono b427 zb0)
  have s434 := Below.trans s416 (Below.mono b427 za0)
  replace o149 := ownL.keep o149 (fun q hq => Below.block b427 q (hs151 q hq))
  replace hs151 := fun q hq => Nat.lt_of_lt_of_le (hs151 q hq) (Below.size b427)
  replace o154 := ownL.keep o154 (fun q hq => Below.block b427 q (hs156 q hq))
  replace hs156 := fun q hq => Nat.lt_of_lt_of_le (hs156 q hq) (Below.size b427)
  replace o188 := ownL.keep o188 (fun q hq => Below.block b427 q (hs190 q hq))
  replace hs190 := fun q hq => Nat.lt_of_lt_of_le (hs190 q hq) (Below.size b427)
  replace o207 := ownL.keep o207 (fun q hq => Below.block b427 q (hs209 q hq))
  replace hs209 := fun q hq => Nat.lt_of_lt_of_le (hs209 q hq) (Below.size b427)
  replace o226 := ownL.keep o226 (fun q hq => Below.block b427 q (hs228 q hq))
  replace hs228 := fun q hq => Nat.lt_of_lt_of_le (hs228 q hq) (Below.size b427)
  replace o245 := ownL.keep o245 (fun q hq => Below.block b427 q (hs247 q hq))
  replace hs247 := fun q hq => Nat.lt_of_lt_of_le (hs247 q hq) (Below.size b427)
  replace o250 := ownL.keep o250 (fun q hq => Below.block b427 q (hs252 q hq))
  replace hs252 := fun q hq => Nat.lt_of_lt_of_le (hs252 q hq) (Below.size b427)
  replace o256 := ownL.keep o256 (fun q hq => Below.block b427 q (hs258 q hq))
  replace hs258 := fun q hq => Nat.lt_of_lt_of_le (hs258 q hq) (Below.size b427)
  replace o262 := ownL.keep o262 (fun q hq => Below.block b427 q (hs264 q hq))
  replace hs264 := fun q hq => Nat.lt_of_lt_of_le (hs264 q hq) (Below.size b427)
  replace bx_aS := Box.below bx_aS b427
  replace bx140 := Box.below bx140 b427
  replace bx177 := Box.below bx177 b427
  replace bx299 := Box.below bx299 b427
  have z435 := Below.size b427
  replace zb0 : W1.heap.size ≤ w426.heap.size := by omega
  replace za0 : w86.heap.size ≤ w426.heap.size := by omega
  obtain ⟨a436, m437, c438, rfl⟩ := ownL_shape o430
  have hs432 := fun q hq => (r431 q hq).2
  have k439 : w426.cell? ⟨w.heap.size, 0, none⟩ = some ((Value.slice a_aS0 d_aS.heads_.length c_aS0)) := bx_aS.2 0 (by simp)
  have k440 : w426.cell? ⟨w.heap.size, 1, none⟩ = some ((Value.slice a_aS1 d_aS.descs_.length c_aS1)) := bx_aS.2 1 (by simp)
  have k441 : w426.cell? ⟨w86.heap.size, 0, none⟩ = some ((Value.slice a119 m120 c121)) := bx140.2 0 (by simp)
  have k442 : w426.cell? ⟨w86.heap.size, 1, none⟩ = some ((Value.slice a122 m123 c124)) := bx140.2 1 (by simp)
  have k443 : w426.cell? ⟨w145.heap.size, 0, none⟩ = some ((Value.slice a161 m162 c163)) := bx177.2 0 (by simp)
  have k444 : w426.cell? ⟨w145.heap.size, 1, none⟩ = some ((Value.slice a164 m165 c166)) := bx177.2 1 (by simp)
  have k445 : w426.cell? ⟨w241.heap.size, 0, none⟩ = some ((Value.slice a275 m276 c277)) := bx299.2 0 (by simp)
  have k446 : w426.cell? ⟨w241.heap.size, 1, none⟩ = some ((Value.slice a278 m279 c280)) := bx299.2 1 (by simp)
  go_wp2_with fail
  clear k439 k440 k441 k442 k443 k444 k445 k446
  refine (eqFrameS_o _ _ _ _ (ownL.rds o207) (ownL.rds o430)).mono ?_
  rintro e w447 ⟨rfl, b448⟩
  have t449 := Below.trans t433 (Below.mono b448 zb0)
  have s450 := Below.trans s434 (Below.mono b448 za0)
  replace o149 := ownL.keep o149 (fun q hq => Below.block b448 q (hs151 q hq))
  replace hs151 := fun q hq => Nat.lt_of_lt_of_le (hs151 q hq) (Below.size b448)
  replace o154 := ownL.keep o154 (fun q hq => Below.block b448 q (hs156 q hq))
  replace hs156 := fun q hq => Nat.lt_of_lt_of_le (hs156 q hq) (Below.size b448)
  replace o188 := ownL.keep o188 (fun q hq => Below.block b448 q (hs190 q hq))
  replace hs190 := fun q hq => Nat.lt_of_lt_of_le (hs190 q hq) (Below.size b448)
  replace o207 := ownL.keep o207 (fun q hq => Below.block b448 q (hs209 q hq))
  replace hs209 := fun q hq => Nat.lt_of_lt_of_le (hs209 q hq) (Below.size b448)
  replace o226 := ownL.keep o226 (fun q hq => Below.block b448 q (hs228 q hq))
  replace hs228 := fun q hq => Nat.lt_of_lt_of_le (hs228 q hq) (Below.size b448)
  replace o245 := ownL.keep o245 (fun q hq => Below.block b448 q (hs247 q hq))
  replace hs247 := fun q hq => Nat.lt_of_lt_of_le (hs247 q hq) (Below.size b448)
  replace o250 := ownL.keep o250 (fun q hq => Below.block b448 q (hs252 q hq))
  replace hs252 := fun q hq => Nat.lt_of_lt_of_le (hs252 q hq) (Below.size b448)
  replace o256 := ownL.keep o256 (fun q hq => Below.block b448 q (hs258 q hq))
  replace hs258 := fun q hq => Nat.lt_of_lt_of_le (hs258 q hq) (Below.size b448)
  replace o262 := ownL.keep o262 (fun q hq => Below.block b448 q (hs264 q hq))
  replace hs264 := fun q hq => Nat.lt_of_lt_of_le (hs264 q hq) (Below.size b448)
  replace bx_aS := Box.below bx_aS b448
  replace bx140 := Box.below bx140 b448
  replace bx177 := Box.below bx177 b448
  replace bx299 := Box.below bx299 b448
  have z451 := Below.size b448
  replace zb0 : W1.heap.size ≤ w447.heap.size := by omega
  replace za0 : w86.heap.size ≤ w447.heap.size := by omega
  have k452 : w447.cell? ⟨w.heap.size, 0, none⟩ = some ((Value.slice a_aS0 d_aS.heads_.length c_aS0)) := bx_aS.2 0 (by simp)
  have k453 : w447.cell? ⟨w.heap.size, 1, none⟩ = some ((Value.slice a_aS1 d_aS.descs_.length c_aS1)) := bx_aS.2 1 (by simp)
  have k454 : w447.cell? ⟨w86.heap.size, 0, none⟩ = some ((Value.slice a119 m120 c121)) := bx140.2 0 (by simp)
  have k455 : w447.cell? ⟨w86.heap.size, 1, none⟩ = some ((Value.slice a122 m123 c124)) := bx140.2 1 (by simp)
  have k456 : w447.cell? ⟨w145.heap.size, 0, none⟩ = some ((Value.slice a161 m162 c163)) := bx177.2 0 (by simp)
  have k457 : w447.cell? ⟨w145.heap.size, 1, none⟩ = some ((Value.slice a164 m165 c166)) := bx177.2 1 (by simp)
  have k458 : w447.cell? ⟨w241.heap.size, 0, none⟩ = some ((Value.slice a275 m276 c277)) := bx299.2 0 (by simp)
  have k459 : w447.cell? ⟨w241.heap.size, 1, none⟩ = some ((Value.slice a278 m279 c280)) := bx299.2 1 (by simp)
  go_wp2_with fail
  clear k452 k453 k454 k455 k456 k457 k458 k459
  refine (toBoolS_o d_aTurns (Value.slice a_aTurns0 d_aTurns.length c_aTurns0) _ (rdsL.below h_aTurns0 t449) hb_aTurns).mono ?_
  rintro e w460 ⟨u462, S463, rfl, o464, r465, b461⟩
  have t467 := Below.trans t449 (Below.mono b461 zb0)
  have s468 := Below.trans s450 (Below.mono b461 za0)
  replace o149 := ownL.keep o149 (fun q hq => Below.block b461 q (hs151 q hq))
  replace hs151 := fun q hq => Nat.lt_of_lt_of_le (hs151 q hq) (Below.size b461)
  replace o154 := ownL.keep o154 (fun q hq => Below.block b461 q (hs156 q hq))
  replace hs156 := fun q hq => Nat.lt_of_lt_of_le (hs156 q hq) (Below.size b461)
  replace o188 := ownL.keep o188 (fun q hq => Below.block b461 q (hs190 q hq))
  replace hs190 := fun q hq => Nat.lt_of_lt_of_le (hs190 q hq) (Below.size b461)
  replace o207 := ownL.keep o207 (fun q hq => Below.block b461 q (hs209 q hq))
  replace hs209 := fun q hq => Nat.lt_of_lt_of_le (hs209 q hq) (Below.size b461)
  replace o226 := ownL.keep o226 (fun q hq => Below.block b461 q (hs228 q hq))
  replace hs228 := fun q hq => Nat.lt_of_lt_of_le (hs228 q hq) (Below.size b461)
  replace o245 := ownL.keep o245 (fun q hq => Below.block b461 q (hs247 q hq))
  replace hs247 := fun q hq => Nat.lt_of_lt_of_le (hs247 q hq) (Below.size b461)
  replace o250 := ownL.keep o250 (fun q hq => Below.block b461 q (hs252 q hq))
  replace hs252 := fun q hq => Nat.lt_of_lt_of_le (hs252 q hq) (Below.size b461)
  replace o256 := ownL.keep o256 (fun q hq => Below.block b461 q (hs258 q hq))
  replace hs258 := fun q hq => Nat.lt_of_lt_of_le (hs258 q hq) (Below.size b461)
  replace o262 := ownL.keep o262 (fun q hq => Below.block b461 q (hs264 q hq))
  replace hs264 := fun q hq => Nat.lt_of_lt_of_le (hs264 q hq) (Below.size b461)
  replace bx_aS := Box.below bx_aS b461
  replace bx140 := Box.below bx140 b461
  replace bx177 := Box.below bx177 b461
  replace bx299 := Box.below bx299 b461
  have z469 := Below.size b461
  replace zb0 : W1.heap.size ≤ w460.heap.size := by omega
  replace za0 : w86.heap.size ≤ w460.heap.size := by omega
  obtain ⟨a470, m471, c472, rfl⟩ := ownL_shape o464
  have hs466 := fun q hq => (r465 q hq).2
  have k473 : w460.cell? ⟨w.heap.size, 0, none⟩ = some ((Value.slice a_aS0 d_aS.heads_.length c_aS0)) := bx_aS.2 0 (by simp)
  have k474 : w460.cell? ⟨w.heap.size, 1, none⟩ = some ((Value.slice a_aS1 d_aS.descs_.length c_aS1)) := bx_aS.2 1 (by simp)
  have k475 : w460.cell? ⟨w86.heap.size, 0, none⟩ = some ((Value.slice a119 m120 c121)) := bx140.2 0 (by simp)
  have k476 : w460.cell? ⟨w86.heap.size, 1, none⟩ = some ((Value.slice a122 m123 c124)) := bx140.2 1 (by simp)
  have k477 : w460.cell? ⟨w145.heap.size, 0, none⟩ = some ((Value.slice a161 m162 c163)) := bx177.2 0 (by simp)
  have k478 : w460.cell? ⟨w145.heap.size, 1, none⟩ = some ((Value.slice a164 m165 c166)) := bx177.2 1 (by simp)
  have k479 : w460.cell? ⟨w241.heap.size, 0, none⟩ = some ((Value.slice a275 m276 c277)) := bx299.2 0 (by simp)
  have k480 : w460.cell? ⟨w241.heap.size, 1, none⟩ = some ((Value.slice a278 m279 c280)) := bx299.2 1 (by simp)
  go_wp2_with fail
  clear k473 k474 k475 k476 k477 k478 k479 k480
  refine (eqBoolS_o _ _ _ _ (ownL.rds o226) (ownL.rds o464)).mono ?_
  rintro e w481 ⟨rfl, b482⟩
  have t483 := Below.trans t467 (Below.mono b482 zb0)
  have s484 := Below.trans s468 (Below.mono b482 za0)
  replace o149 := ownL.keep o149 (fun q hq => Below.block b482 q (hs151 q hq))
  replace hs151 := fun q hq => Nat.lt_of_lt_of_le (hs151 q hq) (Below.size b482)
  replace o154 := ownL.keep o154 (fun q hq => Below.block b482 q (hs156 q hq))
  replace hs156 := fun q hq => Nat.lt_of_lt_of_le (hs156 q hq) (Below.size b482)
  replace o188 := ownL.keep o188 (fun q hq => Below.block b482 q (hs190 q hq))
  replace hs190 := fun q hq => Nat.lt_of_lt_of_le (hs190 q hq) (Below.size b482)
  replace o207 := ownL.keep o207 (fun q hq => Below.block b482 q (hs209 q hq))
  replace hs209 := fun q hq => Nat.lt_of_lt_of_le (hs209 q hq) (Below.size b482)
  replace o226 := ownL.keep o226 (fun q hq => Below.block b482 q (hs228 q hq))
  replace hs228 := fun q hq => Nat.lt_of_lt_of_le (hs228 q hq) (Below.size b482)
  replace o245 := ownL.keep o245 (fun q hq => Below.block b482 q (hs247 q hq))
  replace hs247 := fun q hq => Nat.lt_of_lt_of_le (hs247 q hq) (Below.size b482)
  replace o250 := ownL.keep o250 (fun q hq => Below.block b482 q (hs252 q hq))
  replace hs252 := fun q hq => Nat.lt_of_lt_of_le (hs252 q hq) (Below.size b482)
  replace o256 := ownL.keep o256 (fun q hq => Below.block b482 q (hs258 q hq))
  replace hs258 := fun q hq => Nat.lt_of_lt_of_le (hs258 q hq) (Below.size b482)
  replace o262 := ownL.keep o262 (fun q hq => Below.block b482 q (hs264 q hq))
  replace hs264 := fun q hq => Nat.lt_of_lt_of_le (hs264 q hq) (Below.size b482)
  replace bx_aS := Box.below bx_aS b482
  replace bx140 := Box.below bx140 b482
  replace bx177 := Box.below bx177 b482
  replace bx299 := Box.below bx299 b482
  have z485 := Below.size b482
  replace zb0 : W1.heap.size ≤ w481.heap.size := by omega
  replace za0 : w86.heap.size ≤ w481.heap.size := by omega
  have k486 : w481.cell? ⟨w.heap.size, 0, none⟩ = some ((Value.slice a_aS0 d_aS.heads_.length c_aS0)) := bx_aS.2 0 (by simp)
  have k487 : w481.cell? ⟨w.heap.size, 1, none⟩ = some ((Value.slice a_aS1 d_aS.descs_.length c_aS1)) := bx_aS.2 1 (by simp)
  have k488 : w481.cell? ⟨w86.heap.size, 0, none⟩ = some ((Value.slice a119 m120 c121)) := bx140.2 0 (by simp)
  have k489 : w481.cell? ⟨w86.heap.size, 1, none⟩ = some ((Value.slice a122 m123 c124)) := bx140.2 1 (by simp)
  have k490 : w481.cell? ⟨w145.heap.size, 0, none⟩ = some ((Value.slice a161 m162 c163)) := bx177.2 0 (by simp)
  have k491 : w481.cell? ⟨w145.heap.size, 1, none⟩ = some ((Value.slice a164 m165 c166)) := bx177.2 1 (by simp)
  have k492 : w481.cell? ⟨w241.heap.size, 0, none⟩ = some ((Value.slice a275 m276 c277)) := bx299.2 0 (by simp)
  have k493 : w481.cell? ⟨w241.heap.size, 1, none⟩ = some ((Value.slice a278 m279 c280)) := bx299.2 1 (by simp)
  go_wp2_with fail
  clear k486 k487 k488 k489 k490 k491 k492 k493
  have le498 := cntS_le hb_aS
  refine (markStore_o S148 S153 _ _ _ _ _ hs151 hs156 dj157 hb_aS (by omega) (by omega) o149 o154).mono ?_
  rintro e w494 ⟨rfl, o496, o497, C495⟩
  have t499 := below_chg t483 C495 zb0 (by intro q hx; rcases hx with hx | hx; (have y := r150 q hx; have y1 := y.1; have y2 := y.2; omega); (have y := r155 q hx; have y1 := y.1; have y2 := y.2; omega))
  have s500 := below_chg s484 C495 za0 (by intro q hx; rcases hx with hx | hx; (have y := r150 q hx; have y1 := y.1; have y2 := y.2; omega); (have y := r155 q hx; have y1 := y.1; have y2 := y.2; omega))
  replace hs151 := fun q hq => Nat.lt_of_lt_of_le (hs151 q hq) (ChgS.size C495)
  replace hs156 := fun q hq => Nat.lt_of_lt_of_le (hs156 q hq) (ChgS.size C495)
  replace o188 := ownL.keep o188 (fun q hq => ChgS.block C495 q (hs190 q hq) (by intro hx; have x0 := r189 q hq; have x1 := x0.1; have x2 := x0.2; rcases hx with hx | hx; (have y := r150 q hx; have y1 := y.1; have y2 := y.2; omega); (have y := r155 q hx; have y1 := y.1; have y2 := y.2; omega)))
  replace hs190 := fun q hq => Nat.lt_of_lt_of_le (hs190 q hq) (ChgS.size C495)
  replace o207 := ownL.keep o207 (fun q hq => ChgS.block C495 q (hs209 q hq) (by intro hx; have x0 := r208 q hq; have x1 := x0.1; have x2 := x0.2; rcases hx with hx | hx; (have y := r150 q hx; have y1 := y.1; have y2 := y.2; omega); (have y := r155 q hx; have y1 := y.1; have y2 := y.2; omega)))
  replace hs209 := fun q hq => Nat.lt_of_lt_of_le (hs209 q hq) (ChgS.size C495)
  replace o226 := ownL.keep o226 (fun q hq => ChgS.block C495 q (hs228 q hq) (by intro hx; have x0 := r227 q hq; have x1 := x0.1; have x2 := x0.2; rcases hx with hx | hx; (have y := r150 q hx; have y1 := y.1; have y2 := y.2; omega); (have y := r155 q hx; have y1 := y.1; have y2 := y.2; omega)))
  replace hs228 := fun q hq => Nat.lt_of_lt_of_le (hs228 q hq) (ChgS.size C495)
  replace o245 := ownL.keep o245 (fun q hq => ChgS.block C495 q (hs247 q hq) (by intro hx; have x0 := r246 q hq; have x1 := x0.1; have x2 := x0.2; rcases hx with hx | hx; (have y := r150 q hx; have y1 := y.1; have y2 := y.2; omega); (have y := r155 q hx; have y1 := y.1; have y2 := y.2; omega)))
  replace hs247 := fun q hq => Nat.lt_of_lt_of_le (hs247 q hq) (ChgS.size C495)
  replace o250 := ownL.keep o250 (fun q hq => ChgS.block C495 q (hs252 q hq) (by intro hx; have x0 := r251 q hq; have x1 := x0.1; have x2 := x0.2; rcases hx with hx | hx; (have y := r150 q hx; have y1 := y.1; have y2 := y.2; omega); (have y := r155 q hx; have y1 := y.1; have y2 := y.2; omega)))
  replace hs252 := fun q hq => Nat.lt_of_lt_of_le (hs252 q hq) (ChgS.size C495)
  replace o256 := ownL.keep o256 (fun q hq => ChgS.block C495 q (hs258 q hq) (by intro hx; have x0 := r257 q hq; have x1 := x0.1; have x2 := x0.2; rcases hx with hx | hx; (have y := r150 q hx; have y1 := y.1; have y2 := y.2; omega); (have y := r155 q hx; have y1 := y.1; have y2 := y.2; omega)))
  replace hs258 := fun q hq => Nat.lt_of_lt_of_le (hs258 q hq) (ChgS.size C495)
  replace o262 := ownL.keep o262 (fun q hq => ChgS.block C495 q (hs264 q hq) (by intro hx; have x0 := r263 q hq; have x1 := x0.1; have x2 := x0.2; rcases hx with hx | hx; (have y := r150 q hx; have y1 := y.1; have y2 := y.2; omega); (have y := r155 q hx; have y1 := y.1; have y2 := y.2; omega)))
  replace hs264 := fun q hq => Nat.lt_of_lt_of_le (hs264 q hq) (ChgS.size C495)
  replace bx_aS := Box.chg bx_aS C495 (by intro hx; rcases hx with hx | hx; (have y := r150 _ hx; have y1 := y.1; have y2 := y.2; omega); (have y := r155 _ hx; have y1 := y.1; have y2 := y.2; omega))
  replace bx140 := Box.chg bx140 C495 (by intro hx; rcases hx with hx | hx; (have y := r150 _ hx; have y1 := y.1; have y2 := y.2; omega); (have y := r155 _ hx; have y1 := y.1; have y2 := y.2; omega))
  replace bx177 := Box.chg bx177 C495 (by intro hx; rcases hx with hx | hx; (have y := r150 _ hx; have y1 := y.1; have y2 := y.2; omega); (have y := r155 _ hx; have y1 := y.1; have y2 := y.2; omega))
  replace bx299 := Box.chg bx299 C495 (by intro hx; rcases hx with hx | hx; (have y := r150 _ hx; have y1 := y.1; have y2 := y.2; omega); (have y := r155 _ hx; have y1 := y.1; have y2 := y.2; omega))
  have z501 := ChgS.size C495
  replace zb0 : W1.heap.size ≤ w494.heap.size := by omega
  replace za0 : w86.heap.size ≤ w494.heap.size := by omega
  have k502 : w494.cell? ⟨w.heap.size, 0, none⟩ = some ((Value.slice a_aS0 d_aS.heads_.length c_aS0)) := bx_aS.2 0 (by simp)
  have k503 : w494.cell? ⟨w.heap.size, 1, none⟩ = some ((Value.slice a_aS1 d_aS.descs_.length c_aS1)) := bx_aS.2 1 (by simp)
  have k504 : w494.cell? ⟨w86.heap.size, 0, none⟩ = some ((Value.slice a119 m120 c121)) := bx140.2 0 (by simp)
  have k505 : w494.cell? ⟨w86.heap.size, 1, none⟩ = some ((Value.slice a122 m123 c124)) := bx140.2 1 (by simp)
  have k506 : w494.cell? ⟨w145.heap.size, 0, none⟩ = some ((Value.slice a161 m162 c163)) := bx177.2 0 (by simp)
  have k507 : w494.cell? ⟨w145.heap.size, 1, none⟩ = some ((Value.slice a164 m165 c166)) := bx177.2 1 (by simp)
  have k508 : w494.cell? ⟨w241.heap.size, 0, none⟩ = some ((Value.slice a275 m276 c277)) := bx299.2 0 (by simp)
  have k509 : w494.cell? ⟨w241.heap.size, 1, none⟩ = some ((Value.slice a278 m279 c280)) := bx299.2 1 (by simp)
  go_wp2_with fail
  clear k502 k503 k504 k505 k506 k507 k508 k509
  have le513 := cntFrameS_le hb_aA
  refine (markFrameS_o S187 _ _ _ _ hs190  hb_aA (by omega) (by omega) o188).mono ?_
  rintro e w510 ⟨rfl, o512, C511⟩
  have t514 := below_chg t499 C511 zb0 (by intro q hx; have y := r189 q hx; have y1 := y.1; have y2 := y.2; omega)
  have s515 := below_chg s500 C511 za0 (by intro q hx; have y := r189 q hx; have y1 := y.1; have y2 := y.2; omega)
  replace o496 := ownL.keep o496 (fun q hq => ChgS.block C511 q (hs151 q hq) (by intro hx; have x0 := r150 q hq; have x1 := x0.1; have x2 := x0.2; have y := r189 q hx; have y1 := y.1; have y2 := y.2; omega))
  replace hs151 := fun q hq => Nat.lt_of_lt_of_le (hs151 q hq) (ChgS.size C511)
  replace o497 := ownL.keep o497 (fun q hq => ChgS.block C511 q (hs156 q hq) (by intro hx; have x0 := r155 q hq; have x1 := x0.1; have x2 := x0.2; have y := r189 q hx; have y1 := y.1; have y2 := y.2; omega))
  replace hs156 := fun q hq => Nat.lt_of_lt_of_le (hs156 q hq) (ChgS.size C511)
  replace hs190 := fun q hq => Nat.lt_of_lt_of_le (hs190 q hq) (ChgS.size C511)
  replace o207 := ownL.keep o207 (fun q hq => ChgS.block C511 q (hs209 q hq) (by intro hx; have x0 := r208 q hq; have x1 := x0.1; have x2 := x0.2; have y := r189 q hx; have y1 := y.1; have y2 := y.2; omega))
  replace hs209 := fun q hq => Nat.lt_of_lt_of_le (hs209 q hq) (ChgS.size C511)
  replace o226 := ownL.keep o226 (fun q hq => ChgS.block C511 q (hs228 q hq) (by intro hx; have x0 := r227 q hq; have x1 := x0.1; have x2 := x0.2; have y := r189 q hx; have y1 := y.1; have y2 := y.2; omega))
  replace hs228 := fun q hq => Nat.lt_of_lt_of_le (hs228 q hq) (ChgS.size C511)
  replace o245 := ownL.keep o245 (fun q hq => ChgS.block C511 q (hs247 q hq) (by intro hx; have x0 := r246 q hq; have x1 := x0.1; have x2 := x0.2; have y := r189 q hx; have y1 := y.1; have y2 := y.2; omega))
  replace hs247 := fun q hq => Nat.lt_of_lt_of_le (hs247 q hq) (ChgS.size C511)
  replace o250 := ownL.keep o250 (fun q hq => ChgS.block C511 q (hs252 q hq) (by intro hx; have x0 := r251 q hq; have x1 := x0.1; have x2 := x0.2; have y := r189 q hx; have y1 := y.1; have y2 := y.2; omega))
  replace hs252 := fun q hq => Nat.lt_of_lt_of_le (hs252 q hq) (ChgS.size C511)
  replace o256 := ownL.keep o256 (fun q hq => ChgS.block C511 q (hs258 q hq) (by intro hx; have x0 := r257 q hq; have x1 := x0.1; have x2 := x0.2; have y := r189 q hx; have y1 := y.1; have y2 := y.2; omega))
  replace hs258 := fun q hq => Nat.lt_of_lt_of_le (hs258 q hq) (ChgS.size C511)
  replace o262 := ownL.keep o262 (fun q hq => ChgS.block C511 q (hs264 q hq) (by intro hx; have x0 := r263 q hq; have x1 := x0.1; have x2 := x0.2; have y := r189 q hx; have y1 := y.1; have y2 := y.2; omega))
  replace hs264 := fun q hq => Nat.lt_of_lt_of_le (hs264 q hq) (ChgS.size C511)
  replace bx_aS := Box.chg bx_aS C511 (by intro hx; have y := r189 _ hx; have y1 := y.1; have y2 := y.2; omega)
  replace bx140 := Box.chg bx140 C511 (by intro hx; have y := r189 _ hx; have y1 := y.1; have y2 := y.2; omega)
  replace bx177 := Box.chg bx177 C511 (by intro hx; have y := r189 _ hx; have y1 := y.1; have y2 := y.2; omega)
  replace bx299 := Box.chg bx299 C511 (by intro hx; have y := r189 _ hx; have y1 := y.1; have y2 := y.2; omega)
  have z516 := ChgS.size C511
  replace zb0 : W1.heap.size ≤ w510.heap.size := by omega
  replace za0 : w86.heap.size ≤ w510.heap.size := by omega
  have k517 : w510.cell? ⟨w.heap.size, 0, none⟩ = some ((Value.slice a_aS0 d_aS.heads_.length c_aS0)) := bx_aS.2 0 (by simp)
  have k518 : w510.cell? ⟨w.heap.size, 1, none⟩ = some ((Value.slice a_aS1 d_aS.descs_.length c_aS1)) := bx_aS.2 1 (by simp)
  have k519 : w510.cell? ⟨w86.heap.size, 0, none⟩ = some ((Value.slice a119 m120 c121)) := bx140.2 0 (by simp)
  have k520 : w510.cell? ⟨w86.heap.size, 1, none⟩ = some ((Value.slice a122 m123 c124)) := bx140.2 1 (by simp)
  have k521 : w510.cell? ⟨w145.heap.size, 0, none⟩ = some ((Value.slice a161 m162 c163)) := bx177.2 0 (by simp)
  have k522 : w510.cell? ⟨w145.heap.size, 1, none⟩ = some ((Value.slice a164 m165 c166)) := bx177.2 1 (by simp)
  have k523 : w510.cell? ⟨w241.heap.size, 0, none⟩ = some ((Value.slice a275 m276 c277)) := bx299.2 0 (by simp)
  have k524 : w510.cell? ⟨w241.heap.size, 1, none⟩ = some ((Value.slice a278 m279 c280)) := bx299.2 1 (by simp)
  go_wp2_with fail
  clear k517 k518 k519 k520 k521 k522 k523 k524
  have le528 := cntFrameS_le hb_aB
  refine (markFrameS_o S206 _ _ _ _ hs209  hb_aB (by omega) (by omega) o207).mono ?_
  rintro e w525 ⟨rfl, o527, C526⟩
  have t529 := below_chg t514 C526 zb0 (by intro q hx; have y := r208 q hx; have y1 := y.1; have y2 := y.2; omega)
  have s530 := below_chg s515 C526 za0 (by intro q hx; have y := r208 q hx; have y1 := y.1; have y2 := y.2; omega)
  replace o496 := ownL.keep o496 (fun q hq => ChgS.block C526 q (hs151 q hq) (by intro hx; have x0 := r150 q hq; have x1 := x0.1; have x2 := x0.2; have y := r208 q hx; have y1 := y.1; have y2 := y.2; omega))
  replace hs151 := fun q hq => Nat.lt_of_lt_of_le (hs151 q hq) (ChgS.size C526)
  replace o497 := ownL.keep o497 (fun q hq => ChgS.block C526 q (hs156 q hq) (by intro hx; have x0 := r155 q hq; have x1 := x0.1; have x2 := x0.2; have y := r208 q hx; have y1 := y.1; have y2 := y.2; omega))
  replace hs156 := fun q hq => Nat.lt_of_lt_of_le (hs156 q hq) (ChgS.size C526)
  replace o512 := ownL.keep o512 (fun q hq => ChgS.block C526 q (hs190 q hq) (by intro hx; have x0 := r189 q hq; have x1 := x0.1; have x2 := x0.2; have y := r208 q hx; have y1 := y.1; have y2 := y.2; omega))
  replace hs190 := fun q hq => Nat.lt_of_lt_of_le (hs190 q hq) (ChgS.size C526)
  replace hs209 := fun q hq => Nat.lt_of_lt_of_le (hs209 q hq) (ChgS.size C526)
  replace o226 := ownL.keep o226 (fun q hq => ChgS.block C526 q (hs228 q hq) (by intro hx; have x0 := r227 q hq; have x1 := x0.1; have x2 := x0.2; have y := r208 q hx; have y1 := y.1; have y2 := y.2; omega))
  replace hs228 := fun q hq => Nat.lt_of_lt_of_le (hs228 q hq) (ChgS.size C526)
  replace o245 := ownL.keep o245 (fun q hq => ChgS.block C526 q (hs247 q hq) (by intro hx; have x0 := r246 q hq; have x1 := x0.1; have x2 := x0.2; have y := r208 q hx; have y1 := y.1; have y2 := y.2; omega))
  replace hs247 := fun q hq => Nat.lt_of_lt_of_le (hs247 q hq) (ChgS.size C526)
  replace o250 := ownL.keep o250 (fun q hq => ChgS.block C526 q (hs252 q hq) (by intro hx; have x0 := r251 q hq; have x1 := x0.1; have x2 := x0.2; have y := r208 q hx; have y1 := y.1; have y2 := y.2; omega))
  replace hs252 := fun q hq => Nat.lt_of_lt_of_le (hs252 q hq) (ChgS.size C526)
  replace o256 := ownL.keep o256 (fun q hq => ChgS.block C526 q (hs258 q hq) (by intro hx; have x0 := r257 q hq; have x1 := x0.1; have x2 := x0.2; have y := r208 q hx; have y1 := y.1; have y2 := y.2; omega))
  replace hs258 := fun q hq => Nat.lt_of_lt_of_le (hs258 q hq) (ChgS.size C526)
  replace o262 := ownL.keep o262 (fun q hq => ChgS.block C526 q (hs264 q hq) (by intro hx; have x0 := r263 q hq; have x1 := x0.1; have x2 := x0.2; have y := r208 q hx; have y1 := y.1; have y2 := y.2; omega))
  replace hs264 := fun q hq => Nat.lt_of_lt_of_le (hs264 q hq) (ChgS.size C526)
  replace bx_aS := Box.chg bx_aS C526 (by intro hx; have y := r208 _ hx; have y1 := y.1; have y2 := y.2; omega)
  replace bx140 := Box.chg bx140 C526 (by intro hx; have y := r208 _ hx; have y1 := y.1; have y2 := y.2; omega)
  replace bx177 := Box.chg bx177 C526 (by intro hx; have y := r208 _ hx; have y1 := y.1; have y2 := y.2; omega)
  replace bx299 := Box.chg bx299 C526 (by intro hx; have y := r208 _ hx; have y1 := y.1; have y2 := y.2; omega)
  have z531 := ChgS.size C526
  replace zb0 : W1.heap.size ≤ w525.heap.size := by omega
  replace za0 : w86.heap.size ≤ w525.heap.size := by omega
  have k532 : w525.cell? ⟨w.heap.size, 0, none⟩ = some ((Value.slice a_aS0 d_aS.heads_.length c_aS0)) := bx_aS.2 0 (by simp)
  have k533 : w525.cell? ⟨w.heap.size, 1, none⟩ = some ((Value.slice a_aS1 d_aS.descs_.length c_aS1)) := bx_aS.2 1 (by simp)
  have k534 : w525.cell? ⟨w86.heap.size, 0, none⟩ = some ((Value.slice a119 m120 c121)) := bx140.2 0 (by simp)
  have k535 : w525.cell? ⟨w86.heap.size, 1, none⟩ = some ((Value.slice a122 m123 c124)) := bx140.2 1 (by simp)
  have k536 : w525.cell? ⟨w145.heap.size, 0, none⟩ = some ((Value.slice a161 m162 c163)) := bx177.2 0 (by simp)
  have k537 : w525.cell? ⟨w145.heap.size, 1, none⟩ = some ((Value.slice a164 m165 c166)) := bx177.2 1 (by simp)
  have k538 : w525.cell? ⟨w241.heap.size, 0, none⟩ = some ((Value.slice a275 m276 c277)) := bx299.2 0 (by simp)
  have k539 : w525.cell? ⟨w241.heap.size, 1, none⟩ = some ((Value.slice a278 m279 c280)) := bx299.2 1 (by simp)
  go_wp2_with fail
  clear k532 k533 k534 k535 k536 k537 k538 k539
  have le543 := cntBoolS_le hb_aTurns
  refine (markBoolS_o S225 _ _ _ _ hs228  hb_aTurns (by omega) (by omega) o226).mono ?_
  rintro e w540 ⟨rfl, o542, C541⟩
  have t544 := below_chg t529 C541 zb0 (by intro q hx; have y := r227 q hx; have y1 := y.1; have y2 := y.2; omega)
  have s545 := below_chg s530 C541 za0 (by intro q hx; have y := r227 q hx; have y1 := y.1; have y2 := y.2; omega)
  replace o496 := ownL.keep o496 (fun q hq => ChgS.block C541 q (hs151 q hq) (by intro hx; have x0 := r150 q hq; have x1 := x0.1; have x2 := x0.2; have y := r227 q hx; have y1 := y.1; have y2 := y.2; omega))
  replace hs151 := fun q hq => Nat.lt_of_lt_of_le (hs151 q hq) (ChgS.size C541)
  replace o497 := ownL.keep o497 (fun q hq => ChgS.block C541 q (hs156 q hq) (by intro hx; have x0 := r155 q hq; have x1 := x0.1; have x2 := x0.2; have y := r227 q hx; have y1 := y.1; have y2 := y.2; omega))
  replace hs156 := fun q hq => Nat.lt_of_lt_of_le (hs156 q hq) (ChgS.size C541)
  replace o512 := ownL.keep o512 (fun q hq => ChgS.block C541 q (hs190 q hq) (by intro hx; have x0 := r189 q hq; have x1 := x0.1; have x2 := x0.2; have y := r227 q hx; have y1 := y.1; have y2 := y.2; omega))
  replace hs190 := fun q hq => Nat.lt_of_lt_of_le (hs190 q hq) (ChgS.size C541)
  replace o527 := ownL.keep o527 (fun q hq => ChgS.block C541 q (hs209 q hq) (by intro hx; have x0 := r208 q hq; have x1 := x0.1; have x2 := x0.2; have y := r227 q hx; have y1 := y.1; have y2 := y.2; omega))
  replace hs209 := fun q hq => Nat.lt_of_lt_of_le (hs209 q hq) (ChgS.size C541)
  replace hs228 := fun q hq => Nat.lt_of_lt_of_le (hs228 q hq) (ChgS.size C541)
  replace o245 := ownL.keep o245 (fun q hq => ChgS.block C541 q (hs247 q hq) (by intro hx; have x0 := r246 q hq; have x1 := x0.1; have x2 := x0.2; have y := r227 q hx; have y1 := y.1; have y2 := y.2; omega))
  replace hs247 := fun q hq => Nat.lt_of_lt_of_le (hs247 q hq) (ChgS.size C541)
  replace o250 := ownL.keep o250 (fun q hq => ChgS.block C541 q (hs252 q hq) (by intro hx; have x0 := r251 q hq; have x1 := x0.1; have x2 := x0.2; have y := r227 q hx; have y1 := y.1; have y2 := y.2; omega))
  replace hs252 := fun q hq => Nat.lt_of_lt_of_le (hs252 q hq) (ChgS.size C541)
  replace o256 := ownL.keep o256 (fun q hq => ChgS.block C541 q (hs258 q hq) (by intro hx; have x0 := r257 q hq; have x1 := x0.1; have x2 := x0.2; have y := r227 q hx; have y1 := y.1; have y2 := y.2; omega))
  replace hs258 := fun q hq => Nat.lt_of_lt_of_le (hs258 q hq) (ChgS.size C541)
  replace o262 := ownL.keep o262 (fun q hq => ChgS.block C541 q (hs264 q hq) (by intro hx; have x0 := r263 q hq; have x1 := x0.1; have x2 := x0.2; have y := r227 q hx; have y1 := y.1; have y2 := y.2; omega))
  replace hs264 := fun q hq => Nat.lt_of_lt_of_le (hs264 q hq) (ChgS.size C541)
  replace bx_aS := Box.chg bx_aS C541 (by intro hx; have y := r227 _ hx; have y1 := y.1; have y2 := y.2; omega)
  replace bx140 := Box.chg bx140 C541 (by intro hx; have y := r227 _ hx; have y1 := y.1; have y2 := y.2; omega)
  replace bx177 := Box.chg bx177 C541 (by intro hx; have y := r227 _ hx; have y1 := y.1; have y2 := y.2; omega)
  replace bx299 := Box.chg bx299 C541 (by intro hx; have y := r227 _ hx; have y1 := y.1; have y2 := y.2; omega)
  have z546 := ChgS.size C541
  replace zb0 : W1.heap.size ≤ w540.heap.size := by omega
  replace za0 : w86.heap.size ≤ w540.heap.size := by omega
  have k547 : w540.cell? ⟨w.heap.size, 0, none⟩ = some ((Value.slice a_aS0 d_aS.heads_.length c_aS0)) := bx_aS.2 0 (by simp)
  have k548 : w540.cell? ⟨w.heap.size, 1, none⟩ = some ((Value.slice a_aS1 d_aS.descs_.length c_aS1)) := bx_aS.2 1 (by simp)
  have k549 : w540.cell? ⟨w86.heap.size, 0, none⟩ = some ((Value.slice a119 m120 c121)) := bx140.2 0 (by simp)
  have k550 : w540.cell? ⟨w86.heap.size, 1, none⟩ = some ((Value.slice a122 m123 c124)) := bx140.2 1 (by simp)
  have k551 : w540.cell? ⟨w145.heap.size, 0, none⟩ = some ((Value.slice a161 m162 c163)) := bx177.2 0 (by simp)
  have k552 : w540.cell? ⟨w145.heap.size, 1, none⟩ = some ((Value.slice a164 m165 c166)) := bx177.2 1 (by simp)
  have k553 : w540.cell? ⟨w241.heap.size, 0, none⟩ = some ((Value.slice a275 m276 c277)) := bx299.2 0 (by simp)
  have k554 : w540.cell? ⟨w241.heap.size, 1, none⟩ = some ((Value.slice a278 m279 c280)) := bx299.2 1 (by simp)
  go_wp2_with fail
  clear k547 k548 k549 k550 k551 k552 k553 k554
  refine (eqStore_o _ _ _ _ _ _ (ownL.rds o245) (ownL.rds o250) (rdsL.below o90 s545) (rdsL.below o95 s545)).mono ?_
  rintro e w555 ⟨rfl, b556⟩
  have t557 := Below.trans t544 (Below.mono b556 zb0)
  have s558 := Below.trans s545 (Below.mono b556 za0)
  replace o496 := ownL.keep o496 (fun q hq => Below.block b556 q (hs151 q hq))
  replace hs151 := fun q hq => Nat.lt_of_lt_of_le (hs151 q hq) (Below.size b556)
  replace o497 := ownL.keep o497 (fun q hq => Below.block b556 q (hs156 q hq))
  replace hs156 := fun q hq => Nat.lt_of_lt_of_le (hs156 q hq) (Below.size b556)
  replace o512 := ownL.keep o512 (fun q hq => Below.block b556 q (hs190 q hq))
  replace hs190 := fun q hq => Nat.lt_of_lt_of_le (hs190 q hq) (Below.size b556)
  replace o527 := ownL.keep o527 (fun q hq => Below.block b556 q (hs209 q hq))
  replace hs209 := fun q hq => Nat.lt_of_lt_of_le (hs209 q hq) (Below.size b556)
  replace o542 := ownL.keep o542 (fun q hq => Below.block b556 q (hs228 q hq))
  replace hs228 := fun q hq => Nat.lt_of_lt_of_le (hs228 q hq) (Below.size b556)
  replace o245 := ownL.keep o245 (fun q hq => Below.block b556 q (hs247 q hq))
  replace hs247 := fun q hq => Nat.lt_of_lt_of_le (hs247 q hq) (Below.size b556)
  replace o250 := ownL.keep o250 (fun q hq => Below.block b556 q (hs252 q hq))
  replace hs252 := fun q hq => Nat.lt_of_lt_of_le (hs252 q hq) (Below.size b556)
  replace o256 := ownL.keep o256 (fun q hq => Below.block b556 q (hs258 q hq))
  replace hs258 := fun q hq => Nat.lt_of_lt_of_le (hs258 q hq) (Below.size b556)
  replace o262 := ownL.keep o262 (fun q hq => Below.block b556 q (hs264 q hq))
  replace hs264 := fun q hq => Nat.lt_of_lt_of_le (hs264 q hq) (Below.size b556)
  replace bx_aS := Box.below bx_aS b556
  replace bx140 := Box.below bx140 b556
  replace bx177 := Box.below bx177 b556
  replace bx299 := Box.below bx299 b556
  have z559 := Below.size b556
  replace zb0 : W1.heap.size ≤ w555.heap.size := by omega
  replace za0 : w86.heap.size ≤ w555.heap.size := by omega
  have k560 : w555.cell? ⟨w.heap.size, 0, none⟩ = some ((Value.slice a_aS0 d_aS.heads_.length c_aS0)) := bx_aS.2 0 (by simp)
  have k561 : w555.cell? ⟨w.heap.size, 1, none⟩ = some ((Value.slice a_aS1 d_aS.descs_.length c_aS1)) := bx_aS.2 1 (by simp)
  have k562 : w555.cell? ⟨w86.heap.size, 0, none⟩ = some ((Value.slice a119 m120 c121)) := bx140.2 0 (by simp)
  have k563 : w555.cell? ⟨w86.heap.size, 1, none⟩ = some ((Value.slice a122 m123 c124)) := bx140.2 1 (by simp)
  have k564 : w555.cell? ⟨w145.heap.size, 0, none⟩ = some ((Value.slice a161 m162 c163)) := bx177.2 0 (by simp)
  have k565 : w555.cell? ⟨w145.heap.size, 1, none⟩ = some ((Value.slice a164 m165 c166)) := bx177.2 1 (by simp)
  have k566 : w555.cell? ⟨w241.heap.size, 0, none⟩ = some ((Value.slice a275 m276 c277)) := bx299.2 0 (by simp)
  have k567 : w555.cell? ⟨w241.heap.size, 1, none⟩ = some ((Value.slice a278 m279 c280)) := bx299.2 1 (by simp)
  go_wp2_with fail
  clear k560 k561 k562 k563 k564 k565 k566 k567
  refine (eqFrameS_o _ _ _ _ (ownL.rds o256) (rdsL.below o101 s558)).mono ?_
  rintro e w568 ⟨rfl, b569⟩
  have t570 := Below.trans t557 (Below.mono b569 zb0)
  have s571 := Below.trans s558 (Below.mono b569 za0)
  replace o496 := ownL.keep o496 (fun q hq => Below.block b569 q (hs151 q hq))
  replace hs151 := fun q hq => Nat.lt_of_lt_of_le (hs151 q hq) (Below.size b569)
  replace o497 := ownL.keep o497 (fun q hq => Below.block b569 q (hs156 q hq))
  replace hs156 := fun q hq => Nat.lt_of_lt_of_le (hs156 q hq) (Below.size b569)
  replace o512 := ownL.keep o512 (fun q hq => Below.block b569 q (hs190 q hq))
  replace hs190 := fun q hq => Nat.lt_of_lt_of_le (hs190 q hq) (Below.size b569)
  replace o527 := ownL.keep o527 (fun q hq => Below.block b569 q (hs209 q hq))
  replace hs209 := fun q hq => Nat.lt_of_lt_of_le (hs209 q hq) (Below.size b569)
  replace o542 := ownL.keep o542 (fun q hq => Below.block b569 q (hs228 q hq))
  replace hs228 := fun q hq => Nat.lt_of_lt_of_le (hs228 q hq) (Below.size b569)
  replace o245 := ownL.keep o245 (fun q hq => Below.block b569 q (hs247 q hq))
  replace hs247 := fun q hq => Nat.lt_of_lt_of_le (hs247 q hq) (Below.size b569)
  replace o250 := ownL.keep o250 (fun q hq => Below.block b569 q (hs252 q hq))
  replace hs252 := fun q hq => Nat.lt_of_lt_of_le (hs252 q hq) (Below.size b569)
  replace o256 := ownL.keep o256 (fun q hq => Below.block b569 q (hs258 q hq))
  replace hs258 := fun q hq => Nat.lt_of_lt_of_le (hs258 q hq) (Below.size b569)
  replace o262 := ownL.keep o262 (fun q hq => Below.block b569 q (hs264 q hq))
  replace hs264 := fun q hq => Nat.lt_of_lt_of_le (hs264 q hq) (Below.size b569)
  replace bx_aS := Box.below bx_aS b569
  replace bx140 := Box.below bx140 b569
  replace bx177 := Box.below bx177 b569
  replace bx299 := Box.below bx299 b569
  have z572 := Below.size b569
  replace zb0 : W1.heap.size ≤ w568.heap.size := by omega
  replace za0 : w86.heap.size ≤ w568.heap.size := by omega
  have k573 : w568.cell? ⟨w.heap.size, 0, none⟩ = some ((Value.slice a_aS0 d_aS.heads_.length c_aS0)) := bx_aS.2 0 (by simp)
  have k574 : w568.cell? ⟨w.heap.size, 1, none⟩ = some ((Value.slice a_aS1 d_aS.descs_.length c_aS1)) := bx_aS.2 1 (by simp)
  have k575 : w568.cell? ⟨w86.heap.size, 0, none⟩ = some ((Value.slice a119 m120 c121)) := bx140.2 0 (by simp)
  have k576 : w568.cell? ⟨w86.heap.size, 1, none⟩ = some ((Value.slice a122 m123 c124)) := bx140.2 1 (by simp)
  have k577 : w568.cell? ⟨w145.heap.size, 0, none⟩ = some ((Value.slice a161 m162 c163)) := bx177.2 0 (by simp)
  have k578 : w568.cell? ⟨w145.heap.size, 1, none⟩ = some ((Value.slice a164 m165 c166)) := bx177.2 1 (by simp)
  have k579 : w568.cell? ⟨w241.heap.size, 0, none⟩ = some ((Value.slice a275 m276 c277)) := bx299.2 0 (by simp)
  have k580 : w568.cell? ⟨w241.heap.size, 1, none⟩ = some ((Value.slice a278 m279 c280)) := bx299.2 1 (by simp)
  go_wp2_with fail
  clear k573 k574 k575 k576 k577 k578 k579 k580
  refine (eqFrameS_o _ _ _ _ (ownL.rds o262) (rdsL.below o107 s571)).mono ?_
  rintro e w581 ⟨rfl, b582⟩
  have t583 := Below.trans t570 (Below.mono b582 zb0)
  have s584 := Below.trans s571 (Below.mono b582 za0)
  replace o496 := ownL.keep o496 (fun q hq => Below.block b582 q (hs151 q hq))
  replace hs151 := fun q hq => Nat.lt_of_lt_of_le (hs151 q hq) (Below.size b582)
  replace o497 := ownL.keep o497 (fun q hq => Below.block b582 q (hs156 q hq))
  replace hs156 := fun q hq => Nat.lt_of_lt_of_le (hs156 q hq) (Below.size b582)
  replace o512 := ownL.keep o512 (fun q hq => Below.block b582 q (hs190 q hq))
  replace hs190 := fun q hq => Nat.lt_of_lt_of_le (hs190 q hq) (Below.size b582)
  replace o527 := ownL.keep o527 (fun q hq => Below.block b582 q (hs209 q hq))
  replace hs209 := fun q hq => Nat.lt_of_lt_of_le (hs209 q hq) (Below.size b582)
  replace o542 := ownL.keep o542 (fun q hq => Below.block b582 q (hs228 q hq))
  replace hs228 := fun q hq => Nat.lt_of_lt_of_le (hs228 q hq) (Below.size b582)
  replace o245 := ownL.keep o245 (fun q hq => Below.block b582 q (hs247 q hq))
  replace hs247 := fun q hq => Nat.lt_of_lt_of_le (hs247 q hq) (Below.size b582)
  replace o250 := ownL.keep o250 (fun q hq => Below.block b582 q (hs252 q hq))
  replace hs252 := fun q hq => Nat.lt_of_lt_of_le (hs252 q hq) (Below.size b582)
  replace o256 := ownL.keep o256 (fun q hq => Below.block b582 q (hs258 q hq))
  replace hs258 := fun q hq => Nat.lt_of_lt_of_le (hs258 q hq) (Below.size b582)
  replace o262 := ownL.keep o262 (fun q hq => Below.block b582 q (hs264 q hq))
  replace hs264 := fun q hq => Nat.lt_of_lt_of_le (hs264 q hq) (Below.size b582)
  replace bx_aS := Box.below bx_aS b582
  replace bx140 := Box.below bx140 b582
  replace bx177 := Box.below bx177 b582
  replace bx299 := Box.below bx299 b582
  have z585 := Below.size b582
  replace zb0 : W1.heap.size ≤ w581.heap.size := by omega
  replace za0 : w86.heap.size ≤ w581.heap.size := by omega
  have k586 : w581.cell? ⟨w.heap.size, 0, none⟩ = some ((Value.slice a_aS0 d_aS.heads_.length c_aS0)) := bx_aS.2 0 (by simp)
  have k587 : w581.cell? ⟨w.heap.size, 1, none⟩ = some ((Value.slice a_aS1 d_aS.descs_.length c_aS1)) := bx_aS.2 1 (by simp)
  have k588 : w581.cell? ⟨w86.heap.size, 0, none⟩ = some ((Value.slice a119 m120 c121)) := bx140.2 0 (by simp)
  have k589 : w581.cell? ⟨w86.heap.size, 1, none⟩ = some ((Value.slice a122 m123 c124)) := bx140.2 1 (by simp)
  have k590 : w581.cell? ⟨w145.heap.size, 0, none⟩ = some ((Value.slice a161 m162 c163)) := bx177.2 0 (by simp)
  have k591 : w581.cell? ⟨w145.heap.size, 1, none⟩ = some ((Value.slice a164 m165 c166)) := bx177.2 1 (by simp)
  have k592 : w581.cell? ⟨w241.heap.size, 0, none⟩ = some ((Value.slice a275 m276 c277)) := bx299.2 0 (by simp)
  have k593 : w581.cell? ⟨w241.heap.size, 1, none⟩ = some ((Value.slice a278 m279 c280)) := bx299.2 1 (by simp)
  go_wp2_with fail
  clear k586 k587 k588 k589 k590 k591 k592 k593
  have le598 := cntS_le hb253
  refine (markStore_o S244 S249 _ _ _ _ _ hs247 hs252 dj266 hb253 (by omega) (by omega) o245 o250).mono ?_
  rintro e w594 ⟨rfl, o596, o597, C595⟩
  have t599 := below_chg t583 C595 zb0 (by intro q hx; rcases hx with hx | hx; (have y := r246 q hx; have y1 := y.1; have y2 := y.2; omega); (have y := r251 q hx; have y1 := y.1; have y2 := y.2; omega))
  have s600 := below_chg s584 C595 za0 (by intro q hx; rcases hx with hx | hx; (have y := r246 q hx; have y1 := y.1; have y2 := y.2; omega); (have y := r251 q hx; have y1 := y.1; have y2 := y.2; omega))
  replace o496 := ownL.keep o496 (fun q hq => ChgS.block C595 q (hs151 q hq) (by intro hx; have x0 := r150 q hq; have x1 := x0.1; have x2 := x0.2; rcases hx with hx | hx; (have y := r246 q hx; have y1 := y.1; have y2 := y.2; omega); (have y := r251 q hx; have y1 := y.1; have y2 := y.2; omega)))
  replace hs151 := fun q hq => Nat.lt_of_lt_of_le (hs151 q hq) (ChgS.size C595)
  replace o497 := ownL.keep o497 (fun q hq => ChgS.block C595 q (hs156 q hq) (by intro hx; have x0 := r155 q hq; have x1 := x0.1; have x2 := x0.2; rcases hx with hx | hx; (have y := r246 q hx; have y1 := y.1; have y2 := y.2; omega); (have y := r251 q hx; have y1 := y.1; have y2 := y.2; omega)))
  replace hs156 := fun q hq => Nat.lt_of_lt_of_le (hs156 q hq) (ChgS.size C595)
  replace o512 := ownL.keep o512 (fun q hq => ChgS.block C595 q (hs190 q hq) (by intro hx; have x0 := r189 q hq; have x1 := x0.1; have x2 := x0.2; rcases hx with hx | hx; (have y := r246 q hx; have y1 := y.1; have y2 := y.2; omega); (have y := r251 q hx; have y1 := y.1; have y2 := y.2; omega)))
  replace hs190 := fun q hq => Nat.lt_of_lt_of_le (hs190 q hq) (ChgS.size C595)
  replace o527 := ownL.keep o527 (fun q hq => ChgS.block C595 q (hs209 q hq) (by intro hx; have x0 := r208 q hq; have x1 := x0.1; have x2 := x0.2; rcases hx with hx | hx; (have y := r246 q hx; have y1 := y.1; have y2 := y.2; omega); (have y := r251 q hx; have y1 := y.1; have y2 := y.2; omega)))
  replace hs209 := fun q hq => Nat.lt_of_lt_of_le (hs209 q hq) (ChgS.size C595)
  replace o542 := ownL.keep o542 (fun q hq => ChgS.block C595 q (hs228 q hq) (by intro hx; have x0 := r227 q hq; have x1 := x0.1; have x2 := x0.2; rcases hx with hx | hx; (have y := r246 q hx; have y1 := y.1; have y2 := y.2; omega); (have y := r251 q hx; have y1 := y.1; have y2 := y.2; omega)))
  replace hs228 := fun q hq => Nat.lt_of_lt_of_le (hs228 q hq) (ChgS.size C595)
  replace hs247 := fun q hq => Nat.lt_of_lt_of_le (hs247 q hq) (ChgS.size C595)
  replace hs252 := fun q hq => Nat.lt_of_lt_of_le (hs252 q hq) (ChgS.size C595)
  replace o256 := ownL.keep o256 (fun q hq => ChgS.block C595 q (hs258 q hq) (by intro hx; have x0 := r257 q hq; have x1 := x0.1; have x2 := x0.2; rcases hx with hx | hx; (exact dj267 q hx hq); (exact dj269 q hx hq)))
  replace hs258 := fun q hq => Nat.lt_of_lt_of_le (hs258 q hq) (ChgS.size C595)
  replace o262 := ownL.keep o262 (fun q hq => ChgS.block C595 q (hs264 q hq) (by intro hx; have x0 := r263 q hq; have x1 := x0.1; have x2 := x0.2; rcases hx with hx | hx; (exact dj268 q hx hq); (exact dj270 q hx hq)))
  replace hs264 := fun q hq => Nat.lt_of_lt_of_le (hs264 q hq) (ChgS.size C595)
  replace bx_aS := Box.chg bx_aS C595 (by intro hx; rcases hx with hx | hx; (have y := r246 _ hx; have y1 := y.1; have y2 := y.2; omega); (have y := r251 _ hx; have y1 := y.1; have y2 := y.2; omega))
  replace bx140 := Box.chg bx140 C595 (by intro hx; rcases hx with hx | hx; (have y := r246 _ hx; have y1 := y.1; have y2 := y.2; omega); (have y := r251 _ hx; have y1 := y.1; have y2 := y.2; omega))
  replace bx177 := Box.chg bx177 C595 (by intro hx; rcases hx with hx | hx; (have y := r246 _ hx; have y1 := y.1; have y2 := y.2; omega); (have y := r251 _ hx; have y1 := y.1; have y2 := y.2; omega))
  replace bx299 := Box.chg bx299 C595 (by intro hx; rcases hx with hx | hx; (have y := r246 _ hx; have y1 := y.1; have y2 := y.2; omega); (have y := r251 _ hx; have y1 := y.1; have y2 := y.2; omega))
  have z601 := ChgS.size C595
  replace zb0 : W1.heap.size ≤ w594.heap.size := by omega
  replace za0 : w86.heap.size ≤ w594.heap.size := by omega
  have k602 : w594.cell? ⟨w.heap.size, 0, none⟩ = some ((Value.slice a_aS0 d_aS.heads_.length c_aS0)) := bx_aS.2 0 (by simp)
  have k603 : w594.cell? ⟨w.heap.size, 1, none⟩ = some ((Value.slice a_aS1 d_aS.descs_.length c_aS1)) := bx_aS.2 1 (by simp)
  have k604 : w594.cell? ⟨w86.heap.size, 0, none⟩ = some ((Value.slice a119 m120 c121)) := bx140.2 0 (by simp)
  have k605 : w594.cell? ⟨w86.heap.size, 1, none⟩ = some ((Value.slice a122 m123 c124)) := bx140.2 1 (by simp)
  have k606 : w594.cell? ⟨w145.heap.size, 0, none⟩ = some ((Value.slice a161 m162 c163)) := bx177.2 0 (by simp)
  have k607 : w594.cell? ⟨w145.heap.size, 1, none⟩ = some ((Value.slice a164 m165 c166)) := bx177.2 1 (by simp)
  have k608 : w594.cell? ⟨w241.heap.size, 0, none⟩ = some ((Value.slice a275 m276 c277)) := bx299.2 0 (by simp)
  have k609 : w594.cell? ⟨w241.heap.size, 1, none⟩ = some ((Value.slice a278 m279 c280)) := bx299.2 1 (by simp)
  go_wp2_with fail
  clear k602 k603 k604 k605 k606 k607 k608 k609
  have le613 := cntFrameS_le hb259
  refine (markFrameS_o S255 _ _ _ _ hs258  hb259 (by omega) (by omega) o256).mono ?_
  rintro e w610 ⟨rfl, o612, C611⟩
  have t614 := below_chg t599 C611 zb0 (by intro q hx; have y := r257 q hx; have y1 := y.1; have y2 := y.2; omega)
  have s615 := below_chg s600 C611 za0 (by intro q hx; have y := r257 q hx; have y1 := y.1; have y2 := y.2; omega)
  replace o496 := ownL.keep o496 (fun q hq => ChgS.block C611 q (hs151 q hq) (by intro hx; have x0 := r150 q hq; have x1 := x0.1; have x2 := x0.2; have y := r257 q hx; have y1 := y.1; have y2 := y.2; omega))
  replace hs151 := fun q hq => Nat.lt_of_lt_of_le (hs151 q hq) (ChgS.size C611)
  replace o497 := ownL.keep o497 (fun q hq => ChgS.block C611 q (hs156 q hq) (by intro hx; have x0 := r155 q hq; have x1 := x0.1; have x2 := x0.2; have y := r257 q hx; have y1 := y.1; have y2 := y.2; omega))
  replace hs156 := fun q hq => Nat.lt_of_lt_of_le (hs156 q hq) (ChgS.size C611)
  replace o512 := ownL.keep o512 (fun q hq => ChgS.block C611 q (hs190 q hq) (by intro hx; have x0 := r189 q hq; have x1 := x0.1; have x2 := x0.2; have y := r257 q hx; have y1 := y.1; have y2 := y.2; omega))
  replace hs190 := fun q hq => Nat.lt_of_lt_of_le (hs190 q hq) (ChgS.size C611)
  replace o527 := ownL.keep o527 (fun q hq => ChgS.block C611 q (hs209 q hq) (by intro hx; have x0 := r208 q hq; have x1 := x0.1; have x2 := x0.2; have y := r257 q hx; have y1 := y.1; have y2 := y.2; omega))
  replace hs209 := fun q hq => Nat.lt_of_lt_of_le (hs209 q hq) (ChgS.size C611)
  replace o542 := ownL.keep o542 (fun q hq => ChgS.block C611 q (hs228 q hq) (by intro hx; have x0 := r227 q hq; have x1 := x0.1; have x2 := x0.2; have y := r257 q hx; have y1 := y.1; have y2 := y.2; omega))
  replace hs228 := fun q hq => Nat.lt_of_lt_of_le (hs228 q hq) (ChgS.size C611)
  replace o596 := ownL.keep o596 (fun q hq => ChgS.block C611 q (hs247 q hq) (by intro hx; have x0 := r246 q hq; have x1 := x0.1; have x2 := x0.2; exact dj267 q hq hx))
  replace hs247 := fun q hq => Nat.lt_of_lt_of_le (hs247 q hq) (ChgS.size C611)
  replace o597 := ownL.keep o597 (fun q hq => ChgS.block C611 q (hs252 q hq) (by intro hx; have x0 := r251 q hq; have x1 := x0.1; have x2 := x0.2; exact dj269 q hq hx))
  replace hs252 := fun q hq => Nat.lt_of_lt_of_le (hs252 q hq) (ChgS.size C611)
  replace hs258 := fun q hq => Nat.lt_of_lt_of_le (hs258 q hq) (ChgS.size C611)
  replace o262 := ownL.keep o262 (fun q hq => ChgS.block C611 q (hs264 q hq) (by intro hx; have x0 := r263 q hq; have x1 := x0.1; have x2 := x0.2; exact dj271 q hx hq))
  replace hs264 := fun q hq => Nat.lt_of_lt_of_le (hs264 q hq) (ChgS.size C611)
  replace bx_aS := Box.chg bx_aS C611 (by intro hx; have y := r257 _ hx; have y1 := y.1; have y2 := y.2; omega)
  replace bx140 := Box.chg bx140 C611 (by intro hx; have y := r257 _ hx; have y1 := y.1; have y2 := y.2; omega)
  replace bx177 := Box.chg bx177 C611 (by intro hx; have y := r257 _ hx; have y1 := y.1; have y2 := y.2; omega)
  replace bx299 := Box.chg bx299 C611 (by intro hx; have y := r257 _ hx; have y1 := y.1; have y2 := y.2; omega)
  have z616 := ChgS.size C611
  replace zb0 : W1.heap.size ≤ w610.heap.size := by omega
  replace za0 : w86.heap.size ≤ w610.heap.size := by omega
  have k617 : w610.cell? ⟨w.heap.size, 0, none⟩ = some ((Value.slice a_aS0 d_aS.heads_.length c_aS0)) := bx_aS.2 0 (by simp)
  have k618 : w610.cell? ⟨w.heap.size, 1, none⟩ = some ((Value.slice a_aS1 d_aS.descs_.length c_aS1)) := bx_aS.2 1 (by simp)
  have k619 : w610.cell? ⟨w86.heap.size, 0, none⟩ = some ((Value.slice a119 m120 c121)) := bx140.2 0 (by simp)
  have k620 : w610.cell? ⟨w86.heap.size, 1, none⟩ = some ((Value.slice a122 m123 c124)) := bx140.2 1 (by simp)
  have k621 : w610.cell? ⟨w145.heap.size, 0, none⟩ = some ((Value.slice a161 m162 c163)) := bx177.2 0 (by simp)
  have k622 : w610.cell? ⟨w145.heap.size, 1, none⟩ = some ((Value.slice a164 m165 c166)) := bx177.2 1 (by simp)
  have k623 : w610.cell? ⟨w241.heap.size, 0, none⟩ = some ((Value.slice a275 m276 c277)) := bx299.2 0 (by simp)
  have k624 : w610.cell? ⟨w241.heap.size, 1, none⟩ = some ((Value.slice a278 m279 c280)) := bx299.2 1 (by simp)
  go_wp2_with fail
  clear k617 k618 k619 k620 k621 k622 k623 k624
  have le628 := cntFrameS_le hb265
  refine (markFrameS_o S261 _ _ _ _ hs264  hb265 (by omega) (by omega) o262).mono ?_
  rintro e w625 ⟨rfl, o627, C626⟩
  have t629 := below_chg t614 C626 zb0 (by intro q hx; have y := r263 q hx; have y1 := y.1; have y2 := y.2; omega)
  have s630 := below_chg s615 C626 za0 (by intro q hx; have y := r263 q hx; have y1 := y.1; have y2 := y.2; omega)
  replace o496 := ownL.keep o496 (fun q hq => ChgS.block C626 q (hs151 q hq) (by intro hx; have x0 := r150 q hq; have x1 := x0.1; have x2 := x0.2; have y := r263 q hx; have y1 := y.1; have y2 := y.2; omega))
  replace hs151 := fun q hq => Nat.lt_of_lt_of_le (hs151 q hq) (ChgS.size C626)
  replace o497 := ownL.keep o497 (fun q hq => ChgS.block C626 q (hs156 q hq) (by intro hx; have x0 := r155 q hq; have x1 := x0.1; have x2 := x0.2; have y := r263 q hx; have y1 := y.1; have y2 := y.2; omega))
  replace hs156 := fun q hq => Nat.lt_of_lt_of_le (hs156 q hq) (ChgS.size C626)
  replace o512 := ownL.keep o512 (fun q hq => ChgS.block C626 q (hs190 q hq) (by intro hx; have x0 := r189 q hq; have x1 := x0.1; have x2 := x0.2; have y := r263 q hx; have y1 := y.1; have y2 := y.2; omega))
  replace hs190 := fun q hq => Nat.lt_of_lt_of_le (hs190 q hq) (ChgS.size C626)
  replace o527 := ownL.keep o527 (fun q hq => ChgS.block C626 q (hs209 q hq) (by intro hx; have x0 := r208 q hq; have x1 := x0.1; have x2 := x0.2; have y := r263 q hx; have y1 := y.1; have y2 := y.2; omega))
  replace hs209 := fun q hq => Nat.lt_of_lt_of_le (hs209 q hq) (ChgS.size C626)
  replace o542 := ownL.keep o542 (fun q hq => ChgS.block C626 q (hs228 q hq) (by intro hx; have x0 := r227 q hq; have x1 := x0.1; have x2 := x0.2; have y := r263 q hx; have y1 := y.1; have y2 := y.2; omega))
  replace hs228 := fun q hq => Nat.lt_of_lt_of_le (hs228 q hq) (ChgS.size C626)
  replace o596 := ownL.keep o596 (fun q hq => ChgS.block C626 q (hs247 q hq) (by intro hx; have x0 := r246 q hq; have x1 := x0.1; have x2 := x0.2; exact dj268 q hq hx))
  replace hs247 := fun q hq => Nat.lt_of_lt_of_le (hs247 q hq) (ChgS.size C626)
  replace o597 := ownL.keep o597 (fun q hq => ChgS.block C626 q (hs252 q hq) (by intro hx; have x0 := r251 q hq; have x1 := x0.1; have x2 := x0.2; exact dj270 q hq hx))
  replace hs252 := fun q hq => Nat.lt_of_lt_of_le (hs252 q hq) (ChgS.size C626)
  replace o612 := ownL.keep o612 (fun q hq => ChgS.block C626 q (hs258 q hq) (by intro hx; have x0 := r257 q hq; have x1 := x0.1; have x2 := x0.2; exact dj271 q hq hx))
  replace hs258 := fun q hq => Nat.lt_of_lt_of_le (hs258 q hq) (ChgS.size C626)
  replace hs264 := fun q hq => Nat.lt_of_lt_of_le (hs264 q hq) (ChgS.size C626)
  replace bx_aS := Box.chg bx_aS C626 (by intro hx; have y := r263 _ hx; have y1 := y.1; have y2 := y.2; omega)
  replace bx140 := Box.chg bx140 C626 (by intro hx; have y := r263 _ hx; have y1 := y.1; have y2 := y.2; omega)
  replace bx177 := Box.chg bx177 C626 (by intro hx; have y := r263 _ hx; have y1 := y.1; have y2 := y.2; omega)
  replace bx299 := Box.chg bx299 C626 (by intro hx; have y := r263 _ hx; have y1 := y.1; have y2 := y.2; omega)
  have z631 := ChgS.size C626
  replace zb0 : W1.heap.size ≤ w625.heap.size := by omega
  replace za0 : w86.heap.size ≤ w625.heap.size := by omega
  have k632 : w625.cell? ⟨w.heap.size, 0, none⟩ = some ((Value.slice a_aS0 d_aS.heads_.length c_aS0)) := bx_aS.2 0 (by simp)
  have k633 : w625.cell? ⟨w.heap.size, 1, none⟩ = some ((Value.slice a_aS1 d_aS.descs_.length c_aS1)) := bx_aS.2 1 (by simp)
  have k634 : w625.cell? ⟨w86.heap.size, 0, none⟩ = some ((Value.slice a119 m120 c121)) := bx140.2 0 (by simp)
  have k635 : w625.cell? ⟨w86.heap.size, 1, none⟩ = some ((Value.slice a122 m123 c124)) := bx140.2 1 (by simp)
  have k636 : w625.cell? ⟨w145.heap.size, 0, none⟩ = some ((Value.slice a161 m162 c163)) := bx177.2 0 (by simp)
  have k637 : w625.cell? ⟨w145.heap.size, 1, none⟩ = some ((Value.slice a164 m165 c166)) := bx177.2 1 (by simp)
  have k638 : w625.cell? ⟨w241.heap.size, 0, none⟩ = some ((Value.slice a275 m276 c277)) := bx299.2 0 (by simp)
  have k639 : w625.cell? ⟨w241.heap.size, 1, none⟩ = some ((Value.slice a278 m279 c280)) := bx299.2 1 (by simp)
  go_wp2_with fail
  clear k632 k633 k634 k635 k636 k637 k638 k639
  refine (heldStore_o _ _ _ _ _ hb253 (by omega) (by omega) (ownL.rds o596) (ownL.rds o597)).mono ?_
  rintro e w640 ⟨rfl, b641⟩
  have t642 := Below.trans t629 (Below.mono b641 zb0)
  have s643 := Below.trans s630 (Below.mono b641 za0)
  replace o496 := ownL.keep o496 (fun q hq => Below.block b641 q (hs151 q hq))
  replace hs151 := fun q hq => Nat.lt_of_lt_of_le (hs151 q hq) (Below.size b641)
  replace o497 := ownL.keep o497 (fun q hq => Below.block b641 q (hs156 q hq))
  replace hs156 := fun q hq => Nat.lt_of_lt_of_le (hs156 q hq) (Below.size b641)
  replace o512 := ownL.keep o512 (fun q hq => Below.block b641 q (hs190 q hq))
  replace hs190 := fun q hq => Nat.lt_of_lt_of_le (hs190 q hq) (Below.size b641)
  replace o527 := ownL.keep o527 (fun q hq => Below.block b641 q (hs209 q hq))
  replace hs209 := fun q hq => Nat.lt_of_lt_of_le (hs209 q hq) (Below.size b641)
  replace o542 := ownL.keep o542 (fun q hq => Below.block b641 q (hs228 q hq))
  replace hs228 := fun q hq => Nat.lt_of_lt_of_le (hs228 q hq) (Below.size b641)
  replace o596 := ownL.keep o596 (fun q hq => Below.block b641 q (hs247 q hq))
  replace hs247 := fun q hq => Nat.lt_of_lt_of_le (hs247 q hq) (Below.size b641)
  replace o597 := ownL.keep o597 (fun q hq => Below.block b641 q (hs252 q hq))
  replace hs252 := fun q hq => Nat.lt_of_lt_of_le (hs252 q hq) (Below.size b641)
  replace o612 := ownL.keep o612 (fun q hq => Below.block b641 q (hs258 q hq))
  replace hs258 := fun q hq => Nat.lt_of_lt_of_le (hs258 q hq) (Below.size b641)
  replace o627 := ownL.keep o627 (fun q hq => Below.block b641 q (hs264 q hq))
  replace hs264 := fun q hq => Nat.lt_of_lt_of_le (hs264 q hq) (Below.size b641)
  replace bx_aS := Box.below bx_aS b641
  replace bx140 := Box.below bx140 b641
  replace bx177 := Box.below bx177 b641
  replace bx299 := Box.below bx299 b641
  have z644 := Below.size b641
  replace zb0 : W1.heap.size ≤ w640.heap.size := by omega
  replace za0 : w86.heap.size ≤ w640.heap.size := by omega
  have k645 : w640.cell? ⟨w.heap.size, 0, none⟩ = some ((Value.slice a_aS0 d_aS.heads_.length c_aS0)) := bx_aS.2 0 (by simp)
  have k646 : w640.cell? ⟨w.heap.size, 1, none⟩ = some ((Value.slice a_aS1 d_aS.descs_.length c_aS1)) := bx_aS.2 1 (by simp)
  have k647 : w640.cell? ⟨w86.heap.size, 0, none⟩ = some ((Value.slice a119 m120 c121)) := bx140.2 0 (by simp)
  have k648 : w640.cell? ⟨w86.heap.size, 1, none⟩ = some ((Value.slice a122 m123 c124)) := bx140.2 1 (by simp)
  have k649 : w640.cell? ⟨w145.heap.size, 0, none⟩ = some ((Value.slice a161 m162 c163)) := bx177.2 0 (by simp)
  have k650 : w640.cell? ⟨w145.heap.size, 1, none⟩ = some ((Value.slice a164 m165 c166)) := bx177.2 1 (by simp)
  have k651 : w640.cell? ⟨w241.heap.size, 0, none⟩ = some ((Value.slice a275 m276 c277)) := bx299.2 0 (by simp)
  have k652 : w640.cell? ⟨w241.heap.size, 1, none⟩ = some ((Value.slice a278 m279 c280)) := bx299.2 1 (by simp)
  go_wp2_with fail
  clear k645 k646 k647 k648 k649 k650 k651 k652
  refine (heldFrameS_o _ _ _ _ hb259 (by omega) (by omega) (ownL.rds o612)).mono ?_
  rintro e w653 ⟨rfl, b654⟩
  have t655 := Below.trans t642 (Below.mono b654 zb0)
  have s656 := Below.trans s643 (Below.mono b654 za0)
  replace o496 := ownL.keep o496 (fun q hq => Below.block b654 q (hs151 q hq))
  replace hs151 := fun q hq => Nat.lt_of_lt_of_le (hs151 q hq) (Below.size b654)
  replace o497 := ownL.keep o497 (fun q hq => Below.block b654 q (hs156 q hq))
  replace hs156 := fun q hq => Nat.lt_of_lt_of_le (hs156 q hq) (Below.size b654)
  replace o512 := ownL.keep o512 (fun q hq => Below.block b654 q (hs190 q hq))
  replace hs190 := fun q hq => Nat.lt_of_lt_of_le (hs190 q hq) (Below.size b654)
  replace o527 := ownL.keep o527 (fun q hq => Below.block b654 q (hs209 q hq))
  replace hs209 := fun q hq => Nat.lt_of_lt_of_le (hs209 q hq) (Below.size b654)
  replace o542 := ownL.keep o542 (fun q hq => Below.block b654 q (hs228 q hq))
  replace hs228 := fun q hq => Nat.lt_of_lt_of_le (hs228 q hq) (Below.size b654)
  replace o596 := ownL.keep o596 (fun q hq => Below.block b654 q (hs247 q hq))
  replace hs247 := fun q hq => Nat.lt_of_lt_of_le (hs247 q hq) (Below.size b654)
  replace o597 := ownL.keep o597 (fun q hq => Below.block b654 q (hs252 q hq))
  replace hs252 := fun q hq => Nat.lt_of_lt_of_le (hs252 q hq) (Below.size b654)
  replace o612 := ownL.keep o612 (fun q hq => Below.block b654 q (hs258 q hq))
  replace hs258 := fun q hq => Nat.lt_of_lt_of_le (hs258 q hq) (Below.size b654)
  replace o627 := ownL.keep o627 (fun q hq => Below.block b654 q (hs264 q hq))
  replace hs264 := fun q hq => Nat.lt_of_lt_of_le (hs264 q hq) (Below.size b654)
  replace bx_aS := Box.below bx_aS b654
  replace bx140 := Box.below bx140 b654
  replace bx177 := Box.below bx177 b654
  replace bx299 := Box.below bx299 b654
  have z657 := Below.size b654
  replace zb0 : W1.heap.size ≤ w653.heap.size := by omega
  replace za0 : w86.heap.size ≤ w653.heap.size := by omega
  have k658 : w653.cell? ⟨w.heap.size, 0, none⟩ = some ((Value.slice a_aS0 d_aS.heads_.length c_aS0)) := bx_aS.2 0 (by simp)
  have k659 : w653.cell? ⟨w.heap.size, 1, none⟩ = some ((Value.slice a_aS1 d_aS.descs_.length c_aS1)) := bx_aS.2 1 (by simp)
  have k660 : w653.cell? ⟨w86.heap.size, 0, none⟩ = some ((Value.slice a119 m120 c121)) := bx140.2 0 (by simp)
  have k661 : w653.cell? ⟨w86.heap.size, 1, none⟩ = some ((Value.slice a122 m123 c124)) := bx140.2 1 (by simp)
  have k662 : w653.cell? ⟨w145.heap.size, 0, none⟩ = some ((Value.slice a161 m162 c163)) := bx177.2 0 (by simp)
  have k663 : w653.cell? ⟨w145.heap.size, 1, none⟩ = some ((Value.slice a164 m165 c166)) := bx177.2 1 (by simp)
  have k664 : w653.cell? ⟨w241.heap.size, 0, none⟩ = some ((Value.slice a275 m276 c277)) := bx299.2 0 (by simp)
  have k665 : w653.cell? ⟨w241.heap.size, 1, none⟩ = some ((Value.slice a278 m279 c280)) := bx299.2 1 (by simp)
  go_wp2_with fail
  clear k658 k659 k660 k661 k662 k663 k664 k665
  refine (heldFrameS_o _ _ _ _ hb265 (by omega) (by omega) (ownL.rds o627)).mono ?_
  rintro e w666 ⟨rfl, b667⟩
  have t668 := Below.trans t655 (Below.mono b667 zb0)
  have s669 := Below.trans s656 (Below.mono b667 za0)
  replace o496 := ownL.keep o496 (fun q hq => Below.block b667 q (hs151 q hq))
  replace hs151 := fun q hq => Nat.lt_of_lt_of_le (hs151 q hq) (Below.size b667)
  replace o497 := ownL.keep o497 (fun q hq => Below.block b667 q (hs156 q hq))
  replace hs156 := fun q hq => Nat.lt_of_lt_of_le (hs156 q hq) (Below.size b667)
  replace o512 := ownL.keep o512 (fun q hq => Below.block b667 q (hs190 q hq))
  replace hs190 := fun q hq => Nat.lt_of_lt_of_le (hs190 q hq) (Below.size b667)
  replace o527 := ownL.keep o527 (fun q hq => Below.block b667 q (hs209 q hq))
  replace hs209 := fun q hq => Nat.lt_of_lt_of_le (hs209 q hq) (Below.size b667)
  replace o542 := ownL.keep o542 (fun q hq => Below.block b667 q (hs228 q hq))
  replace hs228 := fun q hq => Nat.lt_of_lt_of_le (hs228 q hq) (Below.size b667)
  replace o596 := ownL.keep o596 (fun q hq => Below.block b667 q (hs247 q hq))
  replace hs247 := fun q hq => Nat.lt_of_lt_of_le (hs247 q hq) (Below.size b667)
  replace o597 := ownL.keep o597 (fun q hq => Below.block b667 q (hs252 q hq))
  replace hs252 := fun q hq => Nat.lt_of_lt_of_le (hs252 q hq) (Below.size b667)
  replace o612 := ownL.keep o612 (fun q hq => Below.block b667 q (hs258 q hq))
  replace hs258 := fun q hq => Nat.lt_of_lt_of_le (hs258 q hq) (Below.size b667)
  replace o627 := ownL.keep o627 (fun q hq => Below.block b667 q (hs264 q hq))
  replace hs264 := fun q hq => Nat.lt_of_lt_of_le (hs264 q hq) (Below.size b667)
  replace bx_aS := Box.below bx_aS b667
  replace bx140 := Box.below bx140 b667
  replace bx177 := Box.below bx177 b667
  replace bx299 := Box.below bx299 b667
  have z670 := Below.size b667
  replace zb0 : W1.heap.size ≤ w666.heap.size := by omega
  replace za0 : w86.heap.size ≤ w666.heap.size := by omega
  have k671 : w666.cell? ⟨w.heap.size, 0, none⟩ = some ((Value.slice a_aS0 d_aS.heads_.length c_aS0)) := bx_aS.2 0 (by simp)
  have k672 : w666.cell? ⟨w.heap.size, 1, none⟩ = some ((Value.slice a_aS1 d_aS.descs_.length c_aS1)) := bx_aS.2 1 (by simp)
  have k673 : w666.cell? ⟨w86.heap.size, 0, none⟩ = some ((Value.slice a119 m120 c121)) := bx140.2 0 (by simp)
  have k674 : w666.cell? ⟨w86.heap.size, 1, none⟩ = some ((Value.slice a122 m123 c124)) := bx140.2 1 (by simp)
  have k675 : w666.cell? ⟨w145.heap.size, 0, none⟩ = some ((Value.slice a161 m162 c163)) := bx177.2 0 (by simp)
  have k676 : w666.cell? ⟨w145.heap.size, 1, none⟩ = some ((Value.slice a164 m165 c166)) := bx177.2 1 (by simp)
  have k677 : w666.cell? ⟨w241.heap.size, 0, none⟩ = some ((Value.slice a275 m276 c277)) := bx299.2 0 (by simp)
  have k678 : w666.cell? ⟨w241.heap.size, 1, none⟩ = some ((Value.slice a278 m279 c280)) := bx299.2 1 (by simp)
  go_wp2_with fail
  clear k671 k672 k673 k674 k675 k676 k677 k678
  refine (toStore_o d_aS (Value.slice a_aS0 d_aS.heads_.length c_aS0) (Value.slice a_aS1 d_aS.descs_.length c_aS1) _ (rdsL.below h_aS0 t668) (rdsL.below h_aS1 t668) hb_aS).mono ?_
  rintro e w679 ⟨u681, u686, S682, S687, rfl, o683, o688, r684, r689, dj691, b680⟩
  have t692 := Below.trans t668 (Below.mono b680 zb0)
  have s693 := Below.trans s669 (Below.mono b680 za0)
  replace o496 := ownL.keep o496 (fun q hq => Below.block b680 q (hs151 q hq))
  replace hs151 := fun q hq => Nat.lt_of_lt_of_le (hs151 q hq) (Below.size b680)
  replace o497 := ownL.keep o497 (fun q hq => Below.block b680 q (hs156 q hq))
  replace hs156 := fun q hq => Nat.lt_of_lt_of_le (hs156 q hq) (Below.size b680)
  replace o512 := ownL.keep o512 (fun q hq => Below.block b680 q (hs190 q hq))
  replace hs190 := fun q hq => Nat.lt_of_lt_of_le (hs190 q hq) (Below.size b680)
  replace o527 := ownL.keep o527 (fun q hq => Below.block b680 q (hs209 q hq))
  replace hs209 := fun q hq => Nat.lt_of_lt_of_le (hs209 q hq) (Below.size b680)
  replace o542 := ownL.keep o542 (fun q hq => Below.block b680 q (hs228 q hq))
  replace hs228 := fun q hq => Nat.lt_of_lt_of_le (hs228 q hq) (Below.size b680)
  replace o596 := ownL.keep o596 (fun q hq => Below.block b680 q (hs247 q hq))
  replace hs247 := fun q hq => Nat.lt_of_lt_of_le (hs247 q hq) (Below.size b680)
  replace o597 := ownL.keep o597 (fun q hq => Below.block b680 q (hs252 q hq))
  replace hs252 := fun q hq => Nat.lt_of_lt_of_le (hs252 q hq) (Below.size b680)
  replace o612 := ownL.keep o612 (fun q hq => Below.block b680 q (hs258 q hq))
  replace hs258 := fun q hq => Nat.lt_of_lt_of_le (hs258 q hq) (Below.size b680)
  replace o627 := ownL.keep o627 (fun q hq => Below.block b680 q (hs264 q hq))
  replace hs264 := fun q hq => Nat.lt_of_lt_of_le (hs264 q hq) (Below.size b680)
  replace bx_aS := Box.below bx_aS b680
  replace bx140 := Box.below bx140 b680
  replace bx177 := Box.below bx177 b680
  replace bx299 := Box.below bx299 b680
  have z694 := Below.size b680
  replace zb0 : W1.heap.size ≤ w679.heap.size := by omega
  replace za0 : w86.heap.size ≤ w679.heap.size := by omega
  obtain ⟨a695, m696, c697, rfl⟩ := ownL_shape o683
  have hs685 := fun q hq => (r684 q hq).2
  obtain ⟨a698, m699, c700, rfl⟩ := ownL_shape o688
  have hs690 := fun q hq => (r689 q hq).2
  have k701 : w679.cell? ⟨w.heap.size, 0, none⟩ = some ((Value.slice a_aS0 d_aS.heads_.length c_aS0)) := bx_aS.2 0 (by simp)
  have k702 : w679.cell? ⟨w.heap.size, 1, none⟩ = some ((Value.slice a_aS1 d_aS.descs_.length c_aS1)) := bx_aS.2 1 (by simp)
  have k703 : w679.cell? ⟨w86.heap.size, 0, none⟩ = some ((Value.slice a119 m120 c121)) := bx140.2 0 (by simp)
  have k704 : w679.cell? ⟨w86.heap.size, 1, none⟩ = some ((Value.slice a122 m123 c124)) := bx140.2 1 (by simp)
  have k705 : w679.cell? ⟨w145.heap.size, 0, none⟩ = some ((Value.slice a161 m162 c163)) := bx177.2 0 (by simp)
  have k706 : w679.cell? ⟨w145.heap.size, 1, none⟩ = some ((Value.slice a164 m165 c166)) := bx177.2 1 (by simp)
  have k707 : w679.cell? ⟨w241.heap.size, 0, none⟩ = some ((Value.slice a275 m276 c277)) := bx299.2 0 (by simp)
  have k708 : w679.cell? ⟨w241.heap.size, 1, none⟩ = some ((Value.slice a278 m279 c280)) := bx299.2 1 (by simp)
  go_wp2_with fail
  clear k701 k702 k703 k704 k705 k706 k707 k708
  refine (toFrameS_o d_aA (Value.slice a_aA0 d_aA.length c_aA0) _ (rdsL.below h_aA0 t692) hb_aA).mono ?_
  rintro e w709 ⟨u711, S712, rfl, o713, r714, b710⟩
  have t716 := Below.trans t692 (Below.mono b710 zb0)
  have s717 := Below.trans s693 (Below.mono b710 za0)
  replace o496 := ownL.keep o496 (fun q hq => Below.block b710 q (hs151 q hq))
  replace hs151 := fun q hq => Nat.lt_of_lt_of_le (hs151 q hq) (Below.size b710)
  replace o497 := ownL.keep o497 (fun q hq => Below.block b710 q (hs156 q hq))
  replace hs156 := fun q hq => Nat.lt_of_lt_of_le (hs156 q hq) (Below.size b710)
  replace o512 := ownL.keep o512 (fun q hq => Below.block b710 q (hs190 q hq))
  replace hs190 := fun q hq => Nat.lt_of_lt_of_le (hs190 q hq) (Below.size b710)
  replace o527 := ownL.keep o527 (fun q hq => Below.block b710 q (hs209 q hq))
  replace hs209 := fun q hq => Nat.lt_of_lt_of_le (hs209 q hq) (Below.size b710)
  replace o542 := ownL.keep o542 (fun q hq => Below.block b710 q (hs228 q hq))
  replace hs228 := fun q hq => Nat.lt_of_lt_of_le (hs228 q hq) (Below.size b710)
  replace o596 := ownL.keep o596 (fun q hq => Below.block b710 q (hs247 q hq))
  replace hs247 := fun q hq => Nat.lt_of_lt_of_le (hs247 q hq) (Below.size b710)
  replace o597 := ownL.keep o597 (fun q hq => Below.block b710 q (hs252 q hq))
  replace hs252 := fun q hq => Nat.lt_of_lt_of_le (hs252 q hq) (Below.size b710)
  replace o612 := ownL.keep o612 (fun q hq => Below.block b710 q (hs258 q hq))
  replace hs258 := fun q hq => Nat.lt_of_lt_of_le (hs258 q hq) (Below.size b710)
  replace o627 := ownL.keep o627 (fun q hq => Below.block b710 q (hs264 q hq))
  replace hs264 := fun q hq => Nat.lt_of_lt_of_le (hs264 q hq) (Below.size b710)
  replace o683 := ownL.keep o683 (fun q hq => Below.block b710 q (hs685 q hq))
  replace hs685 := fun q hq => Nat.lt_of_lt_of_le (hs685 q hq) (Below.size b710)
  replace o688 := ownL.keep o688 (fun q hq => Below.block b710 q (hs690 q hq))
  replace hs690 := fun q hq => Nat.lt_of_lt_of_le (hs690 q hq) (Below.size b710)
  replace bx_aS := Box.below bx_aS b710
  replace bx140 := Box.below bx140 b710
  replace bx177 := Box.below bx177 b710
  replace bx299 := Box.below bx299 b710
  have z718 := Below.size b710
  replace zb0 : W1.heap.size ≤ w709.heap.size := by omega
  replace za0 : w86.heap.size ≤ w709.heap.size := by omega
  obtain ⟨a719, m720, c721, rfl⟩ := ownL_shape o713
  have hs715 := fun q hq => (r714 q hq).2
  have k722 : w709.cell? ⟨w.heap.size, 0, none⟩ = some ((Value.slice a_aS0 d_aS.heads_.length c_aS0)) := bx_aS.2 0 (by simp)
  have k723 : w709.cell? ⟨w.heap.size, 1, none⟩ = some ((Value.slice a_aS1 d_aS.descs_.length c_aS1)) := bx_aS.2 1 (by simp)
  have k724 : w709.cell? ⟨w86.heap.size, 0, none⟩ = some ((Value.slice a119 m120 c121)) := bx140.2 0 (by simp)
  have k725 : w709.cell? ⟨w86.heap.size, 1, none⟩ = some ((Value.slice a122 m123 c124)) := bx140.2 1 (by simp)
  have k726 : w709.cell? ⟨w145.heap.size, 0, none⟩ = some ((Value.slice a161 m162 c163)) := bx177.2 0 (by simp)
  have k727 : w709.cell? ⟨w145.heap.size, 1, none⟩ = some ((Value.slice a164 m165 c166)) := bx177.2 1 (by simp)
  have k728 : w709.cell? ⟨w241.heap.size, 0, none⟩ = some ((Value.slice a275 m276 c277)) := bx299.2 0 (by simp)
  have k729 : w709.cell? ⟨w241.heap.size, 1, none⟩ = some ((Value.slice a278 m279 c280)) := bx299.2 1 (by simp)
  go_wp2_with fail
  clear k722 k723 k724 k725 k726 k727 k728 k729
  refine (toFrameS_o d_aB (Value.slice a_aB0 d_aB.length c_aB0) _ (rdsL.below h_aB0 t716) hb_aB).mono ?_
  rintro e w730 ⟨u732, S733, rfl, o734, r735, b731⟩
  have t737 := Below.trans t716 (Below.mono b731 zb0)
  have s738 := Below.trans s717 (Below.mono b731 za0)
  replace o496 := ownL.keep o496 (fun q hq => Below.block b731 q (hs151 q hq))
  replace hs151 := fun q hq => Nat.lt_of_lt_of_le (hs151 q hq) (Below.size b731)
  replace o497 := ownL.keep o497 (fun q hq => Below.block b731 q (hs156 q hq))
  replace hs156 := fun q hq => Nat.lt_of_lt_of_le (hs156 q hq) (Below.size b731)
  replace o512 := ownL.keep o512 (fun q hq => Below.block b731 q (hs190 q hq))
  replace hs190 := fun q hq => Nat.lt_of_lt_of_le (hs190 q hq) (Below.size b731)
  replace o527 := ownL.keep o527 (fun q hq => Below.block b731 q (hs209 q hq))
  replace hs209 := fun q hq => Nat.lt_of_lt_of_le (hs209 q hq) (Below.size b731)
  replace o542 := ownL.keep o542 (fun q hq => Below.block b731 q (hs228 q hq))
  replace hs228 := fun q hq => Nat.lt_of_lt_of_le (hs228 q hq) (Below.size b731)
  replace o596 := ownL.keep o596 (fun q hq => Below.block b731 q (hs247 q hq))
  replace hs247 := fun q hq => Nat.lt_of_lt_of_le (hs247 q hq) (Below.size b731)
  replace o597 := ownL.keep o597 (fun q hq => Below.block b731 q (hs252 q hq))
  replace hs252 := fun q hq => Nat.lt_of_lt_of_le (hs252 q hq) (Below.size b731)
  replace o612 := ownL.keep o612 (fun q hq => Below.block b731 q (hs258 q hq))
  replace hs258 := fun q hq => Nat.lt_of_lt_of_le (hs258 q hq) (Below.size b731)
  replace o627 := ownL.keep o627 (fun q hq => Below.block b731 q (hs264 q hq))
  replace hs264 := fun q hq => Nat.lt_of_lt_of_le (hs264 q hq) (Below.size b731)
  replace o683 := ownL.keep o683 (fun q hq => Below.block b731 q (hs685 q hq))
  replace hs685 := fun q hq => Nat.lt_of_lt_of_le (hs685 q hq) (Below.size b731)
  replace o688 := ownL.keep o688 (fun q hq => Below.block b731 q (hs690 q hq))
  replace hs690 := fun q hq => Nat.lt_of_lt_of_le (hs690 q hq) (Below.size b731)
  replace o713 := ownL.keep o713 (fun q hq => Below.block b731 q (hs715 q hq))
  replace hs715 := fun q hq => Nat.lt_of_lt_of_le (hs715 q hq) (Below.size b731)
  replace bx_aS := Box.below bx_aS b731
  replace bx140 := Box.below bx140 b731
  replace bx177 := Box.below bx177 b731
  replace bx299 := Box.below bx299 b731
  have z739 := Below.size b731
  replace zb0 : W1.heap.size ≤ w730.heap.size := by omega
  replace za0 : w86.heap.size ≤ w730.heap.size := by omega
  obtain ⟨a740, m741, c742, rfl⟩ := ownL_shape o734
  have hs736 := fun q hq => (r735 q hq).2
  have k743 : w730.cell? ⟨w.heap.size, 0, none⟩ = some ((Value.slice a_aS0 d_aS.heads_.length c_aS0)) := bx_aS.2 0 (by simp)
  have k744 : w730.cell? ⟨w.heap.size, 1, none⟩ = some ((Value.slice a_aS1 d_aS.descs_.length c_aS1)) := bx_aS.2 1 (by simp)
  have k745 : w730.cell? ⟨w86.heap.size, 0, none⟩ = some ((Value.slice a119 m120 c121)) := bx140.2 0 (by simp)
  have k746 : w730.cell? ⟨w86.heap.size, 1, none⟩ = some ((Value.slice a122 m123 c124)) := bx140.2 1 (by simp)
  have k747 : w730.cell? ⟨w145.heap.size, 0, none⟩ = some ((Value.slice a161 m162 c163)) := bx177.2 0 (by simp)
  have k748 : w730.cell? ⟨w145.heap.size, 1, none⟩ = some ((Value.slice a164 m165 c166)) := bx177.2 1 (by simp)
  have k749 : w730.cell? ⟨w241.heap.size, 0, none⟩ = some ((Value.slice a275 m276 c277)) := bx299.2 0 (by simp)
  have k750 : w730.cell? ⟨w241.heap.size, 1, none⟩ = some ((Value.slice a278 m279 c280)) := bx299.2 1 (by simp)
  go_wp2_with fail
  clear k743 k744 k745 k746 k747 k748 k749 k750
  refine (toBoolS_o d_aTurns (Value.slice a_aTurns0 d_aTurns.length c_aTurns0) _ (rdsL.below h_aTurns0 t737) hb_aTurns).mono ?_
  rintro e w751 ⟨u753, S754, rfl, o755, r756, b752⟩
  have t758 := Below.trans t737 (Below.mono b752 zb0)
  have s759 := Below.trans s738 (Below.mono b752 za0)
  replace o496 := ownL.keep o496 (fun q hq => Below.block b752 q (hs151 q hq))
  replace hs151 := fun q hq => Nat.lt_of_lt_of_le (hs151 q hq) (Below.size b752)
  replace o497 := ownL.keep o497 (fun q hq => Below.block b752 q (hs156 q hq))
  replace hs156 := fun q hq => Nat.lt_of_lt_of_le (hs156 q hq) (Below.size b752)
  replace o512 := ownL.keep o512 (fun q hq => Below.block b752 q (hs190 q hq))
  replace hs190 := fun q hq => Nat.lt_of_lt_of_le (hs190 q hq) (Below.size b752)
  replace o527 := ownL.keep o527 (fun q hq => Below.block b752 q (hs209 q hq))
  replace hs209 := fun q hq => Nat.lt_of_lt_of_le (hs209 q hq) (Below.size b752)
  replace o542 := ownL.keep o542 (fun q hq => Below.block b752 q (hs228 q hq))
  replace hs228 := fun q hq => Nat.lt_of_lt_of_le (hs228 q hq) (Below.size b752)
  replace o596 := ownL.keep o596 (fun q hq => Below.block b752 q (hs247 q hq))
  replace hs247 := fun q hq => Nat.lt_of_lt_of_le (hs247 q hq) (Below.size b752)
  replace o597 := ownL.keep o597 (fun q hq => Below.block b752 q (hs252 q hq))
  replace hs252 := fun q hq => Nat.lt_of_lt_of_le (hs252 q hq) (Below.size b752)
  replace o612 := ownL.keep o612 (fun q hq => Below.block b752 q (hs258 q hq))
  replace hs258 := fun q hq => Nat.lt_of_lt_of_le (hs258 q hq) (Below.size b752)
  replace o627 := ownL.keep o627 (fun q hq => Below.block b752 q (hs264 q hq))
  replace hs264 := fun q hq => Nat.lt_of_lt_of_le (hs264 q hq) (Below.size b752)
  replace o683 := ownL.keep o683 (fun q hq => Below.block b752 q (hs685 q hq))
  replace hs685 := fun q hq => Nat.lt_of_lt_of_le (hs685 q hq) (Below.size b752)
  replace o688 := ownL.keep o688 (fun q hq => Below.block b752 q (hs690 q hq))
  replace hs690 := fun q hq => Nat.lt_of_lt_of_le (hs690 q hq) (Below.size b752)
  replace o713 := ownL.keep o713 (fun q hq => Below.block b752 q (hs715 q hq))
  replace hs715 := fun q hq => Nat.lt_of_lt_of_le (hs715 q hq) (Below.size b752)
  replace o734 := ownL.keep o734 (fun q hq => Below.block b752 q (hs736 q hq))
  replace hs736 := fun q hq => Nat.lt_of_lt_of_le (hs736 q hq) (Below.size b752)
  replace bx_aS := Box.below bx_aS b752
  replace bx140 := Box.below bx140 b752
  replace bx177 := Box.below bx177 b752
  replace bx299 := Box.below bx299 b752
  have z760 := Below.size b752
  replace zb0 : W1.heap.size ≤ w751.heap.size := by omega
  replace za0 : w86.heap.size ≤ w751.heap.size := by omega
  obtain ⟨a761, m762, c763, rfl⟩ := ownL_shape o755
  have hs757 := fun q hq => (r756 q hq).2
  have k764 : w751.cell? ⟨w.heap.size, 0, none⟩ = some ((Value.slice a_aS0 d_aS.heads_.length c_aS0)) := bx_aS.2 0 (by simp)
  have k765 : w751.cell? ⟨w.heap.size, 1, none⟩ = some ((Value.slice a_aS1 d_aS.descs_.length c_aS1)) := bx_aS.2 1 (by simp)
  have k766 : w751.cell? ⟨w86.heap.size, 0, none⟩ = some ((Value.slice a119 m120 c121)) := bx140.2 0 (by simp)
  have k767 : w751.cell? ⟨w86.heap.size, 1, none⟩ = some ((Value.slice a122 m123 c124)) := bx140.2 1 (by simp)
  have k768 : w751.cell? ⟨w145.heap.size, 0, none⟩ = some ((Value.slice a161 m162 c163)) := bx177.2 0 (by simp)
  have k769 : w751.cell? ⟨w145.heap.size, 1, none⟩ = some ((Value.slice a164 m165 c166)) := bx177.2 1 (by simp)
  have k770 : w751.cell? ⟨w241.heap.size, 0, none⟩ = some ((Value.slice a275 m276 c277)) := bx299.2 0 (by simp)
  have k771 : w751.cell? ⟨w241.heap.size, 1, none⟩ = some ((Value.slice a278 m279 c280)) := bx299.2 1 (by simp)
  go_wp2_with fail
  clear k764 k765 k766 k767 k768 k769 k770 k771
  refine (impl_TogetherW d_aS (Value.slice a695 m696 c697) (Value.slice a698 m699 c700) d_aA (Value.slice a719 m720 c721) d_aB (Value.slice a740 m741 c742) d_aTurns (Value.slice a761 m762 c763) _ (ownL.rds o683) (ownL.rds o688) hb_aS (ownL.rds o713) hb_aA (ownL.rds o734) hb_aB (ownL.rds o755) hb_aTurns).mono ?_
  rintro e w772 ⟨u774, u779, u785, u791, S775, S780, S786, S792, rfl, o776, o781, o787, o793, r777, r782, r788, r794, dj797, dj798, dj799, dj800, dj801, dj802, hb784, hb790, hb796, b773⟩
  have t803 := Below.trans t758 (Below.mono b773 zb0)
  have s804 := Below.trans s759 (Below.mono b773 za0)
  replace o496 := ownL.keep o496 (fun q hq => Below.block b773 q (hs151 q hq))
  replace hs151 := fun q hq => Nat.lt_of_lt_of_le (hs151 q hq) (Below.size b773)
  replace o497 := ownL.keep o497 (fun q hq => Below.block b773 q (hs156 q hq))
  replace hs156 := fun q hq => Nat.lt_of_lt_of_le (hs156 q hq) (Below.size b773)
  replace o512 := ownL.keep o512 (fun q hq => Below.block b773 q (hs190 q hq))
  replace hs190 := fun q hq => Nat.lt_of_lt_of_le (hs190 q hq) (Below.size b773)
  replace o527 := ownL.keep o527 (fun q hq => Below.block b773 q (hs209 q hq))
  replace hs209 := fun q hq => Nat.lt_of_lt_of_le (hs209 q hq) (Below.size b773)
  replace o542 := ownL.keep o542 (fun q hq => Below.block b773 q (hs228 q hq))
  replace hs228 := fun q hq => Nat.lt_of_lt_of_le (hs228 q hq) (Below.size b773)
  replace o596 := ownL.keep o596 (fun q hq => Below.block b773 q (hs247 q hq))
  replace hs247 := fun q hq => Nat.lt_of_lt_of_le (hs247 q hq) (Below.size b773)
  replace o597 := ownL.keep o597 (fun q hq => Below.block b773 q (hs252 q hq))
  replace hs252 := fun q hq => Nat.lt_of_lt_of_le (hs252 q hq) (Below.size b773)
  replace o612 := ownL.keep o612 (fun q hq => Below.block b773 q (hs258 q hq))
  replace hs258 := fun q hq => Nat.lt_of_lt_of_le (hs258 q hq) (Below.size b773)
  replace o627 := ownL.keep o627 (fun q hq => Below.block b773 q (hs264 q hq))
  replace hs264 := fun q hq => Nat.lt_of_lt_of_le (hs264 q hq) (Below.size b773)
  replace bx_aS := Box.below bx_aS b773
  replace bx140 := Box.below bx140 b773
  replace bx177 := Box.below bx177 b773
  replace bx299 := Box.below bx299 b773
  have z805 := Below.size b773
  replace zb0 : W1.heap.size ≤ w772.heap.size := by omega
  replace za0 : w86.heap.size ≤ w772.heap.size := by omega
  obtain ⟨a806, m807, c808, rfl⟩ := ownL_shape o776
  have hs778 := fun q hq => (r777 q hq).2
  obtain ⟨a809, m810, c811, rfl⟩ := ownL_shape o781
  have hs783 := fun q hq => (r782 q hq).2
  obtain ⟨a812, m813, c814, rfl⟩ := ownL_shape o787
  have hs789 := fun q hq => (r788 q hq).2
  obtain ⟨a815, m816, c817, rfl⟩ := ownL_shape o793
  have hs795 := fun q hq => (r794 q hq).2
  have k818 : w772.cell? ⟨w.heap.size, 0, none⟩ = some ((Value.slice a_aS0 d_aS.heads_.length c_aS0)) := bx_aS.2 0 (by simp)
  have k819 : w772.cell? ⟨w.heap.size, 1, none⟩ = some ((Value.slice a_aS1 d_aS.descs_.length c_aS1)) := bx_aS.2 1 (by simp)
  have k820 : w772.cell? ⟨w86.heap.size, 0, none⟩ = some ((Value.slice a119 m120 c121)) := bx140.2 0 (by simp)
  have k821 : w772.cell? ⟨w86.heap.size, 1, none⟩ = some ((Value.slice a122 m123 c124)) := bx140.2 1 (by simp)
  have k822 : w772.cell? ⟨w145.heap.size, 0, none⟩ = some ((Value.slice a161 m162 c163)) := bx177.2 0 (by simp)
  have k823 : w772.cell? ⟨w145.heap.size, 1, none⟩ = some ((Value.slice a164 m165 c166)) := bx177.2 1 (by simp)
  have k824 : w772.cell? ⟨w241.heap.size, 0, none⟩ = some ((Value.slice a275 m276 c277)) := bx299.2 0 (by simp)
  have k825 : w772.cell? ⟨w241.heap.size, 1, none⟩ = some ((Value.slice a278 m279 c280)) := bx299.2 1 (by simp)
  obtain ⟨X826, hX827⟩ : ∃ X, w772.alloc (.cells #[(Value.slice a806 m807 c808), (Value.slice a809 m810 c811)] 32) = X := ⟨_, rfl⟩
  have bX828 : Below w772.heap.size w772 X826 := by rw [← hX827]; exact (Below.refl _ _).alloc (Nat.le_refl _) _
  have zX826 : X826.heap.size = w772.heap.size + 1 := by rw [← hX827]; simp
  have t829 := Below.trans t803 (Below.mono bX828 zb0)
  have s830 := Below.trans s804 (Below.mono bX828 za0)
  replace o496 := ownL.keep o496 (fun q hq => Below.block bX828 q (hs151 q hq))
  replace hs151 := fun q hq => Nat.lt_of_lt_of_le (hs151 q hq) (Below.size bX828)
  replace o497 := ownL.keep o497 (fun q hq => Below.block bX828 q (hs156 q hq))
  replace hs156 := fun q hq => Nat.lt_of_lt_of_le (hs156 q hq) (Below.size bX828)
  replace o512 := ownL.keep o512 (fun q hq => Below.block bX828 q (hs190 q hq))
  replace hs190 := fun q hq => Nat.lt_of_lt_of_le (hs190 q hq) (Below.size bX828)
  replace o527 := ownL.keep o527 (fun q hq => Below.block bX828 q (hs209 q hq))
  replace hs209 := fun q hq => Nat.lt_of_lt_of_le (hs209 q hq) (Below.size bX828)
  replace o542 := ownL.keep o542 (fun q hq => Below.block bX828 q (hs228 q hq))
  replace hs228 := fun q hq => Nat.lt_of_lt_of_le (hs228 q hq) (Below.size bX828)
  replace o596 := ownL.keep o596 (fun q hq => Below.block bX828 q (hs247 q hq))
  replace hs247 := fun q hq => Nat.lt_of_lt_of_le (hs247 q hq) (Below.size bX828)
  replace o597 := ownL.keep o597 (fun q hq => Below.block bX828 q (hs252 q hq))
  replace hs252 := fun q hq => Nat.lt_of_lt_of_le (hs252 q hq) (Below.size bX828)
  replace o612 := ownL.keep o612 (fun q hq => Below.block bX828 q (hs258 q hq))
  replace hs258 := fun q hq => Nat.lt_of_lt_of_le (hs258 q hq) (Below.size bX828)
  replace o627 := ownL.keep o627 (fun q hq => Below.block bX828 q (hs264 q hq))
  replace hs264 := fun q hq => Nat.lt_of_lt_of_le (hs264 q hq) (Below.size bX828)
  replace o776 := ownL.keep o776 (fun q hq => Below.block bX828 q (hs778 q hq))
  replace hs778 := fun q hq => Nat.lt_of_lt_of_le (hs778 q hq) (Below.size bX828)
  replace o781 := ownL.keep o781 (fun q hq => Below.block bX828 q (hs783 q hq))
  replace hs783 := fun q hq => Nat.lt_of_lt_of_le (hs783 q hq) (Below.size bX828)
  replace o787 := ownL.keep o787 (fun q hq => Below.block bX828 q (hs789 q hq))
  replace hs789 := fun q hq => Nat.lt_of_lt_of_le (hs789 q hq) (Below.size bX828)
  replace o793 := ownL.keep o793 (fun q hq => Below.block bX828 q (hs795 q hq))
  replace hs795 := fun q hq => Nat.lt_of_lt_of_le (hs795 q hq) (Below.size bX828)
  replace bx_aS := Box.below bx_aS bX828
  replace bx140 := Box.below bx140 bX828
  replace bx177 := Box.below bx177 bX828
  replace bx299 := Box.below bx299 bX828
  have z831 := Below.size bX828
  replace zb0 : W1.heap.size ≤ X826.heap.size := by omega
  replace za0 : w86.heap.size ≤ X826.heap.size := by omega
  have bx832 : Box X826 (w772.heap.size) [(Value.slice a806 m807 c808), (Value.slice a809 m810 c811)] := by rw [← hX827]; exact Box.alloc _ _ _
  have k833 : X826.cell? ⟨w.heap.size, 0, none⟩ = some ((Value.slice a_aS0 d_aS.heads_.length c_aS0)) := bx_aS.2 0 (by simp)
  have k834 : X826.cell? ⟨w.heap.size, 1, none⟩ = some ((Value.slice a_aS1 d_aS.descs_.length c_aS1)) := bx_aS.2 1 (by simp)
  have k835 : X826.cell? ⟨w86.heap.size, 0, none⟩ = some ((Value.slice a119 m120 c121)) := bx140.2 0 (by simp)
  have k836 : X826.cell? ⟨w86.heap.size, 1, none⟩ = some ((Value.slice a122 m123 c124)) := bx140.2 1 (by simp)
  have k837 : X826.cell? ⟨w145.heap.size, 0, none⟩ = some ((Value.slice a161 m162 c163)) := bx177.2 0 (by simp)
  have k838 : X826.cell? ⟨w145.heap.size, 1, none⟩ = some ((Value.slice a164 m165 c166)) := bx177.2 1 (by simp)
  have k839 : X826.cell? ⟨w241.heap.size, 0, none⟩ = some ((Value.slice a275 m276 c277)) := bx299.2 0 (by simp)
  have k840 : X826.cell? ⟨w241.heap.size, 1, none⟩ = some ((Value.slice a278 m279 c280)) := bx299.2 1 (by simp)
  have k841 : X826.cell? ⟨w772.heap.size, 0, none⟩ = some ((Value.slice a806 m807 c808)) := bx832.2 0 (by simp)
  have k842 : X826.cell? ⟨w772.heap.size, 1, none⟩ = some ((Value.slice a809 m810 c811)) := bx832.2 1 (by simp)
  go_wp2_with fail
  clear k818 k819 k820 k821 k822 k823 k824 k825 k833 k834 k835 k836 k837 k838 k839 k840 k841 k842 hX827
  refine (eqStore_o _ _ _ _ _ _ (ownL.rds o776) (ownL.rds o781) (rdsL.below o90 s830) (rdsL.below o95 s830)).mono ?_
  rintro e w843 ⟨rfl, b844⟩
  have t845 := Below.trans t829 (Below.mono b844 zb0)
  have s846 := Below.trans s830 (Below.mono b844 za0)
  replace o496 := ownL.keep o496 (fun q hq => Below.block b844 q (hs151 q hq))
  replace hs151 := fun q hq => Nat.lt_of_lt_of_le (hs151 q hq) (Below.size b844)
  replace o497 := ownL.keep o497 (fun q hq => Below.block b844 q (hs156 q hq))
  replace hs156 := fun q hq => Nat.lt_of_lt_of_le (hs156 q hq) (Below.size b844)
  replace o512 := ownL.keep o512 (fun q hq => Below.block b844 q (hs190 q hq))
  replace hs190 := fun q hq => Nat.lt_of_lt_of_le (hs190 q hq) (Below.size b844)
  replace o527 := ownL.keep o527 (fun q hq => Below.block b844 q (hs209 q hq))
  replace hs209 := fun q hq => Nat.lt_of_lt_of_le (hs209 q hq) (Below.size b844)
  replace o542 := ownL.keep o542 (fun q hq => Below.block b844 q (hs228 q hq))
  replace hs228 := fun q hq => Nat.lt_of_lt_of_le (hs228 q hq) (Below.size b844)
  replace o596 := ownL.keep o596 (fun q hq => Below.block b844 q (hs247 q hq))
  replace hs247 := fun q hq => Nat.lt_of_lt_of_le (hs247 q hq) (Below.size b844)
  replace o597 := ownL.keep o597 (fun q hq => Below.block b844 q (hs252 q hq))
  replace hs252 := fun q hq => Nat.lt_of_lt_of_le (hs252 q hq) (Below.size b844)
  replace o612 := ownL.keep o612 (fun q hq => Below.block b844 q (hs258 q hq))
  replace hs258 := fun q hq => Nat.lt_of_lt_of_le (hs258 q hq) (Below.size b844)
  replace o627 := ownL.keep o627 (fun q hq => Below.block b844 q (hs264 q hq))
  replace hs264 := fun q hq => Nat.lt_of_lt_of_le (hs264 q hq) (Below.size b844)
  replace o776 := ownL.keep o776 (fun q hq => Below.block b844 q (hs778 q hq))
  replace hs778 := fun q hq => Nat.lt_of_lt_of_le (hs778 q hq) (Below.size b844)
  replace o781 := ownL.keep o781 (fun q hq => Below.block b844 q (hs783 q hq))
  replace hs783 := fun q hq => Nat.lt_of_lt_of_le (hs783 q hq) (Below.size b844)
  replace o787 := ownL.keep o787 (fun q hq => Below.block b844 q (hs789 q hq))
  replace hs789 := fun q hq => Nat.lt_of_lt_of_le (hs789 q hq) (Below.size b844)
  replace o793 := ownL.keep o793 (fun q hq => Below.block b844 q (hs795 q hq))
  replace hs795 := fun q hq => Nat.lt_of_lt_of_le (hs795 q hq) (Below.size b844)
  replace bx_aS := Box.below bx_aS b844
  replace bx140 := Box.below bx140 b844
  replace bx177 := Box.below bx177 b844
  replace bx299 := Box.below bx299 b844
  replace bx832 := Box.below bx832 b844
  have z847 := Below.size b844
  replace zb0 : W1.heap.size ≤ w843.heap.size := by omega
  replace za0 : w86.heap.size ≤ w843.heap.size := by omega
  have k848 : w843.cell? ⟨w.heap.size, 0, none⟩ = some ((Value.slice a_aS0 d_aS.heads_.length c_aS0)) := bx_aS.2 0 (by simp)
  have k849 : w843.cell? ⟨w.heap.size, 1, none⟩ = some ((Value.slice a_aS1 d_aS.descs_.length c_aS1)) := bx_aS.2 1 (by simp)
  have k850 : w843.cell? ⟨w86.heap.size, 0, none⟩ = some ((Value.slice a119 m120 c121)) := bx140.2 0 (by simp)
  have k851 : w843.cell? ⟨w86.heap.size, 1, none⟩ = some ((Value.slice a122 m123 c124)) := bx140.2 1 (by simp)
  have k852 : w843.cell? ⟨w145.heap.size, 0, none⟩ = some ((Value.slice a161 m162 c163)) := bx177.2 0 (by simp)
  have k853 : w843.cell? ⟨w145.heap.size, 1, none⟩ = some ((Value.slice a164 m165 c166)) := bx177.2 1 (by simp)
  have k854 : w843.cell? ⟨w241.heap.size, 0, none⟩ = some ((Value.slice a275 m276 c277)) := bx299.2 0 (by simp)
  have k855 : w843.cell? ⟨w241.heap.size, 1, none⟩ = some ((Value.slice a278 m279 c280)) := bx299.2 1 (by simp)
  have k856 : w843.cell? ⟨w772.heap.size, 0, none⟩ = some ((Value.slice a806 m807 c808)) := bx832.2 0 (by simp)
  have k857 : w843.cell? ⟨w772.heap.size, 1, none⟩ = some ((Value.slice a809 m810 c811)) := bx832.2 1 (by simp)
  go_wp2_with fail
  clear k848 k849 k850 k851 k852 k853 k854 k855 k856 k857
  refine (eqFrameS_o _ _ _ _ (ownL.rds o787) (rdsL.below o101 s846)).mono ?_
  rintro e w858 ⟨rfl, b859⟩
  have t860 := Below.trans t845 (Below.mono b859 zb0)
  have s861 := Below.trans s846 (Below.mono b859 za0)
  replace o496 := ownL.keep o496 (fun q hq => Below.block b859 q (hs151 q hq))
  replace hs151 := fun q hq => Nat.lt_of_lt_of_le (hs151 q hq) (Below.size b859)
  replace o497 := ownL.keep o497 (fun q hq => Below.block b859 q (hs156 q hq))
  replace hs156 := fun q hq => Nat.lt_of_lt_of_le (hs156 q hq) (Below.size b859)
  replace o512 := ownL.keep o512 (fun q hq => Below.block b859 q (hs190 q hq))
  replace hs190 := fun q hq => Nat.lt_of_lt_of_le (hs190 q hq) (Below.size b859)
  replace o527 := ownL.keep o527 (fun q hq => Below.block b859 q (hs209 q hq))
  replace hs209 := fun q hq => Nat.lt_of_lt_of_le (hs209 q hq) (Below.size b859)
  replace o542 := ownL.keep o542 (fun q hq => Below.block b859 q (hs228 q hq))
  replace hs228 := fun q hq => Nat.lt_of_lt_of_le (hs228 q hq) (Below.size b859)
  replace o596 := ownL.keep o596 (fun q hq => Below.block b859 q (hs247 q hq))
  replace hs247 := fun q hq => Nat.lt_of_lt_of_le (hs247 q hq) (Below.size b859)
  replace o597 := ownL.keep o597 (fun q hq => Below.block b859 q (hs252 q hq))
  replace hs252 := fun q hq => Nat.lt_of_lt_of_le (hs252 q hq) (Below.size b859)
  replace o612 := ownL.keep o612 (fun q hq => Below.block b859 q (hs258 q hq))
  replace hs258 := fun q hq => Nat.lt_of_lt_of_le (hs258 q hq) (Below.size b859)
  replace o627 := ownL.keep o627 (fun q hq => Below.block b859 q (hs264 q hq))
  replace hs264 := fun q hq => Nat.lt_of_lt_of_le (hs264 q hq) (Below.size b859)
  replace o776 := ownL.keep o776 (fun q hq => Below.block b859 q (hs778 q hq))
  replace hs778 := fun q hq => Nat.lt_of_lt_of_le (hs778 q hq) (Below.size b859)
  replace o781 := ownL.keep o781 (fun q hq => Below.block b859 q (hs783 q hq))
  replace hs783 := fun q hq => Nat.lt_of_lt_of_le (hs783 q hq) (Below.size b859)
  replace o787 := ownL.keep o787 (fun q hq => Below.block b859 q (hs789 q hq))
  replace hs789 := fun q hq => Nat.lt_of_lt_of_le (hs789 q hq) (Below.size b859)
  replace o793 := ownL.keep o793 (fun q hq => Below.block b859 q (hs795 q hq))
  replace hs795 := fun q hq => Nat.lt_of_lt_of_le (hs795 q hq) (Below.size b859)
  replace bx_aS := Box.below bx_aS b859
  replace bx140 := Box.below bx140 b859
  replace bx177 := Box.below bx177 b859
  replace bx299 := Box.below bx299 b859
  replace bx832 := Box.below bx832 b859
  have z862 := Below.size b859
  replace zb0 : W1.heap.size ≤ w858.heap.size := by omega
  replace za0 : w86.heap.size ≤ w858.heap.size := by omega
  have k863 : w858.cell? ⟨w.heap.size, 0, none⟩ = some ((Value.slice a_aS0 d_aS.heads_.length c_aS0)) := bx_aS.2 0 (by simp)
  have k864 : w858.cell? ⟨w.heap.size, 1, none⟩ = some ((Value.slice a_aS1 d_aS.descs_.length c_aS1)) := bx_aS.2 1 (by simp)
  have k865 : w858.cell? ⟨w86.heap.size, 0, none⟩ = some ((Value.slice a119 m120 c121)) := bx140.2 0 (by simp)
  have k866 : w858.cell? ⟨w86.heap.size, 1, none⟩ = some ((Value.slice a122 m123 c124)) := bx140.2 1 (by simp)
  have k867 : w858.cell? ⟨w145.heap.size, 0, none⟩ = some ((Value.slice a161 m162 c163)) := bx177.2 0 (by simp)
  have k868 : w858.cell? ⟨w145.heap.size, 1, none⟩ = some ((Value.slice a164 m165 c166)) := bx177.2 1 (by simp)
  have k869 : w858.cell? ⟨w241.heap.size, 0, none⟩ = some ((Value.slice a275 m276 c277)) := bx299.2 0 (by simp)
  have k870 : w858.cell? ⟨w241.heap.size, 1, none⟩ = some ((Value.slice a278 m279 c280)) := bx299.2 1 (by simp)
  have k871 : w858.cell? ⟨w772.heap.size, 0, none⟩ = some ((Value.slice a806 m807 c808)) := bx832.2 0 (by simp)
  have k872 : w858.cell? ⟨w772.heap.size, 1, none⟩ = some ((Value.slice a809 m810 c811)) := bx832.2 1 (by simp)
  go_wp2_with fail
  clear k863 k864 k865 k866 k867 k868 k869 k870 k871 k872
  refine (eqFrameS_o _ _ _ _ (ownL.rds o793) (rdsL.below o107 s861)).mono ?_
  rintro e w873 ⟨rfl, b874⟩
  have t875 := Below.trans t860 (Below.mono b874 zb0)
  have s876 := Below.trans s861 (Below.mono b874 za0)
  replace o496 := ownL.keep o496 (fun q hq => Below.block b874 q (hs151 q hq))
  replace hs151 := fun q hq => Nat.lt_of_lt_of_le (hs151 q hq) (Below.size b874)
  replace o497 := ownL.keep o497 (fun q hq => Below.block b874 q (hs156 q hq))
  replace hs156 := fun q hq => Nat.lt_of_lt_of_le (hs156 q hq) (Below.size b874)
  replace o512 := ownL.keep o512 (fun q hq => Below.block b874 q (hs190 q hq))
  replace hs190 := fun q hq => Nat.lt_of_lt_of_le (hs190 q hq) (Below.size b874)
  replace o527 := ownL.keep o527 (fun q hq => Below.block b874 q (hs209 q hq))
  replace hs209 := fun q hq => Nat.lt_of_lt_of_le (hs209 q hq) (Below.size b874)
  replace o542 := ownL.keep o542 (fun q hq => Below.block b874 q (hs228 q hq))
  replace hs228 := fun q hq => Nat.lt_of_lt_of_le (hs228 q hq) (Below.size b874)
  replace o596 := ownL.keep o596 (fun q hq => Below.block b874 q (hs247 q hq))
  replace hs247 := fun q hq => Nat.lt_of_lt_of_le (hs247 q hq) (Below.size b874)
  replace o597 := ownL.keep o597 (fun q hq => Below.block b874 q (hs252 q hq))
  replace hs252 := fun q hq => Nat.lt_of_lt_of_le (hs252 q hq) (Below.size b874)
  replace o612 := ownL.keep o612 (fun q hq => Below.block b874 q (hs258 q hq))
  replace hs258 := fun q hq => Nat.lt_of_lt_of_le (hs258 q hq) (Below.size b874)
  replace o627 := ownL.keep o627 (fun q hq => Below.block b874 q (hs264 q hq))
  replace hs264 := fun q hq => Nat.lt_of_lt_of_le (hs264 q hq) (Below.size b874)
  replace o776 := ownL.keep o776 (fun q hq => Below.block b874 q (hs778 q hq))
  replace hs778 := fun q hq => Nat.lt_of_lt_of_le (hs778 q hq) (Below.size b874)
  replace o781 := ownL.keep o781 (fun q hq => Below.block b874 q (hs783 q hq))
  replace hs783 := fun q hq => Nat.lt_of_lt_of_le (hs783 q hq) (Below.size b874)
  replace o787 := ownL.keep o787 (fun q hq => Below.block b874 q (hs789 q hq))
  replace hs789 := fun q hq => Nat.lt_of_lt_of_le (hs789 q hq) (Below.size b874)
  replace o793 := ownL.keep o793 (fun q hq => Below.block b874 q (hs795 q hq))
  replace hs795 := fun q hq => Nat.lt_of_lt_of_le (hs795 q hq) (Below.size b874)
  replace bx_aS := Box.below bx_aS b874
  replace bx140 := Box.below bx140 b874
  replace bx177 := Box.below bx177 b874
  replace bx299 := Box.below bx299 b874
  replace bx832 := Box.below bx832 b874
  have z877 := Below.size b874
  replace zb0 : W1.heap.size ≤ w873.heap.size := by omega
  replace za0 : w86.heap.size ≤ w873.heap.size := by omega
  have k878 : w873.cell? ⟨w.heap.size, 0, none⟩ = some ((Value.slice a_aS0 d_aS.heads_.length c_aS0)) := bx_aS.2 0 (by simp)
  have k879 : w873.cell? ⟨w.heap.size, 1, none⟩ = some ((Value.slice a_aS1 d_aS.descs_.length c_aS1)) := bx_aS.2 1 (by simp)
  have k880 : w873.cell? ⟨w86.heap.size, 0, none⟩ = some ((Value.slice a119 m120 c121)) := bx140.2 0 (by simp)
  have k881 : w873.cell? ⟨w86.heap.size, 1, none⟩ = some ((Value.slice a122 m123 c124)) := bx140.2 1 (by simp)
  have k882 : w873.cell? ⟨w145.heap.size, 0, none⟩ = some ((Value.slice a161 m162 c163)) := bx177.2 0 (by simp)
  have k883 : w873.cell? ⟨w145.heap.size, 1, none⟩ = some ((Value.slice a164 m165 c166)) := bx177.2 1 (by simp)
  have k884 : w873.cell? ⟨w241.heap.size, 0, none⟩ = some ((Value.slice a275 m276 c277)) := bx299.2 0 (by simp)
  have k885 : w873.cell? ⟨w241.heap.size, 1, none⟩ = some ((Value.slice a278 m279 c280)) := bx299.2 1 (by simp)
  have k886 : w873.cell? ⟨w772.heap.size, 0, none⟩ = some ((Value.slice a806 m807 c808)) := bx832.2 0 (by simp)
  have k887 : w873.cell? ⟨w772.heap.size, 1, none⟩ = some ((Value.slice a809 m810 c811)) := bx832.2 1 (by simp)
  go_wp2_with fail
  clear k878 k879 k880 k881 k882 k883 k884 k885 k886 k887
  refine (heldStore_o _ _ _ _ _ hb253 (by omega) (by omega) (ownL.rds o596) (ownL.rds o597)).mono ?_
  rintro e w888 ⟨rfl, b889⟩
  have t890 := Below.trans t875 (Below.mono b889 zb0)
  have s891 := Below.trans s876 (Below.mono b889 za0)
  replace o496 := ownL.keep o496 (fun q hq => Below.block b889 q (hs151 q hq))
  replace hs151 := fun q hq => Nat.lt_of_lt_of_le (hs151 q hq) (Below.size b889)
  replace o497 := ownL.keep o497 (fun q hq => Below.block b889 q (hs156 q hq))
  replace hs156 := fun q hq => Nat.lt_of_lt_of_le (hs156 q hq) (Below.size b889)
  replace o512 := ownL.keep o512 (fun q hq => Below.block b889 q (hs190 q hq))
  replace hs190 := fun q hq => Nat.lt_of_lt_of_le (hs190 q hq) (Below.size b889)
  replace o527 := ownL.keep o527 (fun q hq => Below.block b889 q (hs209 q hq))
  replace hs209 := fun q hq => Nat.lt_of_lt_of_le (hs209 q hq) (Below.size b889)
  replace o542 := ownL.keep o542 (fun q hq => Below.block b889 q (hs228 q hq))
  replace hs228 := fun q hq => Nat.lt_of_lt_of_le (hs228 q hq) (Below.size b889)
  replace o596 := ownL.keep o596 (fun q hq => Below.block b889 q (hs247 q hq))
  replace hs247 := fun q hq => Nat.lt_of_lt_of_le (hs247 q hq) (Below.size b889)
  replace o597 := ownL.keep o597 (fun q hq => Below.block b889 q (hs252 q hq))
  replace hs252 := fun q hq => Nat.lt_of_lt_of_le (hs252 q hq) (Below.size b889)
  replace o612 := ownL.keep o612 (fun q hq => Below.block b889 q (hs258 q hq))
  replace hs258 := fun q hq => Nat.lt_of_lt_of_le (hs258 q hq) (Below.size b889)
  replace o627 := ownL.keep o627 (fun q hq => Below.block b889 q (hs264 q hq))
  replace hs264 := fun q hq => Nat.lt_of_lt_of_le (hs264 q hq) (Below.size b889)
  replace o776 := ownL.keep o776 (fun q hq => Below.block b889 q (hs778 q hq))
  replace hs778 := fun q hq => Nat.lt_of_lt_of_le (hs778 q hq) (Below.size b889)
  replace o781 := ownL.keep o781 (fun q hq => Below.block b889 q (hs783 q hq))
  replace hs783 := fun q hq => Nat.lt_of_lt_of_le (hs783 q hq) (Below.size b889)
  replace o787 := ownL.keep o787 (fun q hq => Below.block b889 q (hs789 q hq))
  replace hs789 := fun q hq => Nat.lt_of_lt_of_le (hs789 q hq) (Below.size b889)
  replace o793 := ownL.keep o793 (fun q hq => Below.block b889 q (hs795 q hq))
  replace hs795 := fun q hq => Nat.lt_of_lt_of_le (hs795 q hq) (Below.size b889)
  replace bx_aS := Box.below bx_aS b889
  replace bx140 := Box.below bx140 b889
  replace bx177 := Box.below bx177 b889
  replace bx299 := Box.below bx299 b889
  replace bx832 := Box.below bx832 b889
  have z892 := Below.size b889
  replace zb0 : W1.heap.size ≤ w888.heap.size := by omega
  replace za0 : w86.heap.size ≤ w888.heap.size := by omega
  have k893 : w888.cell? ⟨w.heap.size, 0, none⟩ = some ((Value.slice a_aS0 d_aS.heads_.length c_aS0)) := bx_aS.2 0 (by simp)
  have k894 : w888.cell? ⟨w.heap.size, 1, none⟩ = some ((Value.slice a_aS1 d_aS.descs_.length c_aS1)) := bx_aS.2 1 (by simp)
  have k895 : w888.cell? ⟨w86.heap.size, 0, none⟩ = some ((Value.slice a119 m120 c121)) := bx140.2 0 (by simp)
  have k896 : w888.cell? ⟨w86.heap.size, 1, none⟩ = some ((Value.slice a122 m123 c124)) := bx140.2 1 (by simp)
  have k897 : w888.cell? ⟨w145.heap.size, 0, none⟩ = some ((Value.slice a161 m162 c163)) := bx177.2 0 (by simp)
  have k898 : w888.cell? ⟨w145.heap.size, 1, none⟩ = some ((Value.slice a164 m165 c166)) := bx177.2 1 (by simp)
  have k899 : w888.cell? ⟨w241.heap.size, 0, none⟩ = some ((Value.slice a275 m276 c277)) := bx299.2 0 (by simp)
  have k900 : w888.cell? ⟨w241.heap.size, 1, none⟩ = some ((Value.slice a278 m279 c280)) := bx299.2 1 (by simp)
  have k901 : w888.cell? ⟨w772.heap.size, 0, none⟩ = some ((Value.slice a806 m807 c808)) := bx832.2 0 (by simp)
  have k902 : w888.cell? ⟨w772.heap.size, 1, none⟩ = some ((Value.slice a809 m810 c811)) := bx832.2 1 (by simp)
  go_wp2_with fail
  clear k893 k894 k895 k896 k897 k898 k899 k900 k901 k902
  refine (heldFrameS_o _ _ _ _ hb259 (by omega) (by omega) (ownL.rds o612)).mono ?_
  rintro e w903 ⟨rfl, b904⟩
  have t905 := Below.trans t890 (Below.mono b904 zb0)
  have s906 := Below.trans s891 (Below.mono b904 za0)
  replace o496 := ownL.keep o496 (fun q hq => Below.block b904 q (hs151 q hq))
  replace hs151 := fun q hq => Nat.lt_of_lt_of_le (hs151 q hq) (Below.size b904)
  replace o497 := ownL.keep o497 (fun q hq => Below.block b904 q (hs156 q hq))
  replace hs156 := fun q hq => Nat.lt_of_lt_of_le (hs156 q hq) (Below.size b904)
  replace o512 := ownL.keep o512 (fun q hq => Below.block b904 q (hs190 q hq))
  replace hs190 := fun q hq => Nat.lt_of_lt_of_le (hs190 q hq) (Below.size b904)
  replace o527 := ownL.keep o527 (fun q hq => Below.block b904 q (hs209 q hq))
  replace hs209 := fun q hq => Nat.lt_of_lt_of_le (hs209 q hq) (Below.size b904)
  replace o542 := ownL.keep o542 (fun q hq => Below.block b904 q (hs228 q hq))
  replace hs228 := fun q hq => Nat.lt_of_lt_of_le (hs228 q hq) (Below.size b904)
  replace o596 := ownL.keep o596 (fun q hq => Below.block b904 q (hs247 q hq))
  replace hs247 := fun q hq => Nat.lt_of_lt_of_le (hs247 q hq) (Below.size b904)
  replace o597 := ownL.keep o597 (fun q hq => Below.block b904 q (hs252 q hq))
  replace hs252 := fun q hq => Nat.lt_of_lt_of_le (hs252 q hq) (Below.size b904)
  replace o612 := ownL.keep o612 (fun q hq => Below.block b904 q (hs258 q hq))
  replace hs258 := fun q hq => Nat.lt_of_lt_of_le (hs258 q hq) (Below.size b904)
  replace o627 := ownL.keep o627 (fun q hq => Below.block b904 q (hs264 q hq))
  replace hs264 := fun q hq => Nat.lt_of_lt_of_le (hs264 q hq) (Below.size b904)
  replace o776 := ownL.keep o776 (fun q hq => Below.block b904 q (hs778 q hq))
  replace hs778 := fun q hq => Nat.lt_of_lt_of_le (hs778 q hq) (Below.size b904)
  replace o781 := ownL.keep o781 (fun q hq => Below.block b904 q (hs783 q hq))
  replace hs783 := fun q hq => Nat.lt_of_lt_of_le (hs783 q hq) (Below.size b904)
  replace o787 := ownL.keep o787 (fun q hq => Below.block b904 q (hs789 q hq))
  replace hs789 := fun q hq => Nat.lt_of_lt_of_le (hs789 q hq) (Below.size b904)
  replace o793 := ownL.keep o793 (fun q hq => Below.block b904 q (hs795 q hq))
  replace hs795 := fun q hq => Nat.lt_of_lt_of_le (hs795 q hq) (Below.size b904)
  replace bx_aS := Box.below bx_aS b904
  replace bx140 := Box.below bx140 b904
  replace bx177 := Box.below bx177 b904
  replace bx299 := Box.below bx299 b904
  replace bx832 := Box.below bx832 b904
  have z907 := Below.size b904
  replace zb0 : W1.heap.size ≤ w903.heap.size := by omega
  replace za0 : w86.heap.size ≤ w903.heap.size := by omega
  have k908 : w903.cell? ⟨w.heap.size, 0, none⟩ = some ((Value.slice a_aS0 d_aS.heads_.length c_aS0)) := bx_aS.2 0 (by simp)
  have k909 : w903.cell? ⟨w.heap.size, 1, none⟩ = some ((Value.slice a_aS1 d_aS.descs_.length c_aS1)) := bx_aS.2 1 (by simp)
  have k910 : w903.cell? ⟨w86.heap.size, 0, none⟩ = some ((Value.slice a119 m120 c121)) := bx140.2 0 (by simp)
  have k911 : w903.cell? ⟨w86.heap.size, 1, none⟩ = some ((Value.slice a122 m123 c124)) := bx140.2 1 (by simp)
  have k912 : w903.cell? ⟨w145.heap.size, 0, none⟩ = some ((Value.slice a161 m162 c163)) := bx177.2 0 (by simp)
  have k913 : w903.cell? ⟨w145.heap.size, 1, none⟩ = some ((Value.slice a164 m165 c166)) := bx177.2 1 (by simp)
  have k914 : w903.cell? ⟨w241.heap.size, 0, none⟩ = some ((Value.slice a275 m276 c277)) := bx299.2 0 (by simp)
  have k915 : w903.cell? ⟨w241.heap.size, 1, none⟩ = some ((Value.slice a278 m279 c280)) := bx299.2 1 (by simp)
  have k916 : w903.cell? ⟨w772.heap.size, 0, none⟩ = some ((Value.slice a806 m807 c808)) := bx832.2 0 (by simp)
  have k917 : w903.cell? ⟨w772.heap.size, 1, none⟩ = some ((Value.slice a809 m810 c811)) := bx832.2 1 (by simp)
  go_wp2_with fail
  clear k908 k909 k910 k911 k912 k913 k914 k915 k916 k917
  refine (heldFrameS_o _ _ _ _ hb265 (by omega) (by omega) (ownL.rds o627)).mono ?_
  rintro e w918 ⟨rfl, b919⟩
  have t920 := Below.trans t905 (Below.mono b919 zb0)
  have s921 := Below.trans s906 (Below.mono b919 za0)
  replace o496 := ownL.keep o496 (fun q hq => Below.block b919 q (hs151 q hq))
  replace hs151 := fun q hq => Nat.lt_of_lt_of_le (hs151 q hq) (Below.size b919)
  replace o497 := ownL.keep o497 (fun q hq => Below.block b919 q (hs156 q hq))
  replace hs156 := fun q hq => Nat.lt_of_lt_of_le (hs156 q hq) (Below.size b919)
  replace o512 := ownL.keep o512 (fun q hq => Below.block b919 q (hs190 q hq))
  replace hs190 := fun q hq => Nat.lt_of_lt_of_le (hs190 q hq) (Below.size b919)
  replace o527 := ownL.keep o527 (fun q hq => Below.block b919 q (hs209 q hq))
  replace hs209 := fun q hq => Nat.lt_of_lt_of_le (hs209 q hq) (Below.size b919)
  replace o542 := ownL.keep o542 (fun q hq => Below.block b919 q (hs228 q hq))
  replace hs228 := fun q hq => Nat.lt_of_lt_of_le (hs228 q hq) (Below.size b919)
  replace o596 := ownL.keep o596 (fun q hq => Below.block b919 q (hs247 q hq))
  replace hs247 := fun q hq => Nat.lt_of_lt_of_le (hs247 q hq) (Below.size b919)
  replace o597 := ownL.keep o597 (fun q hq => Below.block b919 q (hs252 q hq))
  replace hs252 := fun q hq => Nat.lt_of_lt_of_le (hs252 q hq) (Below.size b919)
  replace o612 := ownL.keep o612 (fun q hq => Below.block b919 q (hs258 q hq))
  replace hs258 := fun q hq => Nat.lt_of_lt_of_le (hs258 q hq) (Below.size b919)
  replace o627 := ownL.keep o627 (fun q hq => Below.block b919 q (hs264 q hq))
  replace hs264 := fun q hq => Nat.lt_of_lt_of_le (hs264 q hq) (Below.size b919)
  replace o776 := ownL.keep o776 (fun q hq => Below.block b919 q (hs778 q hq))
  replace hs778 := fun q hq => Nat.lt_of_lt_of_le (hs778 q hq) (Below.size b919)
  replace o781 := ownL.keep o781 (fun q hq => Below.block b919 q (hs783 q hq))
  replace hs783 := fun q hq => Nat.lt_of_lt_of_le (hs783 q hq) (Below.size b919)
  replace o787 := ownL.keep o787 (fun q hq => Below.block b919 q (hs789 q hq))
  replace hs789 := fun q hq => Nat.lt_of_lt_of_le (hs789 q hq) (Below.size b919)
  replace o793 := ownL.keep o793 (fun q hq => Below.block b919 q (hs795 q hq))
  replace hs795 := fun q hq => Nat.lt_of_lt_of_le (hs795 q hq) (Below.size b919)
  replace bx_aS := Box.below bx_aS b919
  replace bx140 := Box.below bx140 b919
  replace bx177 := Box.below bx177 b919
  replace bx299 := Box.below bx299 b919
  replace bx832 := Box.below bx832 b919
  have z922 := Below.size b919
  replace zb0 : W1.heap.size ≤ w918.heap.size := by omega
  replace za0 : w86.heap.size ≤ w918.heap.size := by omega
  have k923 : w918.cell? ⟨w.heap.size, 0, none⟩ = some ((Value.slice a_aS0 d_aS.heads_.length c_aS0)) := bx_aS.2 0 (by simp)
  have k924 : w918.cell? ⟨w.heap.size, 1, none⟩ = some ((Value.slice a_aS1 d_aS.descs_.length c_aS1)) := bx_aS.2 1 (by simp)
  have k925 : w918.cell? ⟨w86.heap.size, 0, none⟩ = some ((Value.slice a119 m120 c121)) := bx140.2 0 (by simp)
  have k926 : w918.cell? ⟨w86.heap.size, 1, none⟩ = some ((Value.slice a122 m123 c124)) := bx140.2 1 (by simp)
  have k927 : w918.cell? ⟨w145.heap.size, 0, none⟩ = some ((Value.slice a161 m162 c163)) := bx177.2 0 (by simp)
  have k928 : w918.cell? ⟨w145.heap.size, 1, none⟩ = some ((Value.slice a164 m165 c166)) := bx177.2 1 (by simp)
  have k929 : w918.cell? ⟨w241.heap.size, 0, none⟩ = some ((Value.slice a275 m276 c277)) := bx299.2 0 (by simp)
  have k930 : w918.cell? ⟨w241.heap.size, 1, none⟩ = some ((Value.slice a278 m279 c280)) := bx299.2 1 (by simp)
  have k931 : w918.cell? ⟨w772.heap.size, 0, none⟩ = some ((Value.slice a806 m807 c808)) := bx832.2 0 (by simp)
  have k932 : w918.cell? ⟨w772.heap.size, 1, none⟩ = some ((Value.slice a809 m810 c811)) := bx832.2 1 (by simp)
  go_wp2_with fail
  clear k923 k924 k925 k926 k927 k928 k929 k930 k931 k932
  try go_wp2
  go_ret
  exact ⟨rfl, hB0.trans (Below.mono t920 hB0.size)⟩

end Go.Proofs.Ytambpjjfndnadaa
