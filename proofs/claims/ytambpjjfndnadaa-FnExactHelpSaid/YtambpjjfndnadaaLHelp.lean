/- FnExactHelp, walked. -/
import Derived.Test.YtambpjjfndnadaaW8
import Derived.Test.YtambpjjfndnadaaBx
import Derived.Test.YtambpjjfndnadaaEnc4
import Derived.Test.YtambpjjfndnadaaHop
import Derived.Test.YtambpjjfndnadaaWr3
import Derived.Test.YtambpjjfndnadaaKeep
import Derived.Deep.RegionHeld3
import Derived.Deep.Cut
import Derived.StillTailTactics
namespace Go.Proofs.Ytambpjjfndnadaa
set_option maxRecDepth 100000
open Go.RowKit Go.Proofs Go.Own
set_option linter.unusedVariables false

set_option maxRecDepth 100000 in
set_option maxHeartbeats 8000000 in
theorem law_Help (d_aS : StoreD) (v_aS0 v_aS1 : Value) (d_aStack : List Frame) (v_aStack0 : Value) (w : World) (h_aS0 : rdsL w v_aS0 d_aS.heads_) (h_aS1 : rdsL w v_aS1 d_aS.descs_) (h_aStack0 : rdsL w v_aStack0 d_aStack) :
    Calls Try.prog 5 #[(.agg #[v_aS0, v_aS1]), v_aStack0] w fun e w' => e = .returned (.bool true) ∧ Below w.heap.size w w' := by
  obtain ⟨a_aS0, c_aS0, rfl, -, -, -⟩ := rdsL_open h_aS0
  obtain ⟨a_aS1, c_aS1, rfl, -, -, -⟩ := rdsL_open h_aS1
  obtain ⟨a_aStack0, c_aStack0, rfl, -, -, -⟩ := rdsL_open h_aStack0
  obtain ⟨W1, hW1⟩ : ∃ X, w.alloc (.cells #[(Value.slice a_aS0 d_aS.heads_.length c_aS0), (Value.slice a_aS1 d_aS.descs_.length c_aS1)] 25) = X := ⟨_, rfl⟩
  have hbx1 : Below w.heap.size w W1 := by rw [← hW1]; exact (Below.refl _ _).alloc (Nat.le_refl _) _
  have zw1 : W1.heap.size = w.heap.size + 1 := by rw [← hW1]; simp
  have bx_aS : Box W1 (w.heap.size) [(Value.slice a_aS0 d_aS.heads_.length c_aS0), (Value.slice a_aS1 d_aS.descs_.length c_aS1)] := by rw [← hW1]; exact Box.alloc _ _ _
  have hB0 : Below w.heap.size w W1 := hbx1
  replace h_aS0 := rdsL.below h_aS0 hB0
  replace h_aS1 := rdsL.below h_aS1 hB0
  replace h_aStack0 := rdsL.below h_aStack0 hB0
  have tt0 : Below W1.heap.size W1 W1 := Below.refl _ _
  have zb0 : W1.heap.size ≤ W1.heap.size := Nat.le_refl _
  go_enter Try.func5, Try.ntmps5
  have k1 : W1.cell? ⟨w.heap.size, 0, none⟩ = some ((Value.slice a_aS0 d_aS.heads_.length c_aS0)) := bx_aS.2 0 (by simp)
  have k2 : W1.cell? ⟨w.heap.size, 1, none⟩ = some ((Value.slice a_aS1 d_aS.descs_.length c_aS1)) := bx_aS.2 1 (by simp)
  go_wp2_with fail
  clear k1 k2 hW1
  have hl0_aS : 0 ≤ (1048576 : Int) := by omega
  refine (szStore_o d_aS (Value.slice a_aS0 d_aS.heads_.length c_aS0) (Value.slice a_aS1 d_aS.descs_.length c_aS1) _ _ (by omega) (by omega) (rdsL.below h_aS0 tt0) (rdsL.below h_aS1 tt0)).mono ?_
  rintro e w3 ⟨rfl, b4⟩
  have t5 := Below.trans tt0 (Below.mono b4 zb0)
  replace bx_aS := Box.below bx_aS b4
  have z6 := Below.size b4
  replace zb0 : W1.heap.size ≤ w3.heap.size := by omega
  by_cases big_aS : (1048576 : Int) < (szStoreD d_aS : Int)
  · rw [szR_of, if_pos big_aS]
    go_wp2
    go_ret
    exact ⟨rfl, hB0.trans (Below.mono t5 hB0.size)⟩
  rw [szR_of, if_neg big_aS]
  have k7 : w3.cell? ⟨w.heap.size, 0, none⟩ = some ((Value.slice a_aS0 d_aS.heads_.length c_aS0)) := bx_aS.2 0 (by simp)
  have k8 : w3.cell? ⟨w.heap.size, 1, none⟩ = some ((Value.slice a_aS1 d_aS.descs_.length c_aS1)) := bx_aS.2 1 (by simp)
  go_wp2_with fail
  clear k7 k8
  have hl0_aStack : 0 ≤ (1048576 : Int) - (szStoreD d_aS : Int) := by omega
  refine (szFrameS_o d_aStack (Value.slice a_aStack0 d_aStack.length c_aStack0) _ _ (by omega) (by omega) (rdsL.below h_aStack0 t5)).mono ?_
  rintro e w9 ⟨rfl, b10⟩
  have t11 := Below.trans t5 (Below.mono b10 zb0)
  replace bx_aS := Box.below bx_aS b10
  have z12 := Below.size b10
  replace zb0 : W1.heap.size ≤ w9.heap.size := by omega
  by_cases big_aStack : (1048576 : Int) - (szStoreD d_aS : Int) < (szFrameSD d_aStack : Int)
  · rw [szR_of, if_pos big_aStack]
    go_wp2
    go_ret
    exact ⟨rfl, hB0.trans (Below.mono t11 hB0.size)⟩
  rw [szR_of, if_neg big_aStack]
  have k13 : w9.cell? ⟨w.heap.size, 0, none⟩ = some ((Value.slice a_aS0 d_aS.heads_.length c_aS0)) := bx_aS.2 0 (by simp)
  have k14 : w9.cell? ⟨w.heap.size, 1, none⟩ = some ((Value.slice a_aS1 d_aS.descs_.length c_aS1)) := bx_aS.2 1 (by simp)
  go_wp2_with fail
  clear k13 k14
  have hb_aS : StoreB d_aS := by show _ ≤ 1048576; have := big_aS; unfold szStoreD at *; omega
  have hb_aStack : FrameSB d_aStack := by show _ ≤ 1048576; have := big_aStack; unfold szFrameSD at *; omega
  refine (toStore_o d_aS (Value.slice a_aS0 d_aS.heads_.length c_aS0) (Value.slice a_aS1 d_aS.descs_.length c_aS1) _ (rdsL.below h_aS0 t11) (rdsL.below h_aS1 t11) hb_aS).mono ?_
  rintro e w15 ⟨u17, u22, S18, S23, rfl, o19, o24, r20, r25, dj27, b16⟩
  have t28 := Below.trans t11 (Below.mono b16 zb0)
  replace bx_aS := Box.below bx_aS b16
  have z29 := Below.size b16
  replace zb0 : W1.heap.size ≤ w15.heap.size := by omega
  obtain ⟨a30, m31, c32, rfl⟩ := ownL_shape o19
  have hs21 := fun q hq => (r20 q hq).2
  obtain ⟨a33, m34, c35, rfl⟩ := ownL_shape o24
  have hs26 := fun q hq => (r25 q hq).2
  have k36 : w15.cell? ⟨w.heap.size, 0, none⟩ = some ((Value.slice a_aS0 d_aS.heads_.length c_aS0)) := bx_aS.2 0 (by simp)
  have k37 : w15.cell? ⟨w.heap.size, 1, none⟩ = some ((Value.slice a_aS1 d_aS.descs_.length c_aS1)) := bx_aS.2 1 (by simp)
  go_wp2_with fail
  clear k36 k37
  refine (toFrameS_o d_aStack (Value.slice a_aStack0 d_aStack.length c_aStack0) _ (rdsL.below h_aStack0 t28) hb_aStack).mono ?_
  rintro e w38 ⟨u40, S41, rfl, o42, r43, b39⟩
  have t45 := Below.trans t28 (Below.mono b39 zb0)
  replace o19 := ownL.keep o19 (fun q hq => Below.block b39 q (hs21 q hq))
  replace hs21 := fun q hq => Nat.lt_of_lt_of_le (hs21 q hq) (Below.size b39)
  replace o24 := ownL.keep o24 (fun q hq => Below.block b39 q (hs26 q hq))
  replace hs26 := fun q hq => Nat.lt_of_lt_of_le (hs26 q hq) (Below.size b39)
  replace bx_aS := Box.below bx_aS b39
  have z46 := Below.size b39
  replace zb0 : W1.heap.size ≤ w38.heap.size := by omega
  obtain ⟨a47, m48, c49, rfl⟩ := ownL_shape o42
  have hs44 := fun q hq => (r43 q hq).2
  have k50 : w38.cell? ⟨w.heap.size, 0, none⟩ = some ((Value.slice a_aS0 d_aS.heads_.length c_aS0)) := bx_aS.2 0 (by simp)
  have k51 : w38.cell? ⟨w.heap.size, 1, none⟩ = some ((Value.slice a_aS1 d_aS.descs_.length c_aS1)) := bx_aS.2 1 (by simp)
  go_wp2_with fail
  clear k50 k51
  refine (spec_HelpW d_aS (Value.slice a30 m31 c32) (Value.slice a33 m34 c35) d_aStack (Value.slice a47 m48 c49) _ (ownL.rds o19) (ownL.rds o24) hb_aS (ownL.rds o42) hb_aStack).mono ?_
  rintro e w52 ⟨u54, u59, u65, S55, S60, S66, rfl, o56, o61, o67, r57, r62, r68, dj71, dj72, dj73, hb64, hb70, b53⟩
  replace o56 := ownL.rds o56
  replace o61 := ownL.rds o61
  replace o67 := ownL.rds o67
  have t74 := Below.trans t45 (Below.mono b53 zb0)
  replace bx_aS := Box.below bx_aS b53
  have z75 := Below.size b53
  replace zb0 : W1.heap.size ≤ w52.heap.size := by omega
  obtain ⟨a76, m77, c78, rfl⟩ := rdsL_shape o56
  obtain ⟨a79, m80, c81, rfl⟩ := rdsL_shape o61
  obtain ⟨a82, m83, c84, rfl⟩ := rdsL_shape o67
  have s85 : Below w52.heap.size w52 w52 := Below.refl _ _
  have za0 : w52.heap.size ≤ w52.heap.size := Nat.le_refl _
  have k86 : w52.cell? ⟨w.heap.size, 0, none⟩ = some ((Value.slice a_aS0 d_aS.heads_.length c_aS0)) := bx_aS.2 0 (by simp)
  have k87 : w52.cell? ⟨w.heap.size, 1, none⟩ = some ((Value.slice a_aS1 d_aS.descs_.length c_aS1)) := bx_aS.2 1 (by simp)
  obtain ⟨X88, hX89⟩ : ∃ X, w52.alloc (.cells #[(Value.slice a76 m77 c78), (Value.slice a79 m80 c81)] 32) = X := ⟨_, rfl⟩
  have bX90 : Below w52.heap.size w52 X88 := by rw [← hX89]; exact (Below.refl _ _).alloc (Nat.le_refl _) _
  have zX88 : X88.heap.size = w52.heap.size + 1 := by rw [← hX89]; simp
  have t91 := Below.trans t74 (Below.mono bX90 zb0)
  have s92 := Below.trans s85 (Below.mono bX90 za0)
  replace bx_aS := Box.below bx_aS bX90
  have z93 := Below.size bX90
  replace zb0 : W1.heap.size ≤ X88.heap.size := by omega
  replace za0 : w52.heap.size ≤ X88.heap.size := by omega
  have bx94 : Box X88 (w52.heap.size) [(Value.slice a76 m77 c78), (Value.slice a79 m80 c81)] := by rw [← hX89]; exact Box.alloc _ _ _
  have k95 : X88.cell? ⟨w.heap.size, 0, none⟩ = some ((Value.slice a_aS0 d_aS.heads_.length c_aS0)) := bx_aS.2 0 (by simp)
  have k96 : X88.cell? ⟨w.heap.size, 1, none⟩ = some ((Value.slice a_aS1 d_aS.descs_.length c_aS1)) := bx_aS.2 1 (by simp)
  have k97 : X88.cell? ⟨w52.heap.size, 0, none⟩ = some ((Value.slice a76 m77 c78)) := bx94.2 0 (by simp)
  have k98 : X88.cell? ⟨w52.heap.size, 1, none⟩ = some ((Value.slice a79 m80 c81)) := bx94.2 1 (by simp)
  go_wp2_with fail
  clear k86 k87 k95 k96 k97 k98 hX89
  refine (toStore_o d_aS (Value.slice a_aS0 d_aS.heads_.length c_aS0) (Value.slice a_aS1 d_aS.descs_.length c_aS1) _ (rdsL.below h_aS0 t91) (rdsL.below h_aS1 t91) hb_aS).mono ?_
  rintro e w99 ⟨u101, u106, S102, S107, rfl, o103, o108, r104, r109, dj111, b100⟩
  have t112 := Below.trans t91 (Below.mono b100 zb0)
  have s113 := Below.trans s92 (Below.mono b100 za0)
  replace bx_aS := Box.below bx_aS b100
  replace bx94 := Box.below bx94 b100
  have z114 := Below.size b100
  replace zb0 : W1.heap.size ≤ w99.heap.size := by omega
  replace za0 : w52.heap.size ≤ w99.heap.size := by omega
  obtain ⟨a115, m116, c117, rfl⟩ := ownL_shape o103
  have hs105 := fun q hq => (r104 q hq).2
  obtain ⟨a118, m119, c120, rfl⟩ := ownL_shape o108
  have hs110 := fun q hq => (r109 q hq).2
  have k121 : w99.cell? ⟨w.heap.size, 0, none⟩ = some ((Value.slice a_aS0 d_aS.heads_.length c_aS0)) := bx_aS.2 0 (by simp)
  have k122 : w99.cell? ⟨w.heap.size, 1, none⟩ = some ((Value.slice a_aS1 d_aS.descs_.length c_aS1)) := bx_aS.2 1 (by simp)
  have k123 : w99.cell? ⟨w52.heap.size, 0, none⟩ = some ((Value.slice a76 m77 c78)) := bx94.2 0 (by simp)
  have k124 : w99.cell? ⟨w52.heap.size, 1, none⟩ = some ((Value.slice a79 m80 c81)) := bx94.2 1 (by simp)
  obtain ⟨X125, hX126⟩ : ∃ X, w99.alloc (.cells #[(Value.slice a115 m116 c117), (Value.slice a118 m119 c120)] 32) = X := ⟨_, rfl⟩
  have bX127 : Below w99.heap.size w99 X125 := by rw [← hX126]; exact (Below.refl _ _).alloc (Nat.le_refl _) _
  have zX125 : X125.heap.size = w99.heap.size + 1 := by rw [← hX126]; simp
  have t128 := Below.trans t112 (Below.mono bX127 zb0)
  have s129 := Below.trans s113 (Below.mono bX127 za0)
  replace o103 := ownL.keep o103 (fun q hq => Below.block bX127 q (hs105 q hq))
  replace hs105 := fun q hq => Nat.lt_of_lt_of_le (hs105 q hq) (Below.size bX127)
  replace o108 := ownL.keep o108 (fun q hq => Below.block bX127 q (hs110 q hq))
  replace hs110 := fun q hq => Nat.lt_of_lt_of_le (hs110 q hq) (Below.size bX127)
  replace bx_aS := Box.below bx_aS bX127
  replace bx94 := Box.below bx94 bX127
  have z130 := Below.size bX127
  replace zb0 : W1.heap.size ≤ X125.heap.size := by omega
  replace za0 : w52.heap.size ≤ X125.heap.size := by omega
  have bx131 : Box X125 (w99.heap.size) [(Value.slice a115 m116 c117), (Value.slice a118 m119 c120)] := by rw [← hX126]; exact Box.alloc _ _ _
  have k132 : X125.cell? ⟨w.heap.size, 0, none⟩ = some ((Value.slice a_aS0 d_aS.heads_.length c_aS0)) := bx_aS.2 0 (by simp)
  have k133 : X125.cell? ⟨w.heap.size, 1, none⟩ = some ((Value.slice a_aS1 d_aS.descs_.length c_aS1)) := bx_aS.2 1 (by simp)
  have k134 : X125.cell? ⟨w52.heap.size, 0, none⟩ = some ((Value.slice a76 m77 c78)) := bx94.2 0 (by simp)
  have k135 : X125.cell? ⟨w52.heap.size, 1, none⟩ = some ((Value.slice a79 m80 c81)) := bx94.2 1 (by simp)
  have k136 : X125.cell? ⟨w99.heap.size, 0, none⟩ = some ((Value.slice a115 m116 c117)) := bx131.2 0 (by simp)
  have k137 : X125.cell? ⟨w99.heap.size, 1, none⟩ = some ((Value.slice a118 m119 c120)) := bx131.2 1 (by simp)
  go_wp2_with fail
  clear k121 k122 k123 k124 k132 k133 k134 k135 k136 k137 hX126
  refine (toFrameS_o d_aStack (Value.slice a_aStack0 d_aStack.length c_aStack0) _ (rdsL.below h_aStack0 t128) hb_aStack).mono ?_
  rintro e w138 ⟨u140, S141, rfl, o142, r143, b139⟩
  have t145 := Below.trans t128 (Below.mono b139 zb0)
  have s146 := Below.trans s129 (Below.mono b139 za0)
  replace o103 := ownL.keep o103 (fun q hq => Below.block b139 q (hs105 q hq))
  replace hs105 := fun q hq => Nat.lt_of_lt_of_le (hs105 q hq) (Below.size b139)
  replace o108 := ownL.keep o108 (fun q hq => Below.block b139 q (hs110 q hq))
  replace hs110 := fun q hq => Nat.lt_of_lt_of_le (hs110 q hq) (Below.size b139)
  replace bx_aS := Box.below bx_aS b139
  replace bx94 := Box.below bx94 b139
  replace bx131 := Box.below bx131 b139
  have z147 := Below.size b139
  replace zb0 : W1.heap.size ≤ w138.heap.size := by omega
  replace za0 : w52.heap.size ≤ w138.heap.size := by omega
  obtain ⟨a148, m149, c150, rfl⟩ := ownL_shape o142
  have hs144 := fun q hq => (r143 q hq).2
  have k151 : w138.cell? ⟨w.heap.size, 0, none⟩ = some ((Value.slice a_aS0 d_aS.heads_.length c_aS0)) := bx_aS.2 0 (by simp)
  have k152 : w138.cell? ⟨w.heap.size, 1, none⟩ = some ((Value.slice a_aS1 d_aS.descs_.length c_aS1)) := bx_aS.2 1 (by simp)
  have k153 : w138.cell? ⟨w52.heap.size, 0, none⟩ = some ((Value.slice a76 m77 c78)) := bx94.2 0 (by simp)
  have k154 : w138.cell? ⟨w52.heap.size, 1, none⟩ = some ((Value.slice a79 m80 c81)) := bx94.2 1 (by simp)
  have k155 : w138.cell? ⟨w99.heap.size, 0, none⟩ = some ((Value.slice a115 m116 c117)) := bx131.2 0 (by simp)
  have k156 : w138.cell? ⟨w99.heap.size, 1, none⟩ = some ((Value.slice a118 m119 c120)) := bx131.2 1 (by simp)
  go_wp2_with fail
  clear k151 k152 k153 k154 k155 k156
  refine (impl_HelpW d_aS (Value.slice a115 m116 c117) (Value.slice a118 m119 c120) d_aStack (Value.slice a148 m149 c150) _ (ownL.rds o103) (ownL.rds o108) hb_aS (ownL.rds o142) hb_aStack).mono ?_
  rintro e w157 ⟨u159, u164, u170, S160, S165, S171, rfl, o161, o166, o172, r162, r167, r173, dj176, dj177, dj178, hb169, hb175, b158⟩
  have t179 := Below.trans t145 (Below.mono b158 zb0)
  have s180 := Below.trans s146 (Below.mono b158 za0)
  replace o103 := ownL.keep o103 (fun q hq => Below.block b158 q (hs105 q hq))
  replace hs105 := fun q hq => Nat.lt_of_lt_of_le (hs105 q hq) (Below.size b158)
  replace o108 := ownL.keep o108 (fun q hq => Below.block b158 q (hs110 q hq))
  replace hs110 := fun q hq => Nat.lt_of_lt_of_le (hs110 q hq) (Below.size b158)
  replace o142 := ownL.keep o142 (fun q hq => Below.block b158 q (hs144 q hq))
  replace hs144 := fun q hq => Nat.lt_of_lt_of_le (hs144 q hq) (Below.size b158)
  replace bx_aS := Box.below bx_aS b158
  replace bx94 := Box.below bx94 b158
  replace bx131 := Box.below bx131 b158
  have z181 := Below.size b158
  replace zb0 : W1.heap.size ≤ w157.heap.size := by omega
  replace za0 : w52.heap.size ≤ w157.heap.size := by omega
  obtain ⟨a182, m183, c184, rfl⟩ := ownL_shape o161
  have hs163 := fun q hq => (r162 q hq).2
  obtain ⟨a185, m186, c187, rfl⟩ := ownL_shape o166
  have hs168 := fun q hq => (r167 q hq).2
  obtain ⟨a188, m189, c190, rfl⟩ := ownL_shape o172
  have hs174 := fun q hq => (r173 q hq).2
  have k191 : w157.cell? ⟨w.heap.size, 0, none⟩ = some ((Value.slice a_aS0 d_aS.heads_.length c_aS0)) := bx_aS.2 0 (by simp)
  have k192 : w157.cell? ⟨w.heap.size, 1, none⟩ = some ((Value.slice a_aS1 d_aS.descs_.length c_aS1)) := bx_aS.2 1 (by simp)
  have k193 : w157.cell? ⟨w52.heap.size, 0, none⟩ = some ((Value.slice a76 m77 c78)) := bx94.2 0 (by simp)
  have k194 : w157.cell? ⟨w52.heap.size, 1, none⟩ = some ((Value.slice a79 m80 c81)) := bx94.2 1 (by simp)
  have k195 : w157.cell? ⟨w99.heap.size, 0, none⟩ = some ((Value.slice a115 m116 c117)) := bx131.2 0 (by simp)
  have k196 : w157.cell? ⟨w99.heap.size, 1, none⟩ = some ((Value.slice a118 m119 c120)) := bx131.2 1 (by simp)
  obtain ⟨X197, hX198⟩ : ∃ X, w157.alloc (.cells #[(Value.slice a182 m183 c184), (Value.slice a185 m186 c187)] 32) = X := ⟨_, rfl⟩
  have bX199 : Below w157.heap.size w157 X197 := by rw [← hX198]; exact (Below.refl _ _).alloc (Nat.le_refl _) _
  have zX197 : X197.heap.size = w157.heap.size + 1 := by rw [← hX198]; simp
  have t200 := Below.trans t179 (Below.mono bX199 zb0)
  have s201 := Below.trans s180 (Below.mono bX199 za0)
  replace o103 := ownL.keep o103 (fun q hq => Below.block bX199 q (hs105 q hq))
  replace hs105 := fun q hq => Nat.lt_of_lt_of_le (hs105 q hq) (Below.size bX199)
  replace o108 := ownL.keep o108 (fun q hq => Below.block bX199 q (hs110 q hq))
  replace hs110 := fun q hq => Nat.lt_of_lt_of_le (hs110 q hq) (Below.size bX199)
  replace o142 := ownL.keep o142 (fun q hq => Below.block bX199 q (hs144 q hq))
  replace hs144 := fun q hq => Nat.lt_of_lt_of_le (hs144 q hq) (Below.size bX199)
  replace o161 := ownL.keep o161 (fun q hq => Below.block bX199 q (hs163 q hq))
  replace hs163 := fun q hq => Nat.lt_of_lt_of_le (hs163 q hq) (Below.size bX199)
  replace o166 := ownL.keep o166 (fun q hq => Below.block bX199 q (hs168 q hq))
  replace hs168 := fun q hq => Nat.lt_of_lt_of_le (hs168 q hq) (Below.size bX199)
  replace o172 := ownL.keep o172 (fun q hq => Below.block bX199 q (hs174 q hq))
  replace hs174 := fun q hq => Nat.lt_of_lt_of_le (hs174 q hq) (Below.size bX199)
  replace bx_aS := Box.below bx_aS bX199
  replace bx94 := Box.below bx94 bX199
  replace bx131 := Box.below bx131 bX199
  have z202 := Below.size bX199
  replace zb0 : W1.heap.size ≤ X197.heap.size := by omega
  replace za0 : w52.heap.size ≤ X197.heap.size := by omega
  have bx203 : Box X197 (w157.heap.size) [(Value.slice a182 m183 c184), (Value.slice a185 m186 c187)] := by rw [← hX198]; exact Box.alloc _ _ _
  have k204 : X197.cell? ⟨w.heap.size, 0, none⟩ = some ((Value.slice a_aS0 d_aS.heads_.length c_aS0)) := bx_aS.2 0 (by simp)
  have k205 : X197.cell? ⟨w.heap.size, 1, none⟩ = some ((Value.slice a_aS1 d_aS.descs_.length c_aS1)) := bx_aS.2 1 (by simp)
  have k206 : X197.cell? ⟨w52.heap.size, 0, none⟩ = some ((Value.slice a76 m77 c78)) := bx94.2 0 (by simp)
  have k207 : X197.cell? ⟨w52.heap.size, 1, none⟩ = some ((Value.slice a79 m80 c81)) := bx94.2 1 (by simp)
  have k208 : X197.cell? ⟨w99.heap.size, 0, none⟩ = some ((Value.slice a115 m116 c117)) := bx131.2 0 (by simp)
  have k209 : X197.cell? ⟨w99.heap.size, 1, none⟩ = some ((Value.slice a118 m119 c120)) := bx131.2 1 (by simp)
  have k210 : X197.cell? ⟨w157.heap.size, 0, none⟩ = some ((Value.slice a182 m183 c184)) := bx203.2 0 (by simp)
  have k211 : X197.cell? ⟨w157.heap.size, 1, none⟩ = some ((Value.slice a185 m186 c187)) := bx203.2 1 (by simp)
  go_wp2_with fail
  clear k191 k192 k193 k194 k195 k196 k204 k205 k206 k207 k208 k209 k210 k211 hX198
  refine (eqStore_o _ _ _ _ _ _ (ownL.rds o161) (ownL.rds o166) (rdsL.below o56 s201) (rdsL.below o61 s201)).mono ?_
  rintro e w212 ⟨rfl, b213⟩
  have t214 := Below.trans t200 (Below.mono b213 zb0)
  have s215 := Below.trans s201 (Below.mono b213 za0)
  replace o103 := ownL.keep o103 (fun q hq => Below.block b213 q (hs105 q hq))
  replace hs105 := fun q hq => Nat.lt_of_lt_of_le (hs105 q hq) (Below.size b213)
  replace o108 := ownL.keep o108 (fun q hq => Below.block b213 q (hs110 q hq))
  replace hs110 := fun q hq => Nat.lt_of_lt_of_le (hs110 q hq) (Below.size b213)
  replace o142 := ownL.keep o142 (fun q hq => Below.block b213 q (hs144 q hq))
  replace hs144 := fun q hq => Nat.lt_of_lt_of_le (hs144 q hq) (Below.size b213)
  replace o161 := ownL.keep o161 (fun q hq => Below.block b213 q (hs163 q hq))
  replace hs163 := fun q hq => Nat.lt_of_lt_of_le (hs163 q hq) (Below.size b213)
  replace o166 := ownL.keep o166 (fun q hq => Below.block b213 q (hs168 q hq))
  replace hs168 := fun q hq => Nat.lt_of_lt_of_le (hs168 q hq) (Below.size b213)
  replace o172 := ownL.keep o172 (fun q hq => Below.block b213 q (hs174 q hq))
  replace hs174 := fun q hq => Nat.lt_of_lt_of_le (hs174 q hq) (Below.size b213)
  replace bx_aS := Box.below bx_aS b213
  replace bx94 := Box.below bx94 b213
  replace bx131 := Box.below bx131 b213
  replace bx203 := Box.below bx203 b213
  have z216 := Below.size b213
  replace zb0 : W1.heap.size ≤ w212.heap.size := by omega
  replace za0 : w52.heap.size ≤ w212.heap.size := by omega
  have k217 : w212.cell? ⟨w.heap.size, 0, none⟩ = some ((Value.slice a_aS0 d_aS.heads_.length c_aS0)) := bx_aS.2 0 (by simp)
  have k218 : w212.cell? ⟨w.heap.size, 1, none⟩ = some ((Value.slice a_aS1 d_aS.descs_.length c_aS1)) := bx_aS.2 1 (by simp)
  have k219 : w212.cell? ⟨w52.heap.size, 0, none⟩ = some ((Value.slice a76 m77 c78)) := bx94.2 0 (by simp)
  have k220 : w212.cell? ⟨w52.heap.size, 1, none⟩ = some ((Value.slice a79 m80 c81)) := bx94.2 1 (by simp)
  have k221 : w212.cell? ⟨w99.heap.size, 0, none⟩ = some ((Value.slice a115 m116 c117)) := bx131.2 0 (by simp)
  have k222 : w212.cell? ⟨w99.heap.size, 1, none⟩ = some ((Value.slice a118 m119 c120)) := bx131.2 1 (by simp)
  have k223 : w212.cell? ⟨w157.heap.size, 0, none⟩ = some ((Value.slice a182 m183 c184)) := bx203.2 0 (by simp)
  have k224 : w212.cell? ⟨w157.heap.size, 1, none⟩ = some ((Value.slice a185 m186 c187)) := bx203.2 1 (by simp)
  go_wp2_with fail
  clear k217 k218 k219 k220 k221 k222 k223 k224
  refine (eqFrameS_o _ _ _ _ (ownL.rds o172) (rdsL.below o67 s215)).mono ?_
  rintro e w225 ⟨rfl, b226⟩
  have t227 := Below.trans t214 (Below.mono b226 zb0)
  have s228 := Below.trans s215 (Below.mono b226 za0)
  replace o103 := ownL.keep o103 (fun q hq => Below.block b226 q (hs105 q hq))
  replace hs105 := fun q hq => Nat.lt_of_lt_of_le (hs105 q hq) (Below.size b226)
  replace o108 := ownL.keep o108 (fun q hq => Below.block b226 q (hs110 q hq))
  replace hs110 := fun q hq => Nat.lt_of_lt_of_le (hs110 q hq) (Below.size b226)
  replace o142 := ownL.keep o142 (fun q hq => Below.block b226 q (hs144 q hq))
  replace hs144 := fun q hq => Nat.lt_of_lt_of_le (hs144 q hq) (Below.size b226)
  replace o161 := ownL.keep o161 (fun q hq => Below.block b226 q (hs163 q hq))
  replace hs163 := fun q hq => Nat.lt_of_lt_of_le (hs163 q hq) (Below.size b226)
  replace o166 := ownL.keep o166 (fun q hq => Below.block b226 q (hs168 q hq))
  replace hs168 := fun q hq => Nat.lt_of_lt_of_le (hs168 q hq) (Below.size b226)
  replace o172 := ownL.keep o172 (fun q hq => Below.block b226 q (hs174 q hq))
  replace hs174 := fun q hq => Nat.lt_of_lt_of_le (hs174 q hq) (Below.size b226)
  replace bx_aS := Box.below bx_aS b226
  replace bx94 := Box.below bx94 b226
  replace bx131 := Box.below bx131 b226
  replace bx203 := Box.below bx203 b226
  have z229 := Below.size b226
  replace zb0 : W1.heap.size ≤ w225.heap.size := by omega
  replace za0 : w52.heap.size ≤ w225.heap.size := by omega
  have k230 : w225.cell? ⟨w.heap.size, 0, none⟩ = some ((Value.slice a_aS0 d_aS.heads_.length c_aS0)) := bx_aS.2 0 (by simp)
  have k231 : w225.cell? ⟨w.heap.size, 1, none⟩ = some ((Value.slice a_aS1 d_aS.descs_.length c_aS1)) := bx_aS.2 1 (by simp)
  have k232 : w225.cell? ⟨w52.heap.size, 0, none⟩ = some ((Value.slice a76 m77 c78)) := bx94.2 0 (by simp)
  have k233 : w225.cell? ⟨w52.heap.size, 1, none⟩ = some ((Value.slice a79 m80 c81)) := bx94.2 1 (by simp)
  have k234 : w225.cell? ⟨w99.heap.size, 0, none⟩ = some ((Value.slice a115 m116 c117)) := bx131.2 0 (by simp)
  have k235 : w225.cell? ⟨w99.heap.size, 1, none⟩ = some ((Value.slice a118 m119 c120)) := bx131.2 1 (by simp)
  have k236 : w225.cell? ⟨w157.heap.size, 0, none⟩ = some ((Value.slice a182 m183 c184)) := bx203.2 0 (by simp)
  have k237 : w225.cell? ⟨w157.heap.size, 1, none⟩ = some ((Value.slice a185 m186 c187)) := bx203.2 1 (by simp)
  go_wp2_with fail
  clear k230 k231 k232 k233 k234 k235 k236 k237
  have lt253 := (bx_aS).1
  have lt254 := (bx94).1
  have lt255 := (bx131).1
  have lt256 := (bx203).1
  have k257 : w225.cell? ⟨w.heap.size, 0, none⟩ = some ((Value.slice a_aS0 d_aS.heads_.length c_aS0)) := bx_aS.2 0 (by simp)
  have k258 : w225.cell? ⟨w.heap.size, 1, none⟩ = some ((Value.slice a_aS1 d_aS.descs_.length c_aS1)) := bx_aS.2 1 (by simp)
  have k259 : w225.cell? ⟨w52.heap.size, 0, none⟩ = some ((Value.slice a76 m77 c78)) := bx94.2 0 (by simp)
  have k260 : w225.cell? ⟨w52.heap.size, 1, none⟩ = some ((Value.slice a79 m80 c81)) := bx94.2 1 (by simp)
  have k261 : w225.cell? ⟨w99.heap.size, 0, none⟩ = some ((Value.slice a115 m116 c117)) := bx131.2 0 (by simp)
  have k262 : w225.cell? ⟨w99.heap.size, 1, none⟩ = some ((Value.slice a118 m119 c120)) := bx131.2 1 (by simp)
  have k263 : w225.cell? ⟨w157.heap.size, 0, none⟩ = some ((Value.slice a182 m183 c184)) := bx203.2 0 (by simp)
  have k264 : w225.cell? ⟨w157.heap.size, 1, none⟩ = some ((Value.slice a185 m186 c187)) := bx203.2 1 (by simp)
  go_region_held3 (fun w' => Below w225.heap.size w225 w' ∧ w225.heap.size ≤ w'.heap.size ∧ w'.cell? ⟨w.heap.size, 0, none⟩ = some ((Value.slice a_aS0 d_aS.heads_.length c_aS0)) ∧ w'.cell? ⟨w.heap.size, 1, none⟩ = some ((Value.slice a_aS1 d_aS.descs_.length c_aS1)) ∧ w'.cell? ⟨w52.heap.size, 0, none⟩ = some ((Value.slice a76 m77 c78)) ∧ w'.cell? ⟨w52.heap.size, 1, none⟩ = some ((Value.slice a79 m80 c81)) ∧ w'.cell? ⟨w99.heap.size, 0, none⟩ = some ((Value.slice a115 m116 c117)) ∧ w'.cell? ⟨w99.heap.size, 1, none⟩ = some ((Value.slice a118 m119 c120)) ∧ w'.cell? ⟨w157.heap.size, 0, none⟩ = some ((Value.slice a182 m183 c184)) ∧ w'.cell? ⟨w157.heap.size, 1, none⟩ = some ((Value.slice a185 m186 c187)))
    (first | exact ⟨(Below.refl _ _).drew, Nat.le_refl _, k257, k258, k259, k260, k261, k262, k263, k264⟩ | exact keepBox8 (by omega) ‹_› ‹_›)
    (first
    | (go_at_call 12; refine (toStore_o d_aS (Value.slice a_aS0 d_aS.heads_.length c_aS0) (Value.slice a_aS1 d_aS.descs_.length c_aS1) _ (rdsL.below (rdsL.below h_aS0 t227) ((Below.refl _ _).drew : Below w225.heap.size w225 w225.drew)) (rdsL.below (rdsL.below h_aS1 t227) ((Below.refl _ _).drew : Below w225.heap.size w225 w225.drew)) hb_aS).mono ?_; rintro e w238 ⟨u240, u245, S241, S246, rfl, o242, o247, r243, r248, dj250, b239⟩; have hq_w238 : Below w225.heap.size w225 w238 := Below.trans ((Below.refl _ _).drew : Below w225.heap.size w225 w225.drew) (Below.mono b239 (Below.size ((Below.refl _ _).drew : Below w225.heap.size w225 w225.drew))))
    | (go_at_call 15; refine (eqStore_o _ _ _ _ _ _ (rdsL.below (rdsL.below (ownL.rds o103) ((Below.refl _ _).drew : Below w225.heap.size w225 w225.drew)) b239) (rdsL.below (rdsL.below (ownL.rds o108) ((Below.refl _ _).drew : Below w225.heap.size w225 w225.drew)) b239) (ownL.rds o242) (ownL.rds o247)).mono ?_; rintro e w251 ⟨rfl, b252⟩))
  clear k257 k258 k259 k260 k261 k262 k263 k264
  have d265 : Below w225.heap.size w225 w225.drew := (Below.refl _ _).drew
  have t266 := Below.trans t227 (Below.mono d265 zb0)
  have s267 := Below.trans s228 (Below.mono d265 za0)
  replace o103 := ownL.keep o103 (fun q hq => Below.block d265 q (hs105 q hq))
  replace hs105 := fun q hq => Nat.lt_of_lt_of_le (hs105 q hq) (Below.size d265)
  replace o108 := ownL.keep o108 (fun q hq => Below.block d265 q (hs110 q hq))
  replace hs110 := fun q hq => Nat.lt_of_lt_of_le (hs110 q hq) (Below.size d265)
  replace o142 := ownL.keep o142 (fun q hq => Below.block d265 q (hs144 q hq))
  replace hs144 := fun q hq => Nat.lt_of_lt_of_le (hs144 q hq) (Below.size d265)
  replace o161 := ownL.keep o161 (fun q hq => Below.block d265 q (hs163 q hq))
  replace hs163 := fun q hq => Nat.lt_of_lt_of_le (hs163 q hq) (Below.size d265)
  replace o166 := ownL.keep o166 (fun q hq => Below.block d265 q (hs168 q hq))
  replace hs168 := fun q hq => Nat.lt_of_lt_of_le (hs168 q hq) (Below.size d265)
  replace o172 := ownL.keep o172 (fun q hq => Below.block d265 q (hs174 q hq))
  replace hs174 := fun q hq => Nat.lt_of_lt_of_le (hs174 q hq) (Below.size d265)
  replace bx_aS := Box.below bx_aS d265
  replace bx94 := Box.below bx94 d265
  replace bx131 := Box.below bx131 d265
  replace bx203 := Box.below bx203 d265
  have z268 := Below.size d265
  replace zb0 : W1.heap.size ≤ w225.drew.heap.size := by omega
  replace za0 : w52.heap.size ≤ w225.drew.heap.size := by omega
  have t269 := Below.trans t266 (Below.mono b239 zb0)
  have s270 := Below.trans s267 (Below.mono b239 za0)
  replace o103 := ownL.keep o103 (fun q hq => Below.block b239 q (hs105 q hq))
  replace hs105 := fun q hq => Nat.lt_of_lt_of_le (hs105 q hq) (Below.size b239)
  replace o108 := ownL.keep o108 (fun q hq => Below.block b239 q (hs110 q hq))
  replace hs110 := fun q hq => Nat.lt_of_lt_of_le (hs110 q hq) (Below.size b239)
  replace o142 := ownL.keep o142 (fun q hq => Below.block b239 q (hs144 q hq))
  replace hs144 := fun q hq => Nat.lt_of_lt_of_le (hs144 q hq) (Below.size b239)
  replace o161 := ownL.keep o161 (fun q hq => Below.block b239 q (hs163 q hq))
  replace hs163 := fun q hq => Nat.lt_of_lt_of_le (hs163 q hq) (Below.size b239)
  replace o166 := ownL.keep o166 (fun q hq => Below.block b239 q (hs168 q hq))
  replace hs168 := fun q hq => Nat.lt_of_lt_of_le (hs168 q hq) (Below.size b239)
  replace o172 := ownL.keep o172 (fun q hq => Below.block b239 q (hs174 q hq))
  replace hs174 := fun q hq => Nat.lt_of_lt_of_le (hs174 q hq) (Below.size b239)
  replace bx_aS := Box.below bx_aS b239
  replace bx94 := Box.below bx94 b239
  replace bx131 := Box.below bx131 b239
  replace bx203 := Box.below bx203 b239
  have z271 := Below.size b239
  replace zb0 : W1.heap.size ≤ w238.heap.size := by omega
  replace za0 : w52.heap.size ≤ w238.heap.size := by omega
  have t272 := Below.trans t269 (Below.mono b252 zb0)
  have s273 := Below.trans s270 (Below.mono b252 za0)
  replace o103 := ownL.keep o103 (fun q hq => Below.block b252 q (hs105 q hq))
  replace hs105 := fun q hq => Nat.lt_of_lt_of_le (hs105 q hq) (Below.size b252)
  replace o108 := ownL.keep o108 (fun q hq => Below.block b252 q (hs110 q hq))
  replace hs110 := fun q hq => Nat.lt_of_lt_of_le (hs110 q hq) (Below.size b252)
  replace o142 := ownL.keep o142 (fun q hq => Below.block b252 q (hs144 q hq))
  replace hs144 := fun q hq => Nat.lt_of_lt_of_le (hs144 q hq) (Below.size b252)
  replace o161 := ownL.keep o161 (fun q hq => Below.block b252 q (hs163 q hq))
  replace hs163 := fun q hq => Nat.lt_of_lt_of_le (hs163 q hq) (Below.size b252)
  replace o166 := ownL.keep o166 (fun q hq => Below.block b252 q (hs168 q hq))
  replace hs168 := fun q hq => Nat.lt_of_lt_of_le (hs168 q hq) (Below.size b252)
  replace o172 := ownL.keep o172 (fun q hq => Below.block b252 q (hs174 q hq))
  replace hs174 := fun q hq => Nat.lt_of_lt_of_le (hs174 q hq) (Below.size b252)
  replace bx_aS := Box.below bx_aS b252
  replace bx94 := Box.below bx94 b252
  replace bx131 := Box.below bx131 b252
  replace bx203 := Box.below bx203 b252
  have z274 := Below.size b252
  replace zb0 : W1.heap.size ≤ w251.heap.size := by omega
  replace za0 : w52.heap.size ≤ w251.heap.size := by omega
  have k275 : w251.cell? ⟨w.heap.size, 0, none⟩ = some ((Value.slice a_aS0 d_aS.heads_.length c_aS0)) := bx_aS.2 0 (by simp)
  have k276 : w251.cell? ⟨w.heap.size, 1, none⟩ = some ((Value.slice a_aS1 d_aS.descs_.length c_aS1)) := bx_aS.2 1 (by simp)
  have k277 : w251.cell? ⟨w52.heap.size, 0, none⟩ = some ((Value.slice a76 m77 c78)) := bx94.2 0 (by simp)
  have k278 : w251.cell? ⟨w52.heap.size, 1, none⟩ = some ((Value.slice a79 m80 c81)) := bx94.2 1 (by simp)
  have k279 : w251.cell? ⟨w99.heap.size, 0, none⟩ = some ((Value.slice a115 m116 c117)) := bx131.2 0 (by simp)
  have k280 : w251.cell? ⟨w99.heap.size, 1, none⟩ = some ((Value.slice a118 m119 c120)) := bx131.2 1 (by simp)
  have k281 : w251.cell? ⟨w157.heap.size, 0, none⟩ = some ((Value.slice a182 m183 c184)) := bx203.2 0 (by simp)
  have k282 : w251.cell? ⟨w157.heap.size, 1, none⟩ = some ((Value.slice a185 m186 c187)) := bx203.2 1 (by simp)
  go_wp2_with fail
  clear k275 k276 k277 k278 k279 k280 k281 k282
  refine (toFrameS_o d_aStack (Value.slice a_aStack0 d_aStack.length c_aStack0) _ (rdsL.below h_aStack0 t272) hb_aStack).mono ?_
  rintro e w283 ⟨u285, S286, rfl, o287, r288, b284⟩
  have t290 := Below.trans t272 (Below.mono b284 zb0)
  have s291 := Below.trans s273 (Below.mono b284 za0)
  replace o103 := ownL.keep o103 (fun q hq => Below.block b284 q (hs105 q hq))
  replace hs105 := fun q hq => Nat.lt_of_lt_of_le (hs105 q hq) (Below.size b284)
  replace o108 := ownL.keep o108 (fun q hq => Below.block b284 q (hs110 q hq))
  replace hs110 := fun q hq => Nat.lt_of_lt_of_le (hs110 q hq) (Below.size b284)
  replace o142 := ownL.keep o142 (fun q hq => Below.block b284 q (hs144 q hq))
  replace hs144 := fun q hq => Nat.lt_of_lt_of_le (hs144 q hq) (Below.size b284)
  replace o161 := ownL.keep o161 (fun q hq => Below.block b284 q (hs163 q hq))
  replace hs163 := fun q hq => Nat.lt_of_lt_of_le (hs163 q hq) (Below.size b284)
  replace o166 := ownL.keep o166 (fun q hq => Below.block b284 q (hs168 q hq))
  replace hs168 := fun q hq => Nat.lt_of_lt_of_le (hs168 q hq) (Below.size b284)
  replace o172 := ownL.keep o172 (fun q hq => Below.block b284 q (hs174 q hq))
  replace hs174 := fun q hq => Nat.lt_of_lt_of_le (hs174 q hq) (Below.size b284)
  replace bx_aS := Box.below bx_aS b284
  replace bx94 := Box.below bx94 b284
  replace bx131 := Box.below bx131 b284
  replace bx203 := Box.below bx203 b284
  have z292 := Below.size b284
  replace zb0 : W1.heap.size ≤ w283.heap.size := by omega
  replace za0 : w52.heap.size ≤ w283.heap.size := by omega
  obtain ⟨a293, m294, c295, rfl⟩ := ownL_shape o287
  have hs289 := fun q hq => (r288 q hq).2
  have k296 : w283.cell? ⟨w.heap.size, 0, none⟩ = some ((Value.slice a_aS0 d_aS.heads_.length c_aS0)) := bx_aS.2 0 (by simp)
  have k297 : w283.cell? ⟨w.heap.size, 1, none⟩ = some ((Value.slice a_aS1 d_aS.descs_.length c_aS1)) := bx_aS.2 1 (by simp)
  have k298 : w283.cell? ⟨w52.heap.size, 0, none⟩ = some ((Value.slice a76 m77 c78)) := bx94.2 0 (by simp)
  have k299 : w283.cell? ⟨w52.heap.size, 1, none⟩ = some ((Value.slice a79 m80 c81)) := bx94.2 1 (by simp)
  have k300 : w283.cell? ⟨w99.heap.size, 0, none⟩ = some ((Value.slice a115 m116 c117)) := bx131.2 0 (by simp)
  have k301 : w283.cell? ⟨w99.heap.size, 1, none⟩ = some ((Value.slice a118 m119 c120)) := bx131.2 1 (by simp)
  have k302 : w283.cell? ⟨w157.heap.size, 0, none⟩ = some ((Value.slice a182 m183 c184)) := bx203.2 0 (by simp)
  have k303 : w283.cell? ⟨w157.heap.size, 1, none⟩ = some ((Value.slice a185 m186 c187)) := bx203.2 1 (by simp)
  go_wp2_with fail
  clear k296 k297 k298 k299 k300 k301 k302 k303
  refine (eqFrameS_o _ _ _ _ (ownL.rds o142) (ownL.rds o287)).mono ?_
  rintro e w304 ⟨rfl, b305⟩
  have t306 := Below.trans t290 (Below.mono b305 zb0)
  have s307 := Below.trans s291 (Below.mono b305 za0)
  replace o103 := ownL.keep o103 (fun q hq => Below.block b305 q (hs105 q hq))
  replace hs105 := fun q hq => Nat.lt_of_lt_of_le (hs105 q hq) (Below.size b305)
  replace o108 := ownL.keep o108 (fun q hq => Below.block b305 q (hs110 q hq))
  replace hs110 := fun q hq => Nat.lt_of_lt_of_le (hs110 q hq) (Below.size b305)
  replace o142 := ownL.keep o142 (fun q hq => Below.block b305 q (hs144 q hq))
  replace hs144 := fun q hq => Nat.lt_of_lt_of_le (hs144 q hq) (Below.size b305)
  replace o161 := ownL.keep o161 (fun q hq => Below.block b305 q (hs163 q hq))
  replace hs163 := fun q hq => Nat.lt_of_lt_of_le (hs163 q hq) (Below.size b305)
  replace o166 := ownL.keep o166 (fun q hq => Below.block b305 q (hs168 q hq))
  replace hs168 := fun q hq => Nat.lt_of_lt_of_le (hs168 q hq) (Below.size b305)
  replace o172 := ownL.keep o172 (fun q hq => Below.block b305 q (hs174 q hq))
  replace hs174 := fun q hq => Nat.lt_of_lt_of_le (hs174 q hq) (Below.size b305)
  replace bx_aS := Box.below bx_aS b305
  replace bx94 := Box.below bx94 b305
  replace bx131 := Box.below bx131 b305
  replace bx203 := Box.below bx203 b305
  have z308 := Below.size b305
  replace zb0 : W1.heap.size ≤ w304.heap.size := by omega
  replace za0 : w52.heap.size ≤ w304.heap.size := by omega
  have k309 : w304.cell? ⟨w.heap.size, 0, none⟩ = some ((Value.slice a_aS0 d_aS.heads_.length c_aS0)) := bx_aS.2 0 (by simp)
  have k310 : w304.cell? ⟨w.heap.size, 1, none⟩ = some ((Value.slice a_aS1 d_aS.descs_.length c_aS1)) := bx_aS.2 1 (by simp)
  have k311 : w304.cell? ⟨w52.heap.size, 0, none⟩ = some ((Value.slice a76 m77 c78)) := bx94.2 0 (by simp)
  have k312 : w304.cell? ⟨w52.heap.size, 1, none⟩ = some ((Value.slice a79 m80 c81)) := bx94.2 1 (by simp)
  have k313 : w304.cell? ⟨w99.heap.size, 0, none⟩ = some ((Value.slice a115 m116 c117)) := bx131.2 0 (by simp)
  have k314 : w304.cell? ⟨w99.heap.size, 1, none⟩ = some ((Value.slice a118 m119 c120)) := bx131.2 1 (by simp)
  have k315 : w304.cell? ⟨w157.heap.size, 0, none⟩ = some ((Value.slice a182 m183 c184)) := bx203.2 0 (by simp)
  have k316 : w304.cell? ⟨w157.heap.size, 1, none⟩ = some ((Value.slice a185 m186 c187)) := bx203.2 1 (by simp)
  go_wp2_with fail
  clear k309 k310 k311 k312 k313 k314 k315 k316
  have le321 := cntS_le hb_aS
  refine (markStore_o S102 S107 _ _ _ _ _ hs105 hs110 dj111 hb_aS (by omega) (by omega) o103 o108).mono ?_
  rintro e w317 ⟨rfl, o319, o320, C318⟩
  have t322 := below_chg t306 C318 zb0 (by intro q hx; rcases hx with hx | hx; (have y := r104 q hx; have y1 := y.1; have y2 := y.2; omega); (have y := r109 q hx; have y1 := y.1; have y2 := y.2; omega))
  have s323 := below_chg s307 C318 za0 (by intro q hx; rcases hx with hx | hx; (have y := r104 q hx; have y1 := y.1; have y2 := y.2; omega); (have y := r109 q hx; have y1 := y.1; have y2 := y.2; omega))
  replace hs105 := fun q hq => Nat.lt_of_lt_of_le (hs105 q hq) (ChgS.size C318)
  replace hs110 := fun q hq => Nat.lt_of_lt_of_le (hs110 q hq) (ChgS.size C318)
  replace o142 := ownL.keep o142 (fun q hq => ChgS.block C318 q (hs144 q hq) (by intro hx; have x0 := r143 q hq; have x1 := x0.1; have x2 := x0.2; rcases hx with hx | hx; (have y := r104 q hx; have y1 := y.1; have y2 := y.2; omega); (have y := r109 q hx; have y1 := y.1; have y2 := y.2; omega)))
  replace hs144 := fun q hq => Nat.lt_of_lt_of_le (hs144 q hq) (ChgS.size C318)
  replace o161 := ownL.keep o161 (fun q hq => ChgS.block C318 q (hs163 q hq) (by intro hx; have x0 := r162 q hq; have x1 := x0.1; have x2 := x0.2; rcases hx with hx | hx; (have y := r104 q hx; have y1 := y.1; have y2 := y.2; omega); (have y := r109 q hx; have y1 := y.1; have y2 := y.2; omega)))
  replace hs163 := fun q hq => Nat.lt_of_lt_of_le (hs163 q hq) (ChgS.size C318)
  replace o166 := ownL.keep o166 (fun q hq => ChgS.block C318 q (hs168 q hq) (by intro hx; have x0 := r167 q hq; have x1 := x0.1; have x2 := x0.2; rcases hx with hx | hx; (have y := r104 q hx; have y1 := y.1; have y2 := y.2; omega); (have y := r109 q hx; have y1 := y.1; have y2 := y.2; omega)))
  replace hs168 := fun q hq => Nat.lt_of_lt_of_le (hs168 q hq) (ChgS.size C318)
  replace o172 := ownL.keep o172 (fun q hq => ChgS.block C318 q (hs174 q hq) (by intro hx; have x0 := r173 q hq; have x1 := x0.1; have x2 := x0.2; rcases hx with hx | hx; (have y := r104 q hx; have y1 := y.1; have y2 := y.2; omega); (have y := r109 q hx; have y1 := y.1; have y2 := y.2; omega)))
  replace hs174 := fun q hq => Nat.lt_of_lt_of_le (hs174 q hq) (ChgS.size C318)
  replace bx_aS := Box.chg bx_aS C318 (by intro hx; rcases hx with hx | hx; (have y := r104 _ hx; have y1 := y.1; have y2 := y.2; omega); (have y := r109 _ hx; have y1 := y.1; have y2 := y.2; omega))
  replace bx94 := Box.chg bx94 C318 (by intro hx; rcases hx with hx | hx; (have y := r104 _ hx; have y1 := y.1; have y2 := y.2; omega); (have y := r109 _ hx; have y1 := y.1; have y2 := y.2; omega))
  replace bx131 := Box.chg bx131 C318 (by intro hx; rcases hx with hx | hx; (have y := r104 _ hx; have y1 := y.1; have y2 := y.2; omega); (have y := r109 _ hx; have y1 := y.1; have y2 := y.2; omega))
  replace bx203 := Box.chg bx203 C318 (by intro hx; rcases hx with hx | hx; (have y := r104 _ hx; have y1 := y.1; have y2 := y.2; omega); (have y := r109 _ hx; have y1 := y.1; have y2 := y.2; omega))
  have z324 := ChgS.size C318
  replace zb0 : W1.heap.size ≤ w317.heap.size := by omega
  replace za0 : w52.heap.size ≤ w317.heap.size := by omega
  have k325 : w317.cell? ⟨w.heap.size, 0, none⟩ = some ((Value.slice a_aS0 d_aS.heads_.length c_aS0)) := bx_aS.2 0 (by simp)
  have k326 : w317.cell? ⟨w.heap.size, 1, none⟩ = some ((Value.slice a_aS1 d_aS.descs_.length c_aS1)) := bx_aS.2 1 (by simp)
  have k327 : w317.cell? ⟨w52.heap.size, 0, none⟩ = some ((Value.slice a76 m77 c78)) := bx94.2 0 (by simp)
  have k328 : w317.cell? ⟨w52.heap.size, 1, none⟩ = some ((Value.slice a79 m80 c81)) := bx94.2 1 (by simp)
  have k329 : w317.cell? ⟨w99.heap.size, 0, none⟩ = some ((Value.slice a115 m116 c117)) := bx131.2 0 (by simp)
  have k330 : w317.cell? ⟨w99.heap.size, 1, none⟩ = some ((Value.slice a118 m119 c120)) := bx131.2 1 (by simp)
  have k331 : w317.cell? ⟨w157.heap.size, 0, none⟩ = some ((Value.slice a182 m183 c184)) := bx203.2 0 (by simp)
  have k332 : w317.cell? ⟨w157.heap.size, 1, none⟩ = some ((Value.slice a185 m186 c187)) := bx203.2 1 (by simp)
  go_wp2_with fail
  clear k325 k326 k327 k328 k329 k330 k331 k332
  have le336 := cntFrameS_le hb_aStack
  refine (markFrameS_o S141 _ _ _ _ hs144  hb_aStack (by omega) (by omega) o142).mono ?_
  rintro e w333 ⟨rfl, o335, C334⟩
  have t337 := below_chg t322 C334 zb0 (by intro q hx; have y := r143 q hx; have y1 := y.1; have y2 := y.2; omega)
  have s338 := below_chg s323 C334 za0 (by intro q hx; have y := r143 q hx; have y1 := y.1; have y2 := y.2; omega)
  replace o319 := ownL.keep o319 (fun q hq => ChgS.block C334 q (hs105 q hq) (by intro hx; have x0 := r104 q hq; have x1 := x0.1; have x2 := x0.2; have y := r143 q hx; have y1 := y.1; have y2 := y.2; omega))
  replace hs105 := fun q hq => Nat.lt_of_lt_of_le (hs105 q hq) (ChgS.size C334)
  replace o320 := ownL.keep o320 (fun q hq => ChgS.block C334 q (hs110 q hq) (by intro hx; have x0 := r109 q hq; have x1 := x0.1; have x2 := x0.2; have y := r143 q hx; have y1 := y.1; have y2 := y.2; omega))
  replace hs110 := fun q hq => Nat.lt_of_lt_of_le (hs110 q hq) (ChgS.size C334)
  replace hs144 := fun q hq => Nat.lt_of_lt_of_le (hs144 q hq) (ChgS.size C334)
  replace o161 := ownL.keep o161 (fun q hq => ChgS.block C334 q (hs163 q hq) (by intro hx; have x0 := r162 q hq; have x1 := x0.1; have x2 := x0.2; have y := r143 q hx; have y1 := y.1; have y2 := y.2; omega))
  replace hs163 := fun q hq => Nat.lt_of_lt_of_le (hs163 q hq) (ChgS.size C334)
  replace o166 := ownL.keep o166 (fun q hq => ChgS.block C334 q (hs168 q hq) (by intro hx; have x0 := r167 q hq; have x1 := x0.1; have x2 := x0.2; have y := r143 q hx; have y1 := y.1; have y2 := y.2; omega))
  replace hs168 := fun q hq => Nat.lt_of_lt_of_le (hs168 q hq) (ChgS.size C334)
  replace o172 := ownL.keep o172 (fun q hq => ChgS.block C334 q (hs174 q hq) (by intro hx; have x0 := r173 q hq; have x1 := x0.1; have x2 := x0.2; have y := r143 q hx; have y1 := y.1; have y2 := y.2; omega))
  replace hs174 := fun q hq => Nat.lt_of_lt_of_le (hs174 q hq) (ChgS.size C334)
  replace bx_aS := Box.chg bx_aS C334 (by intro hx; have y := r143 _ hx; have y1 := y.1; have y2 := y.2; omega)
  replace bx94 := Box.chg bx94 C334 (by intro hx; have y := r143 _ hx; have y1 := y.1; have y2 := y.2; omega)
  replace bx131 := Box.chg bx131 C334 (by intro hx; have y := r143 _ hx; have y1 := y.1; have y2 := y.2; omega)
  replace bx203 := Box.chg bx203 C334 (by intro hx; have y := r143 _ hx; have y1 := y.1; have y2 := y.2; omega)
  have z339 := ChgS.size C334
  replace zb0 : W1.heap.size ≤ w333.heap.size := by omega
  replace za0 : w52.heap.size ≤ w333.heap.size := by omega
  have k340 : w333.cell? ⟨w.heap.size, 0, none⟩ = some ((Value.slice a_aS0 d_aS.heads_.length c_aS0)) := bx_aS.2 0 (by simp)
  have k341 : w333.cell? ⟨w.heap.size, 1, none⟩ = some ((Value.slice a_aS1 d_aS.descs_.length c_aS1)) := bx_aS.2 1 (by simp)
  have k342 : w333.cell? ⟨w52.heap.size, 0, none⟩ = some ((Value.slice a76 m77 c78)) := bx94.2 0 (by simp)
  have k343 : w333.cell? ⟨w52.heap.size, 1, none⟩ = some ((Value.slice a79 m80 c81)) := bx94.2 1 (by simp)
  have k344 : w333.cell? ⟨w99.heap.size, 0, none⟩ = some ((Value.slice a115 m116 c117)) := bx131.2 0 (by simp)
  have k345 : w333.cell? ⟨w99.heap.size, 1, none⟩ = some ((Value.slice a118 m119 c120)) := bx131.2 1 (by simp)
  have k346 : w333.cell? ⟨w157.heap.size, 0, none⟩ = some ((Value.slice a182 m183 c184)) := bx203.2 0 (by simp)
  have k347 : w333.cell? ⟨w157.heap.size, 1, none⟩ = some ((Value.slice a185 m186 c187)) := bx203.2 1 (by simp)
  go_wp2_with fail
  clear k340 k341 k342 k343 k344 k345 k346 k347
  refine (eqStore_o _ _ _ _ _ _ (ownL.rds o161) (ownL.rds o166) (rdsL.below o56 s338) (rdsL.below o61 s338)).mono ?_
  rintro e w348 ⟨rfl, b349⟩
  have t350 := Below.trans t337 (Below.mono b349 zb0)
  have s351 := Below.trans s338 (Below.mono b349 za0)
  replace o319 := ownL.keep o319 (fun q hq => Below.block b349 q (hs105 q hq))
  replace hs105 := fun q hq => Nat.lt_of_lt_of_le (hs105 q hq) (Below.size b349)
  replace o320 := ownL.keep o320 (fun q hq => Below.block b349 q (hs110 q hq))
  replace hs110 := fun q hq => Nat.lt_of_lt_of_le (hs110 q hq) (Below.size b349)
  replace o335 := ownL.keep o335 (fun q hq => Below.block b349 q (hs144 q hq))
  replace hs144 := fun q hq => Nat.lt_of_lt_of_le (hs144 q hq) (Below.size b349)
  replace o161 := ownL.keep o161 (fun q hq => Below.block b349 q (hs163 q hq))
  replace hs163 := fun q hq => Nat.lt_of_lt_of_le (hs163 q hq) (Below.size b349)
  replace o166 := ownL.keep o166 (fun q hq => Below.block b349 q (hs168 q hq))
  replace hs168 := fun q hq => Nat.lt_of_lt_of_le (hs168 q hq) (Below.size b349)
  replace o172 := ownL.keep o172 (fun q hq => Below.block b349 q (hs174 q hq))
  replace hs174 := fun q hq => Nat.lt_of_lt_of_le (hs174 q hq) (Below.size b349)
  replace bx_aS := Box.below bx_aS b349
  replace bx94 := Box.below bx94 b349
  replace bx131 := Box.below bx131 b349
  replace bx203 := Box.below bx203 b349
  have z352 := Below.size b349
  replace zb0 : W1.heap.size ≤ w348.heap.size := by omega
  replace za0 : w52.heap.size ≤ w348.heap.size := by omega
  have k353 : w348.cell? ⟨w.heap.size, 0, none⟩ = some ((Value.slice a_aS0 d_aS.heads_.length c_aS0)) := bx_aS.2 0 (by simp)
  have k354 : w348.cell? ⟨w.heap.size, 1, none⟩ = some ((Value.slice a_aS1 d_aS.descs_.length c_aS1)) := bx_aS.2 1 (by simp)
  have k355 : w348.cell? ⟨w52.heap.size, 0, none⟩ = some ((Value.slice a76 m77 c78)) := bx94.2 0 (by simp)
  have k356 : w348.cell? ⟨w52.heap.size, 1, none⟩ = some ((Value.slice a79 m80 c81)) := bx94.2 1 (by simp)
  have k357 : w348.cell? ⟨w99.heap.size, 0, none⟩ = some ((Value.slice a115 m116 c117)) := bx131.2 0 (by simp)
  have k358 : w348.cell? ⟨w99.heap.size, 1, none⟩ = some ((Value.slice a118 m119 c120)) := bx131.2 1 (by simp)
  have k359 : w348.cell? ⟨w157.heap.size, 0, none⟩ = some ((Value.slice a182 m183 c184)) := bx203.2 0 (by simp)
  have k360 : w348.cell? ⟨w157.heap.size, 1, none⟩ = some ((Value.slice a185 m186 c187)) := bx203.2 1 (by simp)
  go_wp2_with fail
  clear k353 k354 k355 k356 k357 k358 k359 k360
  refine (eqFrameS_o _ _ _ _ (ownL.rds o172) (rdsL.below o67 s351)).mono ?_
  rintro e w361 ⟨rfl, b362⟩
  have t363 := Below.trans t350 (Below.mono b362 zb0)
  have s364 := Below.trans s351 (Below.mono b362 za0)
  replace o319 := ownL.keep o319 (fun q hq => Below.block b362 q (hs105 q hq))
  replace hs105 := fun q hq => Nat.lt_of_lt_of_le (hs105 q hq) (Below.size b362)
  replace o320 := ownL.keep o320 (fun q hq => Below.block b362 q (hs110 q hq))
  replace hs110 := fun q hq => Nat.lt_of_lt_of_le (hs110 q hq) (Below.size b362)
  replace o335 := ownL.keep o335 (fun q hq => Below.block b362 q (hs144 q hq))
  replace hs144 := fun q hq => Nat.lt_of_lt_of_le (hs144 q hq) (Below.size b362)
  replace o161 := ownL.keep o161 (fun q hq => Below.block b362 q (hs163 q hq))
  replace hs163 := fun q hq => Nat.lt_of_lt_of_le (hs163 q hq) (Below.size b362)
  replace o166 := ownL.keep o166 (fun q hq => Below.block b362 q (hs168 q hq))
  replace hs168 := fun q hq => Nat.lt_of_lt_of_le (hs168 q hq) (Below.size b362)
  replace o172 := ownL.keep o172 (fun q hq => Below.block b362 q (hs174 q hq))
  replace hs174 := fun q hq => Nat.lt_of_lt_of_le (hs174 q hq) (Below.size b362)
  replace bx_aS := Box.below bx_aS b362
  replace bx94 := Box.below bx94 b362
  replace bx131 := Box.below bx131 b362
  replace bx203 := Box.below bx203 b362
  have z365 := Below.size b362
  replace zb0 : W1.heap.size ≤ w361.heap.size := by omega
  replace za0 : w52.heap.size ≤ w361.heap.size := by omega
  have k366 : w361.cell? ⟨w.heap.size, 0, none⟩ = some ((Value.slice a_aS0 d_aS.heads_.length c_aS0)) := bx_aS.2 0 (by simp)
  have k367 : w361.cell? ⟨w.heap.size, 1, none⟩ = some ((Value.slice a_aS1 d_aS.descs_.length c_aS1)) := bx_aS.2 1 (by simp)
  have k368 : w361.cell? ⟨w52.heap.size, 0, none⟩ = some ((Value.slice a76 m77 c78)) := bx94.2 0 (by simp)
  have k369 : w361.cell? ⟨w52.heap.size, 1, none⟩ = some ((Value.slice a79 m80 c81)) := bx94.2 1 (by simp)
  have k370 : w361.cell? ⟨w99.heap.size, 0, none⟩ = some ((Value.slice a115 m116 c117)) := bx131.2 0 (by simp)
  have k371 : w361.cell? ⟨w99.heap.size, 1, none⟩ = some ((Value.slice a118 m119 c120)) := bx131.2 1 (by simp)
  have k372 : w361.cell? ⟨w157.heap.size, 0, none⟩ = some ((Value.slice a182 m183 c184)) := bx203.2 0 (by simp)
  have k373 : w361.cell? ⟨w157.heap.size, 1, none⟩ = some ((Value.slice a185 m186 c187)) := bx203.2 1 (by simp)
  go_wp2_with fail
  clear k366 k367 k368 k369 k370 k371 k372 k373
  have le378 := cntS_le hb169
  refine (markStore_o S160 S165 _ _ _ _ _ hs163 hs168 dj176 hb169 (by omega) (by omega) o161 o166).mono ?_
  rintro e w374 ⟨rfl, o376, o377, C375⟩
  have t379 := below_chg t363 C375 zb0 (by intro q hx; rcases hx with hx | hx; (have y := r162 q hx; have y1 := y.1; have y2 := y.2; omega); (have y := r167 q hx; have y1 := y.1; have y2 := y.2; omega))
  have s380 := below_chg s364 C375 za0 (by intro q hx; rcases hx with hx | hx; (have y := r162 q hx; have y1 := y.1; have y2 := y.2; omega); (have y := r167 q hx; have y1 := y.1; have y2 := y.2; omega))
  replace o319 := ownL.keep o319 (fun q hq => ChgS.block C375 q (hs105 q hq) (by intro hx; have x0 := r104 q hq; have x1 := x0.1; have x2 := x0.2; rcases hx with hx | hx; (have y := r162 q hx; have y1 := y.1; have y2 := y.2; omega); (have y := r167 q hx; have y1 := y.1; have y2 := y.2; omega)))
  replace hs105 := fun q hq => Nat.lt_of_lt_of_le (hs105 q hq) (ChgS.size C375)
  replace o320 := ownL.keep o320 (fun q hq => ChgS.block C375 q (hs110 q hq) (by intro hx; have x0 := r109 q hq; have x1 := x0.1; have x2 := x0.2; rcases hx with hx | hx; (have y := r162 q hx; have y1 := y.1; have y2 := y.2; omega); (have y := r167 q hx; have y1 := y.1; have y2 := y.2; omega)))
  replace hs110 := fun q hq => Nat.lt_of_lt_of_le (hs110 q hq) (ChgS.size C375)
  replace o335 := ownL.keep o335 (fun q hq => ChgS.block C375 q (hs144 q hq) (by intro hx; have x0 := r143 q hq; have x1 := x0.1; have x2 := x0.2; rcases hx with hx | hx; (have y := r162 q hx; have y1 := y.1; have y2 := y.2; omega); (have y := r167 q hx; have y1 := y.1; have y2 := y.2; omega)))
  replace hs144 := fun q hq => Nat.lt_of_lt_of_le (hs144 q hq) (ChgS.size C375)
  replace hs163 := fun q hq => Nat.lt_of_lt_of_le (hs163 q hq) (ChgS.size C375)
  replace hs168 := fun q hq => Nat.lt_of_lt_of_le (hs168 q hq) (ChgS.size C375)
  replace o172 := ownL.keep o172 (fun q hq => ChgS.block C375 q (hs174 q hq) (by intro hx; have x0 := r173 q hq; have x1 := x0.1; have x2 := x0.2; rcases hx with hx | hx; (exact dj177 q hx hq); (exact dj178 q hx hq)))
  replace hs174 := fun q hq => Nat.lt_of_lt_of_le (hs174 q hq) (ChgS.size C375)
  replace bx_aS := Box.chg bx_aS C375 (by intro hx; rcases hx with hx | hx; (have y := r162 _ hx; have y1 := y.1; have y2 := y.2; omega); (have y := r167 _ hx; have y1 := y.1; have y2 := y.2; omega))
  replace bx94 := Box.chg bx94 C375 (by intro hx; rcases hx with hx | hx; (have y := r162 _ hx; have y1 := y.1; have y2 := y.2; omega); (have y := r167 _ hx; have y1 := y.1; have y2 := y.2; omega))
  replace bx131 := Box.chg bx131 C375 (by intro hx; rcases hx with hx | hx; (have y := r162 _ hx; have y1 := y.1; have y2 := y.2; omega); (have y := r167 _ hx; have y1 := y.1; have y2 := y.2; omega))
  replace bx203 := Box.chg bx203 C375 (by intro hx; rcases hx with hx | hx; (have y := r162 _ hx; have y1 := y.1; have y2 := y.2; omega); (have y := r167 _ hx; have y1 := y.1; have y2 := y.2; omega))
  have z381 := ChgS.size C375
  replace zb0 : W1.heap.size ≤ w374.heap.size := by omega
  replace za0 : w52.heap.size ≤ w374.heap.size := by omega
  have k382 : w374.cell? ⟨w.heap.size, 0, none⟩ = some ((Value.slice a_aS0 d_aS.heads_.length c_aS0)) := bx_aS.2 0 (by simp)
  have k383 : w374.cell? ⟨w.heap.size, 1, none⟩ = some ((Value.slice a_aS1 d_aS.descs_.length c_aS1)) := bx_aS.2 1 (by simp)
  have k384 : w374.cell? ⟨w52.heap.size, 0, none⟩ = some ((Value.slice a76 m77 c78)) := bx94.2 0 (by simp)
  have k385 : w374.cell? ⟨w52.heap.size, 1, none⟩ = some ((Value.slice a79 m80 c81)) := bx94.2 1 (by simp)
  have k386 : w374.cell? ⟨w99.heap.size, 0, none⟩ = some ((Value.slice a115 m116 c117)) := bx131.2 0 (by simp)
  have k387 : w374.cell? ⟨w99.heap.size, 1, none⟩ = some ((Value.slice a118 m119 c120)) := bx131.2 1 (by simp)
  have k388 : w374.cell? ⟨w157.heap.size, 0, none⟩ = some ((Value.slice a182 m183 c184)) := bx203.2 0 (by simp)
  have k389 : w374.cell? ⟨w157.heap.size, 1, none⟩ = some ((Value.slice a185 m186 c187)) := bx203.2 1 (by simp)
  go_wp2_with fail
  clear k382 k383 k384 k385 k386 k387 k388 k389
  have le393 := cntFrameS_le hb175
  refine (markFrameS_o S171 _ _ _ _ hs174  hb175 (by omega) (by omega) o172).mono ?_
  rintro e w390 ⟨rfl, o392, C391⟩
  have t394 := below_chg t379 C391 zb0 (by intro q hx; have y := r173 q hx; have y1 := y.1; have y2 := y.2; omega)
  have s395 := below_chg s380 C391 za0 (by intro q hx; have y := r173 q hx; have y1 := y.1; have y2 := y.2; omega)
  replace o319 := ownL.keep o319 (fun q hq => ChgS.block C391 q (hs105 q hq) (by intro hx; have x0 := r104 q hq; have x1 := x0.1; have x2 := x0.2; have y := r173 q hx; have y1 := y.1; have y2 := y.2; omega))
  replace hs105 := fun q hq => Nat.lt_of_lt_of_le (hs105 q hq) (ChgS.size C391)
  replace o320 := ownL.keep o320 (fun q hq => ChgS.block C391 q (hs110 q hq) (by intro hx; have x0 := r109 q hq; have x1 := x0.1; have x2 := x0.2; have y := r173 q hx; have y1 := y.1; have y2 := y.2; omega))
  replace hs110 := fun q hq => Nat.lt_of_lt_of_le (hs110 q hq) (ChgS.size C391)
  replace o335 := ownL.keep o335 (fun q hq => ChgS.block C391 q (hs144 q hq) (by intro hx; have x0 := r143 q hq; have x1 := x0.1; have x2 := x0.2; have y := r173 q hx; have y1 := y.1; have y2 := y.2; omega))
  replace hs144 := fun q hq => Nat.lt_of_lt_of_le (hs144 q hq) (ChgS.size C391)
  replace o376 := ownL.keep o376 (fun q hq => ChgS.block C391 q (hs163 q hq) (by intro hx; have x0 := r162 q hq; have x1 := x0.1; have x2 := x0.2; exact dj177 q hq hx))
  replace hs163 := fun q hq => Nat.lt_of_lt_of_le (hs163 q hq) (ChgS.size C391)
  replace o377 := ownL.keep o377 (fun q hq => ChgS.block C391 q (hs168 q hq) (by intro hx; have x0 := r167 q hq; have x1 := x0.1; have x2 := x0.2; exact dj178 q hq hx))
  replace hs168 := fun q hq => Nat.lt_of_lt_of_le (hs168 q hq) (ChgS.size C391)
  replace hs174 := fun q hq => Nat.lt_of_lt_of_le (hs174 q hq) (ChgS.size C391)
  replace bx_aS := Box.chg bx_aS C391 (by intro hx; have y := r173 _ hx; have y1 := y.1; have y2 := y.2; omega)
  replace bx94 := Box.chg bx94 C391 (by intro hx; have y := r173 _ hx; have y1 := y.1; have y2 := y.2; omega)
  replace bx131 := Box.chg bx131 C391 (by intro hx; have y := r173 _ hx; have y1 := y.1; have y2 := y.2; omega)
  replace bx203 := Box.chg bx203 C391 (by intro hx; have y := r173 _ hx; have y1 := y.1; have y2 := y.2; omega)
  have z396 := ChgS.size C391
  replace zb0 : W1.heap.size ≤ w390.heap.size := by omega
  replace za0 : w52.heap.size ≤ w390.heap.size := by omega
  have k397 : w390.cell? ⟨w.heap.size, 0, none⟩ = some ((Value.slice a_aS0 d_aS.heads_.length c_aS0)) := bx_aS.2 0 (by simp)
  have k398 : w390.cell? ⟨w.heap.size, 1, none⟩ = some ((Value.slice a_aS1 d_aS.descs_.length c_aS1)) := bx_aS.2 1 (by simp)
  have k399 : w390.cell? ⟨w52.heap.size, 0, none⟩ = some ((Value.slice a76 m77 c78)) := bx94.2 0 (by simp)
  have k400 : w390.cell? ⟨w52.heap.size, 1, none⟩ = some ((Value.slice a79 m80 c81)) := bx94.2 1 (by simp)
  have k401 : w390.cell? ⟨w99.heap.size, 0, none⟩ = some ((Value.slice a115 m116 c117)) := bx131.2 0 (by simp)
  have k402 : w390.cell? ⟨w99.heap.size, 1, none⟩ = some ((Value.slice a118 m119 c120)) := bx131.2 1 (by simp)
  have k403 : w390.cell? ⟨w157.heap.size, 0, none⟩ = some ((Value.slice a182 m183 c184)) := bx203.2 0 (by simp)
  have k404 : w390.cell? ⟨w157.heap.size, 1, none⟩ = some ((Value.slice a185 m186 c187)) := bx203.2 1 (by simp)
  go_wp2_with fail
  clear k397 k398 k399 k400 k401 k402 k403 k404
  refine (heldStore_o _ _ _ _ _ hb169 (by omega) (by omega) (ownL.rds o376) (ownL.rds o377)).mono ?_
  rintro e w405 ⟨rfl, b406⟩
  have t407 := Below.trans t394 (Below.mono b406 zb0)
  have s408 := Below.trans s395 (Below.mono b406 za0)
  replace o319 := ownL.keep o319 (fun q hq => Below.block b406 q (hs105 q hq))
  replace hs105 := fun q hq => Nat.lt_of_lt_of_le (hs105 q hq) (Below.size b406)
  replace o320 := ownL.keep o320 (fun q hq => Below.block b406 q (hs110 q hq))
  replace hs110 := fun q hq => Nat.lt_of_lt_of_le (hs110 q hq) (Below.size b406)
  replace o335 := ownL.keep o335 (fun q hq => Below.block b406 q (hs144 q hq))
  replace hs144 := fun q hq => Nat.lt_of_lt_of_le (hs144 q hq) (Below.size b406)
  replace o376 := ownL.keep o376 (fun q hq => Below.block b406 q (hs163 q hq))
  replace hs163 := fun q hq => Nat.lt_of_lt_of_le (hs163 q hq) (Below.size b406)
  replace o377 := ownL.keep o377 (fun q hq => Below.block b406 q (hs168 q hq))
  replace hs168 := fun q hq => Nat.lt_of_lt_of_le (hs168 q hq) (Below.size b406)
  replace o392 := ownL.keep o392 (fun q hq => Below.block b406 q (hs174 q hq))
  replace hs174 := fun q hq => Nat.lt_of_lt_of_le (hs174 q hq) (Below.size b406)
  replace bx_aS := Box.below bx_aS b406
  replace bx94 := Box.below bx94 b406
  replace bx131 := Box.below bx131 b406
  replace bx203 := Box.below bx203 b406
  have z409 := Below.size b406
  replace zb0 : W1.heap.size ≤ w405.heap.size := by omega
  replace za0 : w52.heap.size ≤ w405.heap.size := by omega
  have k410 : w405.cell? ⟨w.heap.size, 0, none⟩ = some ((Value.slice a_aS0 d_aS.heads_.length c_aS0)) := bx_aS.2 0 (by simp)
  have k411 : w405.cell? ⟨w.heap.size, 1, none⟩ = some ((Value.slice a_aS1 d_aS.descs_.length c_aS1)) := bx_aS.2 1 (by simp)
  have k412 : w405.cell? ⟨w52.heap.size, 0, none⟩ = some ((Value.slice a76 m77 c78)) := bx94.2 0 (by simp)
  have k413 : w405.cell? ⟨w52.heap.size, 1, none⟩ = some ((Value.slice a79 m80 c81)) := bx94.2 1 (by simp)
  have k414 : w405.cell? ⟨w99.heap.size, 0, none⟩ = some ((Value.slice a115 m116 c117)) := bx131.2 0 (by simp)
  have k415 : w405.cell? ⟨w99.heap.size, 1, none⟩ = some ((Value.slice a118 m119 c120)) := bx131.2 1 (by simp)
  have k416 : w405.cell? ⟨w157.heap.size, 0, none⟩ = some ((Value.slice a182 m183 c184)) := bx203.2 0 (by simp)
  have k417 : w405.cell? ⟨w157.heap.size, 1, none⟩ = some ((Value.slice a185 m186 c187)) := bx203.2 1 (by simp)
  go_wp2_with fail
  clear k410 k411 k412 k413 k414 k415 k416 k417
  refine (heldFrameS_o _ _ _ _ hb175 (by omega) (by omega) (ownL.rds o392)).mono ?_
  rintro e w418 ⟨rfl, b419⟩
  have t420 := Below.trans t407 (Below.mono b419 zb0)
  have s421 := Below.trans s408 (Below.mono b419 za0)
  replace o319 := ownL.keep o319 (fun q hq => Below.block b419 q (hs105 q hq))
  replace hs105 := fun q hq => Nat.lt_of_lt_of_le (hs105 q hq) (Below.size b419)
  replace o320 := ownL.keep o320 (fun q hq => Below.block b419 q (hs110 q hq))
  replace hs110 := fun q hq => Nat.lt_of_lt_of_le (hs110 q hq) (Below.size b419)
  replace o335 := ownL.keep o335 (fun q hq => Below.block b419 q (hs144 q hq))
  replace hs144 := fun q hq => Nat.lt_of_lt_of_le (hs144 q hq) (Below.size b419)
  replace o376 := ownL.keep o376 (fun q hq => Below.block b419 q (hs163 q hq))
  replace hs163 := fun q hq => Nat.lt_of_lt_of_le (hs163 q hq) (Below.size b419)
  replace o377 := ownL.keep o377 (fun q hq => Below.block b419 q (hs168 q hq))
  replace hs168 := fun q hq => Nat.lt_of_lt_of_le (hs168 q hq) (Below.size b419)
  replace o392 := ownL.keep o392 (fun q hq => Below.block b419 q (hs174 q hq))
  replace hs174 := fun q hq => Nat.lt_of_lt_of_le (hs174 q hq) (Below.size b419)
  replace bx_aS := Box.below bx_aS b419
  replace bx94 := Box.below bx94 b419
  replace bx131 := Box.below bx131 b419
  replace bx203 := Box.below bx203 b419
  have z422 := Below.size b419
  replace zb0 : W1.heap.size ≤ w418.heap.size := by omega
  replace za0 : w52.heap.size ≤ w418.heap.size := by omega
  have k423 : w418.cell? ⟨w.heap.size, 0, none⟩ = some ((Value.slice a_aS0 d_aS.heads_.length c_aS0)) := bx_aS.2 0 (by simp)
  have k424 : w418.cell? ⟨w.heap.size, 1, none⟩ = some ((Value.slice a_aS1 d_aS.descs_.length c_aS1)) := bx_aS.2 1 (by simp)
  have k425 : w418.cell? ⟨w52.heap.size, 0, none⟩ = some ((Value.slice a76 m77 c78)) := bx94.2 0 (by simp)
  have k426 : w418.cell? ⟨w52.heap.size, 1, none⟩ = some ((Value.slice a79 m80 c81)) := bx94.2 1 (by simp)
  have k427 : w418.cell? ⟨w99.heap.size, 0, none⟩ = some ((Value.slice a115 m116 c117)) := bx131.2 0 (by simp)
  have k428 : w418.cell? ⟨w99.heap.size, 1, none⟩ = some ((Value.slice a118 m119 c120)) := bx131.2 1 (by simp)
  have k429 : w418.cell? ⟨w157.heap.size, 0, none⟩ = some ((Value.slice a182 m183 c184)) := bx203.2 0 (by simp)
  have k430 : w418.cell? ⟨w157.heap.size, 1, none⟩ = some ((Value.slice a185 m186 c187)) := bx203.2 1 (by simp)
  go_wp2_with fail
  clear k423 k424 k425 k426 k427 k428 k429 k430
  refine (toStore_o d_aS (Value.slice a_aS0 d_aS.heads_.length c_aS0) (Value.slice a_aS1 d_aS.descs_.length c_aS1) _ (rdsL.below h_aS0 t420) (rdsL.below h_aS1 t420) hb_aS).mono ?_
  rintro e w431 ⟨u433, u438, S434, S439, rfl, o435, o440, r436, r441, dj443, b432⟩
  have t444 := Below.trans t420 (Below.mono b432 zb0)
  have s445 := Below.trans s421 (Below.mono b432 za0)
  replace o319 := ownL.keep o319 (fun q hq => Below.block b432 q (hs105 q hq))
  replace hs105 := fun q hq => Nat.lt_of_lt_of_le (hs105 q hq) (Below.size b432)
  replace o320 := ownL.keep o320 (fun q hq => Below.block b432 q (hs110 q hq))
  replace hs110 := fun q hq => Nat.lt_of_lt_of_le (hs110 q hq) (Below.size b432)
  replace o335 := ownL.keep o335 (fun q hq => Below.block b432 q (hs144 q hq))
  replace hs144 := fun q hq => Nat.lt_of_lt_of_le (hs144 q hq) (Below.size b432)
  replace o376 := ownL.keep o376 (fun q hq => Below.block b432 q (hs163 q hq))
  replace hs163 := fun q hq => Nat.lt_of_lt_of_le (hs163 q hq) (Below.size b432)
  replace o377 := ownL.keep o377 (fun q hq => Below.block b432 q (hs168 q hq))
  replace hs168 := fun q hq => Nat.lt_of_lt_of_le (hs168 q hq) (Below.size b432)
  replace o392 := ownL.keep o392 (fun q hq => Below.block b432 q (hs174 q hq))
  replace hs174 := fun q hq => Nat.lt_of_lt_of_le (hs174 q hq) (Below.size b432)
  replace bx_aS := Box.below bx_aS b432
  replace bx94 := Box.below bx94 b432
  replace bx131 := Box.below bx131 b432
  replace bx203 := Box.below bx203 b432
  have z446 := Below.size b432
  replace zb0 : W1.heap.size ≤ w431.heap.size := by omega
  replace za0 : w52.heap.size ≤ w431.heap.size := by omega
  obtain ⟨a447, m448, c449, rfl⟩ := ownL_shape o435
  have hs437 := fun q hq => (r436 q hq).2
  obtain ⟨a450, m451, c452, rfl⟩ := ownL_shape o440
  have hs442 := fun q hq => (r441 q hq).2
  have k453 : w431.cell? ⟨w.heap.size, 0, none⟩ = some ((Value.slice a_aS0 d_aS.heads_.length c_aS0)) := bx_aS.2 0 (by simp)
  have k454 : w431.cell? ⟨w.heap.size, 1, none⟩ = some ((Value.slice a_aS1 d_aS.descs_.length c_aS1)) := bx_aS.2 1 (by simp)
  have k455 : w431.cell? ⟨w52.heap.size, 0, none⟩ = some ((Value.slice a76 m77 c78)) := bx94.2 0 (by simp)
  have k456 : w431.cell? ⟨w52.heap.size, 1, none⟩ = some ((Value.slice a79 m80 c81)) := bx94.2 1 (by simp)
  have k457 : w431.cell? ⟨w99.heap.size, 0, none⟩ = some ((Value.slice a115 m116 c117)) := bx131.2 0 (by simp)
  have k458 : w431.cell? ⟨w99.heap.size, 1, none⟩ = some ((Value.slice a118 m119 c120)) := bx131.2 1 (by simp)
  have k459 : w431.cell? ⟨w157.heap.size, 0, none⟩ = some ((Value.slice a182 m183 c184)) := bx203.2 0 (by simp)
  have k460 : w431.cell? ⟨w157.heap.size, 1, none⟩ = some ((Value.slice a185 m186 c187)) := bx203.2 1 (by simp)
  go_wp2_with fail
  clear k453 k454 k455 k456 k457 k458 k459 k460
  refine (toFrameS_o d_aStack (Value.slice a_aStack0 d_aStack.length c_aStack0) _ (rdsL.below h_aStack0 t444) hb_aStack).mono ?_
  rintro e w461 ⟨u463, S464, rfl, o465, r466, b462⟩
  have t468 := Below.trans t444 (Below.mono b462 zb0)
  have s469 := Below.trans s445 (Below.mono b462 za0)
  replace o319 := ownL.keep o319 (fun q hq => Below.block b462 q (hs105 q hq))
  replace hs105 := fun q hq => Nat.lt_of_lt_of_le (hs105 q hq) (Below.size b462)
  replace o320 := ownL.keep o320 (fun q hq => Below.block b462 q (hs110 q hq))
  replace hs110 := fun q hq => Nat.lt_of_lt_of_le (hs110 q hq) (Below.size b462)
  replace o335 := ownL.keep o335 (fun q hq => Below.block b462 q (hs144 q hq))
  replace hs144 := fun q hq => Nat.lt_of_lt_of_le (hs144 q hq) (Below.size b462)
  replace o376 := ownL.keep o376 (fun q hq => Below.block b462 q (hs163 q hq))
  replace hs163 := fun q hq => Nat.lt_of_lt_of_le (hs163 q hq) (Below.size b462)
  replace o377 := ownL.keep o377 (fun q hq => Below.block b462 q (hs168 q hq))
  replace hs168 := fun q hq => Nat.lt_of_lt_of_le (hs168 q hq) (Below.size b462)
  replace o392 := ownL.keep o392 (fun q hq => Below.block b462 q (hs174 q hq))
  replace hs174 := fun q hq => Nat.lt_of_lt_of_le (hs174 q hq) (Below.size b462)
  replace o435 := ownL.keep o435 (fun q hq => Below.block b462 q (hs437 q hq))
  replace hs437 := fun q hq => Nat.lt_of_lt_of_le (hs437 q hq) (Below.size b462)
  replace o440 := ownL.keep o440 (fun q hq => Below.block b462 q (hs442 q hq))
  replace hs442 := fun q hq => Nat.lt_of_lt_of_le (hs442 q hq) (Below.size b462)
  replace bx_aS := Box.below bx_aS b462
  replace bx94 := Box.below bx94 b462
  replace bx131 := Box.below bx131 b462
  replace bx203 := Box.below bx203 b462
  have z470 := Below.size b462
  replace zb0 : W1.heap.size ≤ w461.heap.size := by omega
  replace za0 : w52.heap.size ≤ w461.heap.size := by omega
  obtain ⟨a471, m472, c473, rfl⟩ := ownL_shape o465
  have hs467 := fun q hq => (r466 q hq).2
  have k474 : w461.cell? ⟨w.heap.size, 0, none⟩ = some ((Value.slice a_aS0 d_aS.heads_.length c_aS0)) := bx_aS.2 0 (by simp)
  have k475 : w461.cell? ⟨w.heap.size, 1, none⟩ = some ((Value.slice a_aS1 d_aS.descs_.length c_aS1)) := bx_aS.2 1 (by simp)
  have k476 : w461.cell? ⟨w52.heap.size, 0, none⟩ = some ((Value.slice a76 m77 c78)) := bx94.2 0 (by simp)
  have k477 : w461.cell? ⟨w52.heap.size, 1, none⟩ = some ((Value.slice a79 m80 c81)) := bx94.2 1 (by simp)
  have k478 : w461.cell? ⟨w99.heap.size, 0, none⟩ = some ((Value.slice a115 m116 c117)) := bx131.2 0 (by simp)
  have k479 : w461.cell? ⟨w99.heap.size, 1, none⟩ = some ((Value.slice a118 m119 c120)) := bx131.2 1 (by simp)
  have k480 : w461.cell? ⟨w157.heap.size, 0, none⟩ = some ((Value.slice a182 m183 c184)) := bx203.2 0 (by simp)
  have k481 : w461.cell? ⟨w157.heap.size, 1, none⟩ = some ((Value.slice a185 m186 c187)) := bx203.2 1 (by simp)
  go_wp2_with fail
  clear k474 k475 k476 k477 k478 k479 k480 k481
  refine (impl_HelpW d_aS (Value.slice a447 m448 c449) (Value.slice a450 m451 c452) d_aStack (Value.slice a471 m472 c473) _ (ownL.rds o435) (ownL.rds o440) hb_aS (ownL.rds o465) hb_aStack).mono ?_
  rintro e w482 ⟨u484, u489, u495, S485, S490, S496, rfl, o486, o491, o497, r487, r492, r498, dj501, dj502, dj503, hb494, hb500, b483⟩
  have t504 := Below.trans t468 (Below.mono b483 zb0)
  have s505 := Below.trans s469 (Below.mono b483 za0)
  replace o319 := ownL.keep o319 (fun q hq => Below.block b483 q (hs105 q hq))
  replace hs105 := fun q hq => Nat.lt_of_lt_of_le (hs105 q hq) (Below.size b483)
  replace o320 := ownL.keep o320 (fun q hq => Below.block b483 q (hs110 q hq))
  replace hs110 := fun q hq => Nat.lt_of_lt_of_le (hs110 q hq) (Below.size b483)
  replace o335 := ownL.keep o335 (fun q hq => Below.block b483 q (hs144 q hq))
  replace hs144 := fun q hq => Nat.lt_of_lt_of_le (hs144 q hq) (Below.size b483)
  replace o376 := ownL.keep o376 (fun q hq => Below.block b483 q (hs163 q hq))
  replace hs163 := fun q hq => Nat.lt_of_lt_of_le (hs163 q hq) (Below.size b483)
  replace o377 := ownL.keep o377 (fun q hq => Below.block b483 q (hs168 q hq))
  replace hs168 := fun q hq => Nat.lt_of_lt_of_le (hs168 q hq) (Below.size b483)
  replace o392 := ownL.keep o392 (fun q hq => Below.block b483 q (hs174 q hq))
  replace hs174 := fun q hq => Nat.lt_of_lt_of_le (hs174 q hq) (Below.size b483)
  replace bx_aS := Box.below bx_aS b483
  replace bx94 := Box.below bx94 b483
  replace bx131 := Box.below bx131 b483
  replace bx203 := Box.below bx203 b483
  have z506 := Below.size b483
  replace zb0 : W1.heap.size ≤ w482.heap.size := by omega
  replace za0 : w52.heap.size ≤ w482.heap.size := by omega
  obtain ⟨a507, m508, c509, rfl⟩ := ownL_shape o486
  have hs488 := fun q hq => (r487 q hq).2
  obtain ⟨a510, m511, c512, rfl⟩ := ownL_shape o491
  have hs493 := fun q hq => (r492 q hq).2
  obtain ⟨a513, m514, c515, rfl⟩ := ownL_shape o497
  have hs499 := fun q hq => (r498 q hq).2
  have k516 : w482.cell? ⟨w.heap.size, 0, none⟩ = some ((Value.slice a_aS0 d_aS.heads_.length c_aS0)) := bx_aS.2 0 (by simp)
  have k517 : w482.cell? ⟨w.heap.size, 1, none⟩ = some ((Value.slice a_aS1 d_aS.descs_.length c_aS1)) := bx_aS.2 1 (by simp)
  have k518 : w482.cell? ⟨w52.heap.size, 0, none⟩ = some ((Value.slice a76 m77 c78)) := bx94.2 0 (by simp)
  have k519 : w482.cell? ⟨w52.heap.size, 1, none⟩ = some ((Value.slice a79 m80 c81)) := bx94.2 1 (by simp)
  have k520 : w482.cell? ⟨w99.heap.size, 0, none⟩ = some ((Value.slice a115 m116 c117)) := bx131.2 0 (by simp)
  have k521 : w482.cell? ⟨w99.heap.size, 1, none⟩ = some ((Value.slice a118 m119 c120)) := bx131.2 1 (by simp)
  have k522 : w482.cell? ⟨w157.heap.size, 0, none⟩ = some ((Value.slice a182 m183 c184)) := bx203.2 0 (by simp)
  have k523 : w482.cell? ⟨w157.heap.size, 1, none⟩ = some ((Value.slice a185 m186 c187)) := bx203.2 1 (by simp)
  obtain ⟨X524, hX525⟩ : ∃ X, w482.alloc (.cells #[(Value.slice a507 m508 c509), (Value.slice a510 m511 c512)] 32) = X := ⟨_, rfl⟩
  have bX526 : Below w482.heap.size w482 X524 := by rw [← hX525]; exact (Below.refl _ _).alloc (Nat.le_refl _) _
  have zX524 : X524.heap.size = w482.heap.size + 1 := by rw [← hX525]; simp
  have t527 := Below.trans t504 (Below.mono bX526 zb0)
  have s528 := Below.trans s505 (Below.mono bX526 za0)
  replace o319 := ownL.keep o319 (fun q hq => Below.block bX526 q (hs105 q hq))
  replace hs105 := fun q hq => Nat.lt_of_lt_of_le (hs105 q hq) (Below.size bX526)
  replace o320 := ownL.keep o320 (fun q hq => Below.block bX526 q (hs110 q hq))
  replace hs110 := fun q hq => Nat.lt_of_lt_of_le (hs110 q hq) (Below.size bX526)
  replace o335 := ownL.keep o335 (fun q hq => Below.block bX526 q (hs144 q hq))
  replace hs144 := fun q hq => Nat.lt_of_lt_of_le (hs144 q hq) (Below.size bX526)
  replace o376 := ownL.keep o376 (fun q hq => Below.block bX526 q (hs163 q hq))
  replace hs163 := fun q hq => Nat.lt_of_lt_of_le (hs163 q hq) (Below.size bX526)
  replace o377 := ownL.keep o377 (fun q hq => Below.block bX526 q (hs168 q hq))
  replace hs168 := fun q hq => Nat.lt_of_lt_of_le (hs168 q hq) (Below.size bX526)
  replace o392 := ownL.keep o392 (fun q hq => Below.block bX526 q (hs174 q hq))
  replace hs174 := fun q hq => Nat.lt_of_lt_of_le (hs174 q hq) (Below.size bX526)
  replace o486 := ownL.keep o486 (fun q hq => Below.block bX526 q (hs488 q hq))
  replace hs488 := fun q hq => Nat.lt_of_lt_of_le (hs488 q hq) (Below.size bX526)
  replace o491 := ownL.keep o491 (fun q hq => Below.block bX526 q (hs493 q hq))
  replace hs493 := fun q hq => Nat.lt_of_lt_of_le (hs493 q hq) (Below.size bX526)
  replace o497 := ownL.keep o497 (fun q hq => Below.block bX526 q (hs499 q hq))
  replace hs499 := fun q hq => Nat.lt_of_lt_of_le (hs499 q hq) (Below.size bX526)
  replace bx_aS := Box.below bx_aS bX526
  replace bx94 := Box.below bx94 bX526
  replace bx131 := Box.below bx131 bX526
  replace bx203 := Box.below bx203 bX526
  have z529 := Below.size bX526
  replace zb0 : W1.heap.size ≤ X524.heap.size := by omega
  replace za0 : w52.heap.size ≤ X524.heap.size := by omega
  have bx530 : Box X524 (w482.heap.size) [(Value.slice a507 m508 c509), (Value.slice a510 m511 c512)] := by rw [← hX525]; exact Box.alloc _ _ _
  have k531 : X524.cell? ⟨w.heap.size, 0, none⟩ = some ((Value.slice a_aS0 d_aS.heads_.length c_aS0)) := bx_aS.2 0 (by simp)
  have k532 : X524.cell? ⟨w.heap.size, 1, none⟩ = some ((Value.slice a_aS1 d_aS.descs_.length c_aS1)) := bx_aS.2 1 (by simp)
  have k533 : X524.cell? ⟨w52.heap.size, 0, none⟩ = some ((Value.slice a76 m77 c78)) := bx94.2 0 (by simp)
  have k534 : X524.cell? ⟨w52.heap.size, 1, none⟩ = some ((Value.slice a79 m80 c81)) := bx94.2 1 (by simp)
  have k535 : X524.cell? ⟨w99.heap.size, 0, none⟩ = some ((Value.slice a115 m116 c117)) := bx131.2 0 (by simp)
  have k536 : X524.cell? ⟨w99.heap.size, 1, none⟩ = some ((Value.slice a118 m119 c120)) := bx131.2 1 (by simp)
  have k537 : X524.cell? ⟨w157.heap.size, 0, none⟩ = some ((Value.slice a182 m183 c184)) := bx203.2 0 (by simp)
  have k538 : X524.cell? ⟨w157.heap.size, 1, none⟩ = some ((Value.slice a185 m186 c187)) := bx203.2 1 (by simp)
  have k539 : X524.cell? ⟨w482.heap.size, 0, none⟩ = some ((Value.slice a507 m508 c509)) := bx530.2 0 (by simp)
  have k540 : X524.cell? ⟨w482.heap.size, 1, none⟩ = some ((Value.slice a510 m511 c512)) := bx530.2 1 (by simp)
  go_wp2_with fail
  clear k516 k517 k518 k519 k520 k521 k522 k523 k531 k532 k533 k534 k535 k536 k537 k538 k539 k540 hX525
  refine (eqStore_o _ _ _ _ _ _ (ownL.rds o486) (ownL.rds o491) (rdsL.below o56 s528) (rdsL.below o61 s528)).mono ?_
  rintro e w541 ⟨rfl, b542⟩
  have t543 := Below.trans t527 (Below.mono b542 zb0)
  have s544 := Below.trans s528 (Below.mono b542 za0)
  replace o319 := ownL.keep o319 (fun q hq => Below.block b542 q (hs105 q hq))
  replace hs105 := fun q hq => Nat.lt_of_lt_of_le (hs105 q hq) (Below.size b542)
  replace o320 := ownL.keep o320 (fun q hq => Below.block b542 q (hs110 q hq))
  replace hs110 := fun q hq => Nat.lt_of_lt_of_le (hs110 q hq) (Below.size b542)
  replace o335 := ownL.keep o335 (fun q hq => Below.block b542 q (hs144 q hq))
  replace hs144 := fun q hq => Nat.lt_of_lt_of_le (hs144 q hq) (Below.size b542)
  replace o376 := ownL.keep o376 (fun q hq => Below.block b542 q (hs163 q hq))
  replace hs163 := fun q hq => Nat.lt_of_lt_of_le (hs163 q hq) (Below.size b542)
  replace o377 := ownL.keep o377 (fun q hq => Below.block b542 q (hs168 q hq))
  replace hs168 := fun q hq => Nat.lt_of_lt_of_le (hs168 q hq) (Below.size b542)
  replace o392 := ownL.keep o392 (fun q hq => Below.block b542 q (hs174 q hq))
  replace hs174 := fun q hq => Nat.lt_of_lt_of_le (hs174 q hq) (Below.size b542)
  replace o486 := ownL.keep o486 (fun q hq => Below.block b542 q (hs488 q hq))
  replace hs488 := fun q hq => Nat.lt_of_lt_of_le (hs488 q hq) (Below.size b542)
  replace o491 := ownL.keep o491 (fun q hq => Below.block b542 q (hs493 q hq))
  replace hs493 := fun q hq => Nat.lt_of_lt_of_le (hs493 q hq) (Below.size b542)
  replace o497 := ownL.keep o497 (fun q hq => Below.block b542 q (hs499 q hq))
  replace hs499 := fun q hq => Nat.lt_of_lt_of_le (hs499 q hq) (Below.size b542)
  replace bx_aS := Box.below bx_aS b542
  replace bx94 := Box.below bx94 b542
  replace bx131 := Box.below bx131 b542
  replace bx203 := Box.below bx203 b542
  replace bx530 := Box.below bx530 b542
  have z545 := Below.size b542
  replace zb0 : W1.heap.size ≤ w541.heap.size := by omega
  replace za0 : w52.heap.size ≤ w541.heap.size := by omega
  have k546 : w541.cell? ⟨w.heap.size, 0, none⟩ = some ((Value.slice a_aS0 d_aS.heads_.length c_aS0)) := bx_aS.2 0 (by simp)
  have k547 : w541.cell? ⟨w.heap.size, 1, none⟩ = some ((Value.slice a_aS1 d_aS.descs_.length c_aS1)) := bx_aS.2 1 (by simp)
  have k548 : w541.cell? ⟨w52.heap.size, 0, none⟩ = some ((Value.slice a76 m77 c78)) := bx94.2 0 (by simp)
  have k549 : w541.cell? ⟨w52.heap.size, 1, none⟩ = some ((Value.slice a79 m80 c81)) := bx94.2 1 (by simp)
  have k550 : w541.cell? ⟨w99.heap.size, 0, none⟩ = some ((Value.slice a115 m116 c117)) := bx131.2 0 (by simp)
  have k551 : w541.cell? ⟨w99.heap.size, 1, none⟩ = some ((Value.slice a118 m119 c120)) := bx131.2 1 (by simp)
  have k552 : w541.cell? ⟨w157.heap.size, 0, none⟩ = some ((Value.slice a182 m183 c184)) := bx203.2 0 (by simp)
  have k553 : w541.cell? ⟨w157.heap.size, 1, none⟩ = some ((Value.slice a185 m186 c187)) := bx203.2 1 (by simp)
  have k554 : w541.cell? ⟨w482.heap.size, 0, none⟩ = some ((Value.slice a507 m508 c509)) := bx530.2 0 (by simp)
  have k555 : w541.cell? ⟨w482.heap.size, 1, none⟩ = some ((Value.slice a510 m511 c512)) := bx530.2 1 (by simp)
  go_wp2_with fail
  clear k546 k547 k548 k549 k550 k551 k552 k553 k554 k555
  refine (eqFrameS_o _ _ _ _ (ownL.rds o497) (rdsL.below o67 s544)).mono ?_
  rintro e w556 ⟨rfl, b557⟩
  have t558 := Below.trans t543 (Below.mono b557 zb0)
  have s559 := Below.trans s544 (Below.mono b557 za0)
  replace o319 := ownL.keep o319 (fun q hq => Below.block b557 q (hs105 q hq))
  replace hs105 := fun q hq => Nat.lt_of_lt_of_le (hs105 q hq) (Below.size b557)
  replace o320 := ownL.keep o320 (fun q hq => Below.block b557 q (hs110 q hq))
  replace hs110 := fun q hq => Nat.lt_of_lt_of_le (hs110 q hq) (Below.size b557)
  replace o335 := ownL.keep o335 (fun q hq => Below.block b557 q (hs144 q hq))
  replace hs144 := fun q hq => Nat.lt_of_lt_of_le (hs144 q hq) (Below.size b557)
  replace o376 := ownL.keep o376 (fun q hq => Below.block b557 q (hs163 q hq))
  replace hs163 := fun q hq => Nat.lt_of_lt_of_le (hs163 q hq) (Below.size b557)
  replace o377 := ownL.keep o377 (fun q hq => Below.block b557 q (hs168 q hq))
  replace hs168 := fun q hq => Nat.lt_of_lt_of_le (hs168 q hq) (Below.size b557)
  replace o392 := ownL.keep o392 (fun q hq => Below.block b557 q (hs174 q hq))
  replace hs174 := fun q hq => Nat.lt_of_lt_of_le (hs174 q hq) (Below.size b557)
  replace o486 := ownL.keep o486 (fun q hq => Below.block b557 q (hs488 q hq))
  replace hs488 := fun q hq => Nat.lt_of_lt_of_le (hs488 q hq) (Below.size b557)
  replace o491 := ownL.keep o491 (fun q hq => Below.block b557 q (hs493 q hq))
  replace hs493 := fun q hq => Nat.lt_of_lt_of_le (hs493 q hq) (Below.size b557)
  replace o497 := ownL.keep o497 (fun q hq => Below.block b557 q (hs499 q hq))
  replace hs499 := fun q hq => Nat.lt_of_lt_of_le (hs499 q hq) (Below.size b557)
  replace bx_aS := Box.below bx_aS b557
  replace bx94 := Box.below bx94 b557
  replace bx131 := Box.below bx131 b557
  replace bx203 := Box.below bx203 b557
  replace bx530 := Box.below bx530 b557
  have z560 := Below.size b557
  replace zb0 : W1.heap.size ≤ w556.heap.size := by omega
  replace za0 : w52.heap.size ≤ w556.heap.size := by omega
  have k561 : w556.cell? ⟨w.heap.size, 0, none⟩ = some ((Value.slice a_aS0 d_aS.heads_.length c_aS0)) := bx_aS.2 0 (by simp)
  have k562 : w556.cell? ⟨w.heap.size, 1, none⟩ = some ((Value.slice a_aS1 d_aS.descs_.length c_aS1)) := bx_aS.2 1 (by simp)
  have k563 : w556.cell? ⟨w52.heap.size, 0, none⟩ = some ((Value.slice a76 m77 c78)) := bx94.2 0 (by simp)
  have k564 : w556.cell? ⟨w52.heap.size, 1, none⟩ = some ((Value.slice a79 m80 c81)) := bx94.2 1 (by simp)
  have k565 : w556.cell? ⟨w99.heap.size, 0, none⟩ = some ((Value.slice a115 m116 c117)) := bx131.2 0 (by simp)
  have k566 : w556.cell? ⟨w99.heap.size, 1, none⟩ = some ((Value.slice a118 m119 c120)) := bx131.2 1 (by simp)
  have k567 : w556.cell? ⟨w157.heap.size, 0, none⟩ = some ((Value.slice a182 m183 c184)) := bx203.2 0 (by simp)
  have k568 : w556.cell? ⟨w157.heap.size, 1, none⟩ = some ((Value.slice a185 m186 c187)) := bx203.2 1 (by simp)
  have k569 : w556.cell? ⟨w482.heap.size, 0, none⟩ = some ((Value.slice a507 m508 c509)) := bx530.2 0 (by simp)
  have k570 : w556.cell? ⟨w482.heap.size, 1, none⟩ = some ((Value.slice a510 m511 c512)) := bx530.2 1 (by simp)
  go_wp2_with fail
  clear k561 k562 k563 k564 k565 k566 k567 k568 k569 k570
  refine (heldStore_o _ _ _ _ _ hb169 (by omega) (by omega) (ownL.rds o376) (ownL.rds o377)).mono ?_
  rintro e w571 ⟨rfl, b572⟩
  have t573 := Below.trans t558 (Below.mono b572 zb0)
  have s574 := Below.trans s559 (Below.mono b572 za0)
  replace o319 := ownL.keep o319 (fun q hq => Below.block b572 q (hs105 q hq))
  replace hs105 := fun q hq => Nat.lt_of_lt_of_le (hs105 q hq) (Below.size b572)
  replace o320 := ownL.keep o320 (fun q hq => Below.block b572 q (hs110 q hq))
  replace hs110 := fun q hq => Nat.lt_of_lt_of_le (hs110 q hq) (Below.size b572)
  replace o335 := ownL.keep o335 (fun q hq => Below.block b572 q (hs144 q hq))
  replace hs144 := fun q hq => Nat.lt_of_lt_of_le (hs144 q hq) (Below.size b572)
  replace o376 := ownL.keep o376 (fun q hq => Below.block b572 q (hs163 q hq))
  replace hs163 := fun q hq => Nat.lt_of_lt_of_le (hs163 q hq) (Below.size b572)
  replace o377 := ownL.keep o377 (fun q hq => Below.block b572 q (hs168 q hq))
  replace hs168 := fun q hq => Nat.lt_of_lt_of_le (hs168 q hq) (Below.size b572)
  replace o392 := ownL.keep o392 (fun q hq => Below.block b572 q (hs174 q hq))
  replace hs174 := fun q hq => Nat.lt_of_lt_of_le (hs174 q hq) (Below.size b572)
  replace o486 := ownL.keep o486 (fun q hq => Below.block b572 q (hs488 q hq))
  replace hs488 := fun q hq => Nat.lt_of_lt_of_le (hs488 q hq) (Below.size b572)
  replace o491 := ownL.keep o491 (fun q hq => Below.block b572 q (hs493 q hq))
  replace hs493 := fun q hq => Nat.lt_of_lt_of_le (hs493 q hq) (Below.size b572)
  replace o497 := ownL.keep o497 (fun q hq => Below.block b572 q (hs499 q hq))
  replace hs499 := fun q hq => Nat.lt_of_lt_of_le (hs499 q hq) (Below.size b572)
  replace bx_aS := Box.below bx_aS b572
  replace bx94 := Box.below bx94 b572
  replace bx131 := Box.below bx131 b572
  replace bx203 := Box.below bx203 b572
  replace bx530 := Box.below bx530 b572
  have z575 := Below.size b572
  replace zb0 : W1.heap.size ≤ w571.heap.size := by omega
  replace za0 : w52.heap.size ≤ w571.heap.size := by omega
  have k576 : w571.cell? ⟨w.heap.size, 0, none⟩ = some ((Value.slice a_aS0 d_aS.heads_.length c_aS0)) := bx_aS.2 0 (by simp)
  have k577 : w571.cell? ⟨w.heap.size, 1, none⟩ = some ((Value.slice a_aS1 d_aS.descs_.length c_aS1)) := bx_aS.2 1 (by simp)
  have k578 : w571.cell? ⟨w52.heap.size, 0, none⟩ = some ((Value.slice a76 m77 c78)) := bx94.2 0 (by simp)
  have k579 : w571.cell? ⟨w52.heap.size, 1, none⟩ = some ((Value.slice a79 m80 c81)) := bx94.2 1 (by simp)
  have k580 : w571.cell? ⟨w99.heap.size, 0, none⟩ = some ((Value.slice a115 m116 c117)) := bx131.2 0 (by simp)
  have k581 : w571.cell? ⟨w99.heap.size, 1, none⟩ = some ((Value.slice a118 m119 c120)) := bx131.2 1 (by simp)
  have k582 : w571.cell? ⟨w157.heap.size, 0, none⟩ = some ((Value.slice a182 m183 c184)) := bx203.2 0 (by simp)
  have k583 : w571.cell? ⟨w157.heap.size, 1, none⟩ = some ((Value.slice a185 m186 c187)) := bx203.2 1 (by simp)
  have k584 : w571.cell? ⟨w482.heap.size, 0, none⟩ = some ((Value.slice a507 m508 c509)) := bx530.2 0 (by simp)
  have k585 : w571.cell? ⟨w482.heap.size, 1, none⟩ = some ((Value.slice a510 m511 c512)) := bx530.2 1 (by simp)
  go_wp2_with fail
  clear k576 k577 k578 k579 k580 k581 k582 k583 k584 k585
  refine (heldFrameS_o _ _ _ _ hb175 (by omega) (by omega) (ownL.rds o392)).mono ?_
  rintro e w586 ⟨rfl, b587⟩
  have t588 := Below.trans t573 (Below.mono b587 zb0)
  have s589 := Below.trans s574 (Below.mono b587 za0)
  replace o319 := ownL.keep o319 (fun q hq => Below.block b587 q (hs105 q hq))
  replace hs105 := fun q hq => Nat.lt_of_lt_of_le (hs105 q hq) (Below.size b587)
  replace o320 := ownL.keep o320 (fun q hq => Below.block b587 q (hs110 q hq))
  replace hs110 := fun q hq => Nat.lt_of_lt_of_le (hs110 q hq) (Below.size b587)
  replace o335 := ownL.keep o335 (fun q hq => Below.block b587 q (hs144 q hq))
  replace hs144 := fun q hq => Nat.lt_of_lt_of_le (hs144 q hq) (Below.size b587)
  replace o376 := ownL.keep o376 (fun q hq => Below.block b587 q (hs163 q hq))
  replace hs163 := fun q hq => Nat.lt_of_lt_of_le (hs163 q hq) (Below.size b587)
  replace o377 := ownL.keep o377 (fun q hq => Below.block b587 q (hs168 q hq))
  replace hs168 := fun q hq => Nat.lt_of_lt_of_le (hs168 q hq) (Below.size b587)
  replace o392 := ownL.keep o392 (fun q hq => Below.block b587 q (hs174 q hq))
  replace hs174 := fun q hq => Nat.lt_of_lt_of_le (hs174 q hq) (Below.size b587)
  replace o486 := ownL.keep o486 (fun q hq => Below.block b587 q (hs488 q hq))
  replace hs488 := fun q hq => Nat.lt_of_lt_of_le (hs488 q hq) (Below.size b587)
  replace o491 := ownL.keep o491 (fun q hq => Below.block b587 q (hs493 q hq))
  replace hs493 := fun q hq => Nat.lt_of_lt_of_le (hs493 q hq) (Below.size b587)
  replace o497 := ownL.keep o497 (fun q hq => Below.block b587 q (hs499 q hq))
  replace hs499 := fun q hq => Nat.lt_of_lt_of_le (hs499 q hq) (Below.size b587)
  replace bx_aS := Box.below bx_aS b587
  replace bx94 := Box.below bx94 b587
  replace bx131 := Box.below bx131 b587
  replace bx203 := Box.below bx203 b587
  replace bx530 := Box.below bx530 b587
  have z590 := Below.size b587
  replace zb0 : W1.heap.size ≤ w586.heap.size := by omega
  replace za0 : w52.heap.size ≤ w586.heap.size := by omega
  have k591 : w586.cell? ⟨w.heap.size, 0, none⟩ = some ((Value.slice a_aS0 d_aS.heads_.length c_aS0)) := bx_aS.2 0 (by simp)
  have k592 : w586.cell? ⟨w.heap.size, 1, none⟩ = some ((Value.slice a_aS1 d_aS.descs_.length c_aS1)) := bx_aS.2 1 (by simp)
  have k593 : w586.cell? ⟨w52.heap.size, 0, none⟩ = some ((Value.slice a76 m77 c78)) := bx94.2 0 (by simp)
  have k594 : w586.cell? ⟨w52.heap.size, 1, none⟩ = some ((Value.slice a79 m80 c81)) := bx94.2 1 (by simp)
  have k595 : w586.cell? ⟨w99.heap.size, 0, none⟩ = some ((Value.slice a115 m116 c117)) := bx131.2 0 (by simp)
  have k596 : w586.cell? ⟨w99.heap.size, 1, none⟩ = some ((Value.slice a118 m119 c120)) := bx131.2 1 (by simp)
  have k597 : w586.cell? ⟨w157.heap.size, 0, none⟩ = some ((Value.slice a182 m183 c184)) := bx203.2 0 (by simp)
  have k598 : w586.cell? ⟨w157.heap.size, 1, none⟩ = some ((Value.slice a185 m186 c187)) := bx203.2 1 (by simp)
  have k599 : w586.cell? ⟨w482.heap.size, 0, none⟩ = some ((Value.slice a507 m508 c509)) := bx530.2 0 (by simp)
  have k600 : w586.cell? ⟨w482.heap.size, 1, none⟩ = some ((Value.slice a510 m511 c512)) := bx530.2 1 (by simp)
  go_wp2_with fail
  clear k591 k592 k593 k594 k595 k596 k597 k598 k599 k600
  try go_wp2
  go_ret
  exact ⟨rfl, hB0.trans (Below.mono t588 hB0.size)⟩

end Go.Proofs.Ytambpjjfndnadaa
