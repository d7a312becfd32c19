/- FnExactFinish, walked. -/
import Derived.Test.YtambpjjfndnadaaW8f
import Derived.Test.YtambpjjfndnadaaBx
import Derived.Test.YtambpjjfndnadaaEnc4
import Derived.Test.YtambpjjfndnadaaHop
import Derived.Test.YtambpjjfndnadaaWr3
import Derived.Test.YtambpjjfndnadaaKeep
import Derived.Deep.RegionHeld3
import Derived.Deep.Cut
import Derived.StillTailTactics
namespace Go.Proofs.Ytambpjjfndnadaa
set_option maxRecDepth 100000
open Go.RowKit Go.Proofs Go.Own
set_option linter.unusedVariables false

set_option maxRecDepth 100000 in
set_option maxHeartbeats 8000000 in
theorem law_Finish (d_aS : StoreD) (v_aS0 v_aS1 : Value) (d_aStack : List Frame) (v_aStack0 : Value) (s_aMost : Int) (w : World) (h_aS0 : rdsL w v_aS0 d_aS.heads_) (h_aS1 : rdsL w v_aS1 d_aS.descs_) (h_aStack0 : rdsL w v_aStack0 d_aStack) (hi_aMost : InI s_aMost) :
    Calls Try.prog 6 #[(.agg #[v_aS0, v_aS1]), v_aStack0, (.int .i64 s_aMost)] w fun e w' => e = .returned (.bool true) ∧ Below w.heap.size w w' := by
  obtain ⟨a_aS0, c_aS0, rfl, -, -, -⟩ := rdsL_open h_aS0
  obtain ⟨a_aS1, c_aS1, rfl, -, -, -⟩ := rdsL_open h_aS1
  obtain ⟨a_aStack0, c_aStack0, rfl, -, -, -⟩ := rdsL_open h_aStack0
  obtain ⟨W1, hW1⟩ : ∃ X, w.alloc (.cells #[(Value.slice a_aS0 d_aS.heads_.length c_aS0), (Value.slice a_aS1 d_aS.descs_.length c_aS1)] 25) = X := ⟨_, rfl⟩
  have hbx1 : Below w.heap.size w W1 := by rw [← hW1]; exact (Below.refl _ _).alloc (Nat.le_refl _) _
  have zw1 : W1.heap.size = w.heap.size + 1 := by rw [← hW1]; simp
  have bx_aS : Box W1 (w.heap.size) [(Value.slice a_aS0 d_aS.heads_.length c_aS0), (Value.slice a_aS1 d_aS.descs_.length c_aS1)] := by rw [← hW1]; exact Box.alloc _ _ _
  have hB0 : Below w.heap.size w W1 := hbx1
  replace h_aS0 := rdsL.below h_aS0 hB0
  replace h_aS1 := rdsL.below h_aS1 hB0
  replace h_aStack0 := rdsL.below h_aStack0 hB0
  have tt0 : Below W1.heap.size W1 W1 := Below.refl _ _
  have zb0 : W1.heap.size ≤ W1.heap.size := Nat.le_refl _
  go_enter Try.func6, Try.ntmps6
  have k1 : W1.cell? ⟨w.heap.size, 0, none⟩ = some ((Value.slice a_aS0 d_aS.heads_.length c_aS0)) := bx_aS.2 0 (by simp)
  have k2 : W1.cell? ⟨w.heap.size, 1, none⟩ = some ((Value.slice a_aS1 d_aS.descs_.length c_aS1)) := bx_aS.2 1 (by simp)
  go_wp2_with fail
  clear k1 k2 hW1
  have hl0_aS : 0 ≤ (1048576 : Int) := by omega
  refine (szStore_o d_aS (Value.slice a_aS0 d_aS.heads_.length c_aS0) (Value.slice a_aS1 d_aS.descs_.length c_aS1) _ _ (by omega) (by omega) (rdsL.below h_aS0 tt0) (rdsL.below h_aS1 tt0)).mono ?_
  rintro e w3 ⟨rfl, b4⟩
  have t5 := Below.trans tt0 (Below.mono b4 zb0)
  replace bx_aS := Box.below bx_aS b4
  have z6 := Below.size b4
  replace zb0 : W1.heap.size ≤ w3.heap.size := by omega
  by_cases big_aS : (1048576 : Int) < (szStoreD d_aS : Int)
  · rw [szR_of, if_pos big_aS]
    go_wp2
    go_ret
    exact ⟨rfl, hB0.trans (Below.mono t5 hB0.size)⟩
  rw [szR_of, if_neg big_aS]
  have k7 : w3.cell? ⟨w.heap.size, 0, none⟩ = some ((Value.slice a_aS0 d_aS.heads_.length c_aS0)) := bx_aS.2 0 (by simp)
  have k8 : w3.cell? ⟨w.heap.size, 1, none⟩ = some ((Value.slice a_aS1 d_aS.descs_.length c_aS1)) := bx_aS.2 1 (by simp)
  go_wp2_with fail
  clear k7 k8
  have hl0_aStack : 0 ≤ (1048576 : Int) - (szStoreD d_aS : Int) := by omega
  refine (szFrameS_o d_aStack (Value.slice a_aStack0 d_aStack.length c_aStack0) _ _ (by omega) (by omega) (rdsL.below h_aStack0 t5)).mono ?_
  rintro e w9 ⟨rfl, b10⟩
  have t11 := Below.trans t5 (Below.mono b10 zb0)
  replace bx_aS := Box.below bx_aS b10
  have z12 := Below.size b10
  replace zb0 : W1.heap.size ≤ w9.heap.size := by omega
  by_cases big_aStack : (1048576 : Int) - (szStoreD d_aS : Int) < (szFrameSD d_aStack : Int)
  · rw [szR_of, if_pos big_aStack]
    go_wp2
    go_ret
    exact ⟨rfl, hB0.trans (Below.mono t11 hB0.size)⟩
  rw [szR_of, if_neg big_aStack]
  have k13 : w9.cell? ⟨w.heap.size, 0, none⟩ = some ((Value.slice a_aS0 d_aS.heads_.length c_aS0)) := bx_aS.2 0 (by simp)
  have k14 : w9.cell? ⟨w.heap.size, 1, none⟩ = some ((Value.slice a_aS1 d_aS.descs_.length c_aS1)) := bx_aS.2 1 (by simp)
  go_wp2_with fail
  clear k13 k14
  have hb_aS : StoreB d_aS := by show _ ≤ 1048576; have := big_aS; unfold szStoreD at *; omega
  have hb_aStack : FrameSB d_aStack := by show _ ≤ 1048576; have := big_aStack; unfold szFrameSD at *; omega
  refine (toStore_o d_aS (Value.slice a_aS0 d_aS.heads_.length c_aS0) (Value.slice a_aS1 d_aS.descs_.length c_aS1) _ (rdsL.below h_aS0 t11) (rdsL.below h_aS1 t11) hb_aS).mono ?_
  rintro e w15 ⟨u17, u22, S18, S23, rfl, o19, o24, r20, r25, dj27, b16⟩
  have t28 := Below.trans t11 (Below.mono b16 zb0)
  replace bx_aS := Box.below bx_aS b16
  have z29 := Below.size b16
  replace zb0 : W1.heap.size ≤ w15.heap.size := by omega
  obtain ⟨a30, m31, c32, rfl⟩ := ownL_shape o19
  have hs21 := fun q hq => (r20 q hq).2
  obtain ⟨a33, m34, c35, rfl⟩ := ownL_shape o24
  have hs26 := fun q hq => (r25 q hq).2
  have k36 : w15.cell? ⟨w.heap.size, 0, none⟩ = some ((Value.slice a_aS0 d_aS.heads_.length c_aS0)) := bx_aS.2 0 (by simp)
  have k37 : w15.cell? ⟨w.heap.size, 1, none⟩ = some ((Value.slice a_aS1 d_aS.descs_.length c_aS1)) := bx_aS.2 1 (by simp)
  go_wp2_with fail
  clear k36 k37
  refine (toFrameS_o d_aStack (Value.slice a_aStack0 d_aStack.length c_aStack0) _ (rdsL.below h_aStack0 t28) hb_aStack).mono ?_
  rintro e w38 ⟨u40, S41, rfl, o42, r43, b39⟩
  have t45 := Below.trans t28 (Below.mono b39 zb0)
  replace o19 := ownL.keep o19 (fun q hq => Below.block b39 q (hs21 q hq))
  replace hs21 := fun q hq => Nat.lt_of_lt_of_le (hs21 q hq) (Below.size b39)
  replace o24 := ownL.keep o24 (fun q hq => Below.block b39 q (hs26 q hq))
  replace hs26 := fun q hq => Nat.lt_of_lt_of_le (hs26 q hq) (Below.size b39)
  replace bx_aS := Box.below bx_aS b39
  have z46 := Below.size b39
  replace zb0 : W1.heap.size ≤ w38.heap.size := by omega
  obtain ⟨a47, m48, c49, rfl⟩ := ownL_shape o42
  have hs44 := fun q hq => (r43 q hq).2
  have k50 : w38.cell? ⟨w.heap.size, 0, none⟩ = some ((Value.slice a_aS0 d_aS.heads_.length c_aS0)) := bx_aS.2 0 (by simp)
  have k51 : w38.cell? ⟨w.heap.size, 1, none⟩ = some ((Value.slice a_aS1 d_aS.descs_.length c_aS1)) := bx_aS.2 1 (by simp)
  go_wp2_with fail
  clear k50 k51
  refine (spec_FinishW d_aS (Value.slice a30 m31 c32) (Value.slice a33 m34 c35) d_aStack (Value.slice a47 m48 c49) s_aMost _ (ownL.rds o19) (ownL.rds o24) hb_aS (ownL.rds o42) hb_aStack).mono ?_
  rintro e w52 ⟨u54, u59, S55, S60, rfl, o56, o61, r57, r62, dj65, hb64, b53⟩
  replace o56 := ownL.rds o56
  replace o61 := ownL.rds o61
  have t66 := Below.trans t45 (Below.mono b53 zb0)
  replace bx_aS := Box.below bx_aS b53
  have z67 := Below.size b53
  replace zb0 : W1.heap.size ≤ w52.heap.size := by omega
  obtain ⟨a68, m69, c70, rfl⟩ := rdsL_shape o56
  obtain ⟨a71, m72, c73, rfl⟩ := rdsL_shape o61
  have s74 : Below w52.heap.size w52 w52 := Below.refl _ _
  have za0 : w52.heap.size ≤ w52.heap.size := Nat.le_refl _
  have k75 : w52.cell? ⟨w.heap.size, 0, none⟩ = some ((Value.slice a_aS0 d_aS.heads_.length c_aS0)) := bx_aS.2 0 (by simp)
  have k76 : w52.cell? ⟨w.heap.size, 1, none⟩ = some ((Value.slice a_aS1 d_aS.descs_.length c_aS1)) := bx_aS.2 1 (by simp)
  obtain ⟨X77, hX78⟩ : ∃ X, w52.alloc (.cells #[(Value.slice a68 m69 c70), (Value.slice a71 m72 c73)] 32) = X := ⟨_, rfl⟩
  have bX79 : Below w52.heap.size w52 X77 := by rw [← hX78]; exact (Below.refl _ _).alloc (Nat.le_refl _) _
  have zX77 : X77.heap.size = w52.heap.size + 1 := by rw [← hX78]; simp
  have t80 := Below.trans t66 (Below.mono bX79 zb0)
  have s81 := Below.trans s74 (Below.mono bX79 za0)
  replace bx_aS := Box.below bx_aS bX79
  have z82 := Below.size bX79
  replace zb0 : W1.heap.size ≤ X77.heap.size := by omega
  replace za0 : w52.heap.size ≤ X77.heap.size := by omega
  have bx83 : Box X77 (w52.heap.size) [(Value.slice a68 m69 c70), (Value.slice a71 m72 c73)] := by rw [← hX78]; exact Box.alloc _ _ _
  have k84 : X77.cell? ⟨w.heap.size, 0, none⟩ = some ((Value.slice a_aS0 d_aS.heads_.length c_aS0)) := bx_aS.2 0 (by simp)
  have k85 : X77.cell? ⟨w.heap.size, 1, none⟩ = some ((Value.slice a_aS1 d_aS.descs_.length c_aS1)) := bx_aS.2 1 (by simp)
  have k86 : X77.cell? ⟨w52.heap.size, 0, none⟩ = some ((Value.slice a68 m69 c70)) := bx83.2 0 (by simp)
  have k87 : X77.cell? ⟨w52.heap.size, 1, none⟩ = some ((Value.slice a71 m72 c73)) := bx83.2 1 (by simp)
  go_wp2_with fail
  clear k75 k76 k84 k85 k86 k87 hX78
  refine (toStore_o d_aS (Value.slice a_aS0 d_aS.heads_.length c_aS0) (Value.slice a_aS1 d_aS.descs_.length c_aS1) _ (rdsL.below h_aS0 t80) (rdsL.below h_aS1 t80) hb_aS).mono ?_
  rintro e w88 ⟨u90, u95, S91, S96, rfl, o92, o97, r93, r98, dj100, b89⟩
  have t101 := Below.trans t80 (Below.mono b89 zb0)
  have s102 := Below.trans s81 (Below.mono b89 za0)
  replace bx_aS := Box.below bx_aS b89
  replace bx83 := Box.below bx83 b89
  have z103 := Below.size b89
  replace zb0 : W1.heap.size ≤ w88.heap.size := by omega
  replace za0 : w52.heap.size ≤ w88.heap.size := by omega
  obtain ⟨a104, m105, c106, rfl⟩ := ownL_shape o92
  have hs94 := fun q hq => (r93 q hq).2
  obtain ⟨a107, m108, c109, rfl⟩ := ownL_shape o97
  have hs99 := fun q hq => (r98 q hq).2
  have k110 : w88.cell? ⟨w.heap.size, 0, none⟩ = some ((Value.slice a_aS0 d_aS.heads_.length c_aS0)) := bx_aS.2 0 (by simp)
  have k111 : w88.cell? ⟨w.heap.size, 1, none⟩ = some ((Value.slice a_aS1 d_aS.descs_.length c_aS1)) := bx_aS.2 1 (by simp)
  have k112 : w88.cell? ⟨w52.heap.size, 0, none⟩ = some ((Value.slice a68 m69 c70)) := bx83.2 0 (by simp)
  have k113 : w88.cell? ⟨w52.heap.size, 1, none⟩ = some ((Value.slice a71 m72 c73)) := bx83.2 1 (by simp)
  obtain ⟨X114, hX115⟩ : ∃ X, w88.alloc (.cells #[(Value.slice a104 m105 c106), (Value.slice a107 m108 c109)] 32) = X := ⟨_, rfl⟩
  have bX116 : Below w88.heap.size w88 X114 := by rw [← hX115]; exact (Below.refl _ _).alloc (Nat.le_refl _) _
  have zX114 : X114.heap.size = w88.heap.size + 1 := by rw [← hX115]; simp
  have t117 := Below.trans t101 (Below.mono bX116 zb0)
  have s118 := Below.trans s102 (Below.mono bX116 za0)
  replace o92 := ownL.keep o92 (fun q hq => Below.block bX116 q (hs94 q hq))
  replace hs94 := fun q hq => Nat.lt_of_lt_of_le (hs94 q hq) (Below.size bX116)
  replace o97 := ownL.keep o97 (fun q hq => Below.block bX116 q (hs99 q hq))
  replace hs99 := fun q hq => Nat.lt_of_lt_of_le (hs99 q hq) (Below.size bX116)
  replace bx_aS := Box.below bx_aS bX116
  replace bx83 := Box.below bx83 bX116
  have z119 := Below.size bX116
  replace zb0 : W1.heap.size ≤ X114.heap.size := by omega
  replace za0 : w52.heap.size ≤ X114.heap.size := by omega
  have bx120 : Box X114 (w88.heap.size) [(Value.slice a104 m105 c106), (Value.slice a107 m108 c109)] := by rw [← hX115]; exact Box.alloc _ _ _
  have k121 : X114.cell? ⟨w.heap.size, 0, none⟩ = some ((Value.slice a_aS0 d_aS.heads_.length c_aS0)) := bx_aS.2 0 (by simp)
  have k122 : X114.cell? ⟨w.heap.size, 1, none⟩ = some ((Value.slice a_aS1 d_aS.descs_.length c_aS1)) := bx_aS.2 1 (by simp)
  have k123 : X114.cell? ⟨w52.heap.size, 0, none⟩ = some ((Value.slice a68 m69 c70)) := bx83.2 0 (by simp)
  have k124 : X114.cell? ⟨w52.heap.size, 1, none⟩ = some ((Value.slice a71 m72 c73)) := bx83.2 1 (by simp)
  have k125 : X114.cell? ⟨w88.heap.size, 0, none⟩ = some ((Value.slice a104 m105 c106)) := bx120.2 0 (by simp)
  have k126 : X114.cell? ⟨w88.heap.size, 1, none⟩ = some ((Value.slice a107 m108 c109)) := bx120.2 1 (by simp)
  go_wp2_with fail
  clear k110 k111 k112 k113 k121 k122 k123 k124 k125 k126 hX115
  refine (toFrameS_o d_aStack (Value.slice a_aStack0 d_aStack.length c_aStack0) _ (rdsL.below h_aStack0 t117) hb_aStack).mono ?_
  rintro e w127 ⟨u129, S130, rfl, o131, r132, b128⟩
  have t134 := Below.trans t117 (Below.mono b128 zb0)
  have s135 := Below.trans s118 (Below.mono b128 za0)
  replace o92 := ownL.keep o92 (fun q hq => Below.block b128 q (hs94 q hq))
  replace hs94 := fun q hq => Nat.lt_of_lt_of_le (hs94 q hq) (Below.size b128)
  replace o97 := ownL.keep o97 (fun q hq => Below.block b128 q (hs99 q hq))
  replace hs99 := fun q hq => Nat.lt_of_lt_of_le (hs99 q hq) (Below.size b128)
  replace bx_aS := Box.below bx_aS b128
  replace bx83 := Box.below bx83 b128
  replace bx120 := Box.below bx120 b128
  have z136 := Below.size b128
  replace zb0 : W1.heap.size ≤ w127.heap.size := by omega
  replace za0 : w52.heap.size ≤ w127.heap.size := by omega
  obtain ⟨a137, m138, c139, rfl⟩ := ownL_shape o131
  have hs133 := fun q hq => (r132 q hq).2
  have k140 : w127.cell? ⟨w.heap.size, 0, none⟩ = some ((Value.slice a_aS0 d_aS.heads_.length c_aS0)) := bx_aS.2 0 (by simp)
  have k141 : w127.cell? ⟨w.heap.size, 1, none⟩ = some ((Value.slice a_aS1 d_aS.descs_.length c_aS1)) := bx_aS.2 1 (by simp)
  have k142 : w127.cell? ⟨w52.heap.size, 0, none⟩ = some ((Value.slice a68 m69 c70)) := bx83.2 0 (by simp)
  have k143 : w127.cell? ⟨w52.heap.size, 1, none⟩ = some ((Value.slice a71 m72 c73)) := bx83.2 1 (by simp)
  have k144 : w127.cell? ⟨w88.heap.size, 0, none⟩ = some ((Value.slice a104 m105 c106)) := bx120.2 0 (by simp)
  have k145 : w127.cell? ⟨w88.heap.size, 1, none⟩ = some ((Value.slice a107 m108 c109)) := bx120.2 1 (by simp)
  go_wp2_with fail
  clear k140 k141 k142 k143 k144 k145
  refine (impl_FinishW d_aS (Value.slice a104 m105 c106) (Value.slice a107 m108 c109) d_aStack (Value.slice a137 m138 c139) s_aMost _ (ownL.rds o92) (ownL.rds o97) hb_aS (ownL.rds o131) hb_aStack).mono ?_
  rintro e w146 ⟨u148, u153, S149, S154, rfl, o150, o155, r151, r156, dj159, hb158, b147⟩
  have t160 := Below.trans t134 (Below.mono b147 zb0)
  have s161 := Below.trans s135 (Below.mono b147 za0)
  replace o92 := ownL.keep o92 (fun q hq => Below.block b147 q (hs94 q hq))
  replace hs94 := fun q hq => Nat.lt_of_lt_of_le (hs94 q hq) (Below.size b147)
  replace o97 := ownL.keep o97 (fun q hq => Below.block b147 q (hs99 q hq))
  replace hs99 := fun q hq => Nat.lt_of_lt_of_le (hs99 q hq) (Below.size b147)
  replace o131 := ownL.keep o131 (fun q hq => Below.block b147 q (hs133 q hq))
  replace hs133 := fun q hq => Nat.lt_of_lt_of_le (hs133 q hq) (Below.size b147)
  replace bx_aS := Box.below bx_aS b147
  replace bx83 := Box.below bx83 b147
  replace bx120 := Box.below bx120 b147
  have z162 := Below.size b147
  replace zb0 : W1.heap.size ≤ w146.heap.size := by omega
  replace za0 : w52.heap.size ≤ w146.heap.size := by omega
  obtain ⟨a163, m164, c165, rfl⟩ := ownL_shape o150
  have hs152 := fun q hq => (r151 q hq).2
  obtain ⟨a166, m167, c168, rfl⟩ := ownL_shape o155
  have hs157 := fun q hq => (r156 q hq).2
  have k169 : w146.cell? ⟨w.heap.size, 0, none⟩ = some ((Value.slice a_aS0 d_aS.heads_.length c_aS0)) := bx_aS.2 0 (by simp)
  have k170 : w146.cell? ⟨w.heap.size, 1, none⟩ = some ((Value.slice a_aS1 d_aS.descs_.length c_aS1)) := bx_aS.2 1 (by simp)
  have k171 : w146.cell? ⟨w52.heap.size, 0, none⟩ = some ((Value.slice a68 m69 c70)) := bx83.2 0 (by simp)
  have k172 : w146.cell? ⟨w52.heap.size, 1, none⟩ = some ((Value.slice a71 m72 c73)) := bx83.2 1 (by simp)
  have k173 : w146.cell? ⟨w88.heap.size, 0, none⟩ = some ((Value.slice a104 m105 c106)) := bx120.2 0 (by simp)
  have k174 : w146.cell? ⟨w88.heap.size, 1, none⟩ = some ((Value.slice a107 m108 c109)) := bx120.2 1 (by simp)
  obtain ⟨X175, hX176⟩ : ∃ X, w146.alloc (.cells #[(Value.slice a163 m164 c165), (Value.slice a166 m167 c168)] 32) = X := ⟨_, rfl⟩
  have bX177 : Below w146.heap.size w146 X175 := by rw [← hX176]; exact (Below.refl _ _).alloc (Nat.le_refl _) _
  have zX175 : X175.heap.size = w146.heap.size + 1 := by rw [← hX176]; simp
  have t178 := Below.trans t160 (Below.mono bX177 zb0)
  have s179 := Below.trans s161 (Below.mono bX177 za0)
  replace o92 := ownL.keep o92 (fun q hq => Below.block bX177 q (hs94 q hq))
  replace hs94 := fun q hq => Nat.lt_of_lt_of_le (hs94 q hq) (Below.size bX177)
  replace o97 := ownL.keep o97 (fun q hq => Below.block bX177 q (hs99 q hq))
  replace hs99 := fun q hq => Nat.lt_of_lt_of_le (hs99 q hq) (Below.size bX177)
  replace o131 := ownL.keep o131 (fun q hq => Below.block bX177 q (hs133 q hq))
  replace hs133 := fun q hq => Nat.lt_of_lt_of_le (hs133 q hq) (Below.size bX177)
  replace o150 := ownL.keep o150 (fun q hq => Below.block bX177 q (hs152 q hq))
  replace hs152 := fun q hq => Nat.lt_of_lt_of_le (hs152 q hq) (Below.size bX177)
  replace o155 := ownL.keep o155 (fun q hq => Below.block bX177 q (hs157 q hq))
  replace hs157 := fun q hq => Nat.lt_of_lt_of_le (hs157 q hq) (Below.size bX177)
  replace bx_aS := Box.below bx_aS bX177
  replace bx83 := Box.below bx83 bX177
  replace bx120 := Box.below bx120 bX177
  have z180 := Below.size bX177
  replace zb0 : W1.heap.size ≤ X175.heap.size := by omega
  replace za0 : w52.heap.size ≤ X175.heap.size := by omega
  have bx181 : Box X175 (w146.heap.size) [(Value.slice a163 m164 c165), (Value.slice a166 m167 c168)] := by rw [← hX176]; exact Box.alloc _ _ _
  have k182 : X175.cell? ⟨w.heap.size, 0, none⟩ = some ((Value.slice a_aS0 d_aS.heads_.length c_aS0)) := bx_aS.2 0 (by simp)
  have k183 : X175.cell? ⟨w.heap.size, 1, none⟩ = some ((Value.slice a_aS1 d_aS.descs_.length c_aS1)) := bx_aS.2 1 (by simp)
  have k184 : X175.cell? ⟨w52.heap.size, 0, none⟩ = some ((Value.slice a68 m69 c70)) := bx83.2 0 (by simp)
  have k185 : X175.cell? ⟨w52.heap.size, 1, none⟩ = some ((Value.slice a71 m72 c73)) := bx83.2 1 (by simp)
  have k186 : X175.cell? ⟨w88.heap.size, 0, none⟩ = some ((Value.slice a104 m105 c106)) := bx120.2 0 (by simp)
  have k187 : X175.cell? ⟨w88.heap.size, 1, none⟩ = some ((Value.slice a107 m108 c109)) := bx120.2 1 (by simp)
  have k188 : X175.cell? ⟨w146.heap.size, 0, none⟩ = some ((Value.slice a163 m164 c165)) := bx181.2 0 (by simp)
  have k189 : X175.cell? ⟨w146.heap.size, 1, none⟩ = some ((Value.slice a166 m167 c168)) := bx181.2 1 (by simp)
  go_wp2_with fail
  clear k169 k170 k171 k172 k173 k174 k182 k183 k184 k185 k186 k187 k188 k189 hX176
  refine (eqStore_o _ _ _ _ _ _ (ownL.rds o150) (ownL.rds o155) (rdsL.below o56 s179) (rdsL.below o61 s179)).mono ?_
  rintro e w190 ⟨rfl, b191⟩
  have t192 := Below.trans t178 (Below.mono b191 zb0)
  have s193 := Below.trans s179 (Below.mono b191 za0)
  replace o92 := ownL.keep o92 (fun q hq => Below.block b191 q (hs94 q hq))
  replace hs94 := fun q hq => Nat.lt_of_lt_of_le (hs94 q hq) (Below.size b191)
  replace o97 := ownL.keep o97 (fun q hq => Below.block b191 q (hs99 q hq))
  replace hs99 := fun q hq => Nat.lt_of_lt_of_le (hs99 q hq) (Below.size b191)
  replace o131 := ownL.keep o131 (fun q hq => Below.block b191 q (hs133 q hq))
  replace hs133 := fun q hq => Nat.lt_of_lt_of_le (hs133 q hq) (Below.size b191)
  replace o150 := ownL.keep o150 (fun q hq => Below.block b191 q (hs152 q hq))
  replace hs152 := fun q hq => Nat.lt_of_lt_of_le (hs152 q hq) (Below.size b191)
  replace o155 := ownL.keep o155 (fun q hq => Below.block b191 q (hs157 q hq))
  replace hs157 := fun q hq => Nat.lt_of_lt_of_le (hs157 q hq) (Below.size b191)
  replace bx_aS := Box.below bx_aS b191
  replace bx83 := Box.below bx83 b191
  replace bx120 := Box.below bx120 b191
  replace bx181 := Box.below bx181 b191
  have z194 := Below.size b191
  replace zb0 : W1.heap.size ≤ w190.heap.size := by omega
  replace za0 : w52.heap.size ≤ w190.heap.size := by omega
  have k195 : w190.cell? ⟨w.heap.size, 0, none⟩ = some ((Value.slice a_aS0 d_aS.heads_.length c_aS0)) := bx_aS.2 0 (by simp)
  have k196 : w190.cell? ⟨w.heap.size, 1, none⟩ = some ((Value.slice a_aS1 d_aS.descs_.length c_aS1)) := bx_aS.2 1 (by simp)
  have k197 : w190.cell? ⟨w52.heap.size, 0, none⟩ = some ((Value.slice a68 m69 c70)) := bx83.2 0 (by simp)
  have k198 : w190.cell? ⟨w52.heap.size, 1, none⟩ = some ((Value.slice a71 m72 c73)) := bx83.2 1 (by simp)
  have k199 : w190.cell? ⟨w88.heap.size, 0, none⟩ = some ((Value.slice a104 m105 c106)) := bx120.2 0 (by simp)
  have k200 : w190.cell? ⟨w88.heap.size, 1, none⟩ = some ((Value.slice a107 m108 c109)) := bx120.2 1 (by simp)
  have k201 : w190.cell? ⟨w146.heap.size, 0, none⟩ = some ((Value.slice a163 m164 c165)) := bx181.2 0 (by simp)
  have k202 : w190.cell? ⟨w146.heap.size, 1, none⟩ = some ((Value.slice a166 m167 c168)) := bx181.2 1 (by simp)
  go_wp2_with fail
  clear k195 k196 k197 k198 k199 k200 k201 k202
  have lt218 := (bx_aS).1
  have lt219 := (bx83).1
  have lt220 := (bx120).1
  have lt221 := (bx181).1
  have k222 : w190.cell? ⟨w.heap.size, 0, none⟩ = some ((Value.slice a_aS0 d_aS.heads_.length c_aS0)) := bx_aS.2 0 (by simp)
  have k223 : w190.cell? ⟨w.heap.size, 1, none⟩ = some ((Value.slice a_aS1 d_aS.descs_.length c_aS1)) := bx_aS.2 1 (by simp)
  have k224 : w190.cell? ⟨w52.heap.size, 0, none⟩ = some ((Value.slice a68 m69 c70)) := bx83.2 0 (by simp)
  have k225 : w190.cell? ⟨w52.heap.size, 1, none⟩ = some ((Value.slice a71 m72 c73)) := bx83.2 1 (by simp)
  have k226 : w190.cell? ⟨w88.heap.size, 0, none⟩ = some ((Value.slice a104 m105 c106)) := bx120.2 0 (by simp)
  have k227 : w190.cell? ⟨w88.heap.size, 1, none⟩ = some ((Value.slice a107 m108 c109)) := bx120.2 1 (by simp)
  have k228 : w190.cell? ⟨w146.heap.size, 0, none⟩ = some ((Value.slice a163 m164 c165)) := bx181.2 0 (by simp)
  have k229 : w190.cell? ⟨w146.heap.size, 1, none⟩ = some ((Value.slice a166 m167 c168)) := bx181.2 1 (by simp)
  go_region_held3 (fun w' => Below w190.heap.size w190 w' ∧ w190.heap.size ≤ w'.heap.size ∧ w'.cell? ⟨w.heap.size, 0, none⟩ = some ((Value.slice a_aS0 d_aS.heads_.length c_aS0)) ∧ w'.cell? ⟨w.heap.size, 1, none⟩ = some ((Value.slice a_aS1 d_aS.descs_.length c_aS1)) ∧ w'.cell? ⟨w52.heap.size, 0, none⟩ = some ((Value.slice a68 m69 c70)) ∧ w'.cell? ⟨w52.heap.size, 1, none⟩ = some ((Value.slice a71 m72 c73)) ∧ w'.cell? ⟨w88.heap.size, 0, none⟩ = some ((Value.slice a104 m105 c106)) ∧ w'.cell? ⟨w88.heap.size, 1, none⟩ = some ((Value.slice a107 m108 c109)) ∧ w'.cell? ⟨w146.heap.size, 0, none⟩ = some ((Value.slice a163 m164 c165)) ∧ w'.cell? ⟨w146.heap.size, 1, none⟩ = some ((Value.slice a166 m167 c168)))
    (first | exact ⟨(Below.refl _ _).drew, Nat.le_refl _, k222, k223, k224, k225, k226, k227, k228, k229⟩ | exact keepBox8 (by omega) ‹_› ‹_›)
    (first
    | (go_at_call 12; refine (toStore_o d_aS (Value.slice a_aS0 d_aS.heads_.length c_aS0) (Value.slice a_aS1 d_aS.descs_.length c_aS1) _ (rdsL.below (rdsL.below h_aS0 t192) ((Below.refl _ _).drew : Below w190.heap.size w190 w190.drew)) (rdsL.below (rdsL.below h_aS1 t192) ((Below.refl _ _).drew : Below w190.heap.size w190 w190.drew)) hb_aS).mono ?_; rintro e w203 ⟨u205, u210, S206, S211, rfl, o207, o212, r208, r213, dj215, b204⟩; have hq_w203 : Below w190.heap.size w190 w203 := Below.trans ((Below.refl _ _).drew : Below w190.heap.size w190 w190.drew) (Below.mono b204 (Below.size ((Below.refl _ _).drew : Below w190.heap.size w190 w190.drew))))
    | (go_at_call 15; refine (eqStore_o _ _ _ _ _ _ (rdsL.below (rdsL.below (ownL.rds o92) ((Below.refl _ _).drew : Below w190.heap.size w190 w190.drew)) b204) (rdsL.below (rdsL.below (ownL.rds o97) ((Below.refl _ _).drew : Below w190.heap.size w190 w190.drew)) b204) (ownL.rds o207) (ownL.rds o212)).mono ?_; rintro e w216 ⟨rfl, b217⟩))
  clear k222 k223 k224 k225 k226 k227 k228 k229
  have d230 : Below w190.heap.size w190 w190.drew := (Below.refl _ _).drew
  have t231 := Below.trans t192 (Below.mono d230 zb0)
  have s232 := Below.trans s193 (Below.mono d230 za0)
  replace o92 := ownL.keep o92 (fun q hq => Below.block d230 q (hs94 q hq))
  replace hs94 := fun q hq => Nat.lt_of_lt_of_le (hs94 q hq) (Below.size d230)
  replace o97 := ownL.keep o97 (fun q hq => Below.block d230 q (hs99 q hq))
  replace hs99 := fun q hq => Nat.lt_of_lt_of_le (hs99 q hq) (Below.size d230)
  replace o131 := ownL.keep o131 (fun q hq => Below.block d230 q (hs133 q hq))
  replace hs133 := fun q hq => Nat.lt_of_lt_of_le (hs133 q hq) (Below.size d230)
  replace o150 := ownL.keep o150 (fun q hq => Below.block d230 q (hs152 q hq))
  replace hs152 := fun q hq => Nat.lt_of_lt_of_le (hs152 q hq) (Below.size d230)
  replace o155 := ownL.keep o155 (fun q hq => Below.block d230 q (hs157 q hq))
  replace hs157 := fun q hq => Nat.lt_of_lt_of_le (hs157 q hq) (Below.size d230)
  replace bx_aS := Box.below bx_aS d230
  replace bx83 := Box.below bx83 d230
  replace bx120 := Box.below bx120 d230
  replace bx181 := Box.below bx181 d230
  have z233 := Below.size d230
  replace zb0 : W1.heap.size ≤ w190.drew.heap.size := by omega
  replace za0 : w52.heap.size ≤ w190.drew.heap.size := by omega
  have t234 := Below.trans t231 (Below.mono b204 zb0)
  have s235 := Below.trans s232 (Below.mono b204 za0)
  replace o92 := ownL.keep o92 (fun q hq => Below.block b204 q (hs94 q hq))
  replace hs94 := fun q hq => Nat.lt_of_lt_of_le (hs94 q hq) (Below.size b204)
  replace o97 := ownL.keep o97 (fun q hq => Below.block b204 q (hs99 q hq))
  replace hs99 := fun q hq => Nat.lt_of_lt_of_le (hs99 q hq) (Below.size b204)
  replace o131 := ownL.keep o131 (fun q hq => Below.block b204 q (hs133 q hq))
  replace hs133 := fun q hq => Nat.lt_of_lt_of_le (hs133 q hq) (Below.size b204)
  replace o150 := ownL.keep o150 (fun q hq => Below.block b204 q (hs152 q hq))
  replace hs152 := fun q hq => Nat.lt_of_lt_of_le (hs152 q hq) (Below.size b204)
  replace o155 := ownL.keep o155 (fun q hq => Below.block b204 q (hs157 q hq))
  replace hs157 := fun q hq => Nat.lt_of_lt_of_le (hs157 q hq) (Below.size b204)
  replace bx_aS := Box.below bx_aS b204
  replace bx83 := Box.below bx83 b204
  replace bx120 := Box.below bx120 b204
  replace bx181 := Box.below bx181 b204
  have z236 := Below.size b204
  replace zb0 : W1.heap.size ≤ w203.heap.size := by omega
  replace za0 : w52.heap.size ≤ w203.heap.size := by omega
  have t237 := Below.trans t234 (Below.mono b217 zb0)
  have s238 := Below.trans s235 (Below.mono b217 za0)
  replace o92 := ownL.keep o92 (fun q hq => Below.block b217 q (hs94 q hq))
  replace hs94 := fun q hq => Nat.lt_of_lt_of_le (hs94 q hq) (Below.size b217)
  replace o97 := ownL.keep o97 (fun q hq => Below.block b217 q (hs99 q hq))
  replace hs99 := fun q hq => Nat.lt_of_lt_of_le (hs99 q hq) (Below.size b217)
  replace o131 := ownL.keep o131 (fun q hq => Below.block b217 q (hs133 q hq))
  replace hs133 := fun q hq => Nat.lt_of_lt_of_le (hs133 q hq) (Below.size b217)
  replace o150 := ownL.keep o150 (fun q hq => Below.block b217 q (hs152 q hq))
  replace hs152 := fun q hq => Nat.lt_of_lt_of_le (hs152 q hq) (Below.size b217)
  replace o155 := ownL.keep o155 (fun q hq => Below.block b217 q (hs157 q hq))
  replace hs157 := fun q hq => Nat.lt_of_lt_of_le (hs157 q hq) (Below.size b217)
  replace bx_aS := Box.below bx_aS b217
  replace bx83 := Box.below bx83 b217
  replace bx120 := Box.below bx120 b217
  replace bx181 := Box.below bx181 b217
  have z239 := Below.size b217
  replace zb0 : W1.heap.size ≤ w216.heap.size := by omega
  replace za0 : w52.heap.size ≤ w216.heap.size := by omega
  have k240 : w216.cell? ⟨w.heap.size, 0, none⟩ = some ((Value.slice a_aS0 d_aS.heads_.length c_aS0)) := bx_aS.2 0 (by simp)
  have k241 : w216.cell? ⟨w.heap.size, 1, none⟩ = some ((Value.slice a_aS1 d_aS.descs_.length c_aS1)) := bx_aS.2 1 (by simp)
  have k242 : w216.cell? ⟨w52.heap.size, 0, none⟩ = some ((Value.slice a68 m69 c70)) := bx83.2 0 (by simp)
  have k243 : w216.cell? ⟨w52.heap.size, 1, none⟩ = some ((Value.slice a71 m72 c73)) := bx83.2 1 (by simp)
  have k244 : w216.cell? ⟨w88.heap.size, 0, none⟩ = some ((Value.slice a104 m105 c106)) := bx120.2 0 (by simp)
  have k245 : w216.cell? ⟨w88.heap.size, 1, none⟩ = some ((Value.slice a107 m108 c109)) := bx120.2 1 (by simp)
  have k246 : w216.cell? ⟨w146.heap.size, 0, none⟩ = some ((Value.slice a163 m164 c165)) := bx181.2 0 (by simp)
  have k247 : w216.cell? ⟨w146.heap.size, 1, none⟩ = some ((Value.slice a166 m167 c168)) := bx181.2 1 (by simp)
  go_wp2_with fail
  clear k240 k241 k242 k243 k244 k245 k246 k247
  refine (toFrameS_o d_aStack (Value.slice a_aStack0 d_aStack.length c_aStack0) _ (rdsL.below h_aStack0 t237) hb_aStack).mono ?_
  rintro e w248 ⟨u250, S251, rfl, o252, r253, b249⟩
  have t255 := Below.trans t237 (Below.mono b249 zb0)
  have s256 := Below.trans s238 (Below.mono b249 za0)
  replace o92 := ownL.keep o92 (fun q hq => Below.block b249 q (hs94 q hq))
  replace hs94 := fun q hq => Nat.lt_of_lt_of_le (hs94 q hq) (Below.size b249)
  replace o97 := ownL.keep o97 (fun q hq => Below.block b249 q (hs99 q hq))
  replace hs99 := fun q hq => Nat.lt_of_lt_of_le (hs99 q hq) (Below.size b249)
  replace o131 := ownL.keep o131 (fun q hq => Below.block b249 q (hs133 q hq))
  replace hs133 := fun q hq => Nat.lt_of_lt_of_le (hs133 q hq) (Below.size b249)
  replace o150 := ownL.keep o150 (fun q hq => Below.block b249 q (hs152 q hq))
  replace hs152 := fun q hq => Nat.lt_of_lt_of_le (hs152 q hq) (Below.size b249)
  replace o155 := ownL.keep o155 (fun q hq => Below.block b249 q (hs157 q hq))
  replace hs157 := fun q hq => Nat.lt_of_lt_of_le (hs157 q hq) (Below.size b249)
  replace bx_aS := Box.below bx_aS b249
  replace bx83 := Box.below bx83 b249
  replace bx120 := Box.below bx120 b249
  replace bx181 := Box.below bx181 b249
  have z257 := Below.size b249
  replace zb0 : W1.heap.size ≤ w248.heap.size := by omega
  replace za0 : w52.heap.size ≤ w248.heap.size := by omega
  obtain ⟨a258, m259, c260, rfl⟩ := ownL_shape o252
  have hs254 := fun q hq => (r253 q hq).2
  have k261 : w248.cell? ⟨w.heap.size, 0, none⟩ = some ((Value.slice a_aS0 d_aS.heads_.length c_aS0)) := bx_aS.2 0 (by simp)
  have k262 : w248.cell? ⟨w.heap.size, 1, none⟩ = some ((Value.slice a_aS1 d_aS.descs_.length c_aS1)) := bx_aS.2 1 (by simp)
  have k263 : w248.cell? ⟨w52.heap.size, 0, none⟩ = some ((Value.slice a68 m69 c70)) := bx83.2 0 (by simp)
  have k264 : w248.cell? ⟨w52.heap.size, 1, none⟩ = some ((Value.slice a71 m72 c73)) := bx83.2 1 (by simp)
  have k265 : w248.cell? ⟨w88.heap.size, 0, none⟩ = some ((Value.slice a104 m105 c106)) := bx120.2 0 (by simp)
  have k266 : w248.cell? ⟨w88.heap.size, 1, none⟩ = some ((Value.slice a107 m108 c109)) := bx120.2 1 (by simp)
  have k267 : w248.cell? ⟨w146.heap.size, 0, none⟩ = some ((Value.slice a163 m164 c165)) := bx181.2 0 (by simp)
  have k268 : w248.cell? ⟨w146.heap.size, 1, none⟩ = some ((Value.slice a166 m167 c168)) := bx181.2 1 (by simp)
  go_wp2_with fail
  clear k261 k262 k263 k264 k265 k266 k267 k268
  refine (eqFrameS_o _ _ _ _ (ownL.rds o131) (ownL.rds o252)).mono ?_
  rintro e w269 ⟨rfl, b270⟩
  have t271 := Below.trans t255 (Below.mono b270 zb0)
  have s272 := Below.trans s256 (Below.mono b270 za0)
  replace o92 := ownL.keep o92 (fun q hq => Below.block b270 q (hs94 q hq))
  replace hs94 := fun q hq => Nat.lt_of_lt_of_le (hs94 q hq) (Below.size b270)
  replace o97 := ownL.keep o97 (fun q hq => Below.block b270 q (hs99 q hq))
  replace hs99 := fun q hq => Nat.lt_of_lt_of_le (hs99 q hq) (Below.size b270)
  replace o131 := ownL.keep o131 (fun q hq => Below.block b270 q (hs133 q hq))
  replace hs133 := fun q hq => Nat.lt_of_lt_of_le (hs133 q hq) (Below.size b270)
  replace o150 := ownL.keep o150 (fun q hq => Below.block b270 q (hs152 q hq))
  replace hs152 := fun q hq => Nat.lt_of_lt_of_le (hs152 q hq) (Below.size b270)
  replace o155 := ownL.keep o155 (fun q hq => Below.block b270 q (hs157 q hq))
  replace hs157 := fun q hq => Nat.lt_of_lt_of_le (hs157 q hq) (Below.size b270)
  replace bx_aS := Box.below bx_aS b270
  replace bx83 := Box.below bx83 b270
  replace bx120 := Box.below bx120 b270
  replace bx181 := Box.below bx181 b270
  have z273 := Below.size b270
  replace zb0 : W1.heap.size ≤ w269.heap.size := by omega
  replace za0 : w52.heap.size ≤ w269.heap.size := by omega
  have k274 : w269.cell? ⟨w.heap.size, 0, none⟩ = some ((Value.slice a_aS0 d_aS.heads_.length c_aS0)) := bx_aS.2 0 (by simp)
  have k275 : w269.cell? ⟨w.heap.size, 1, none⟩ = some ((Value.slice a_aS1 d_aS.descs_.length c_aS1)) := bx_aS.2 1 (by simp)
  have k276 : w269.cell? ⟨w52.heap.size, 0, none⟩ = some ((Value.slice a68 m69 c70)) := bx83.2 0 (by simp)
  have k277 : w269.cell? ⟨w52.heap.size, 1, none⟩ = some ((Value.slice a71 m72 c73)) := bx83.2 1 (by simp)
  have k278 : w269.cell? ⟨w88.heap.size, 0, none⟩ = some ((Value.slice a104 m105 c106)) := bx120.2 0 (by simp)
  have k279 : w269.cell? ⟨w88.heap.size, 1, none⟩ = some ((Value.slice a107 m108 c109)) := bx120.2 1 (by simp)
  have k280 : w269.cell? ⟨w146.heap.size, 0, none⟩ = some ((Value.slice a163 m164 c165)) := bx181.2 0 (by simp)
  have k281 : w269.cell? ⟨w146.heap.size, 1, none⟩ = some ((Value.slice a166 m167 c168)) := bx181.2 1 (by simp)
  go_wp2_with fail
  clear k274 k275 k276 k277 k278 k279 k280 k281
  have le286 := cntS_le hb_aS
  refine (markStore_o S91 S96 _ _ _ _ _ hs94 hs99 dj100 hb_aS (by omega) (by omega) o92 o97).mono ?_
  rintro e w282 ⟨rfl, o284, o285, C283⟩
  have t287 := below_chg t271 C283 zb0 (by intro q hx; rcases hx with hx | hx; (have y := r93 q hx; have y1 := y.1; have y2 := y.2; omega); (have y := r98 q hx; have y1 := y.1; have y2 := y.2; omega))
  have s288 := below_chg s272 C283 za0 (by intro q hx; rcases hx with hx | hx; (have y := r93 q hx; have y1 := y.1; have y2 := y.2; omega); (have y := r98 q hx; have y1 := y.1; have y2 := y.2; omega))
  replace hs94 := fun q hq => Nat.lt_of_lt_of_le (hs94 q hq) (ChgS.size C283)
  replace hs99 := fun q hq => Nat.lt_of_lt_of_le (hs99 q hq) (ChgS.size C283)
  replace o131 := ownL.keep o131 (fun q hq => ChgS.block C283 q (hs133 q hq) (by intro hx; have x0 := r132 q hq; have x1 := x0.1; have x2 := x0.2; rcases hx with hx | hx; (have y := r93 q hx; have y1 := y.1; have y2 := y.2; omega); (have y := r98 q hx; have y1 := y.1; have y2 := y.2; omega)))
  replace hs133 := fun q hq => Nat.lt_of_lt_of_le (hs133 q hq) (ChgS.size C283)
  replace o150 := ownL.keep o150 (fun q hq => ChgS.block C283 q (hs152 q hq) (by intro hx; have x0 := r151 q hq; have x1 := x0.1; have x2 := x0.2; rcases hx with hx | hx; (have y := r93 q hx; have y1 := y.1; have y2 := y.2; omega); (have y := r98 q hx; have y1 := y.1; have y2 := y.2; omega)))
  replace hs152 := fun q hq => Nat.lt_of_lt_of_le (hs152 q hq) (ChgS.size C283)
  replace o155 := ownL.keep o155 (fun q hq => ChgS.block C283 q (hs157 q hq) (by intro hx; have x0 := r156 q hq; have x1 := x0.1; have x2 := x0.2; rcases hx with hx | hx; (have y := r93 q hx; have y1 := y.1; have y2 := y.2; omega); (have y := r98 q hx; have y1 := y.1; have y2 := y.2; omega)))
  replace hs157 := fun q hq => Nat.lt_of_lt_of_le (hs157 q hq) (ChgS.size C283)
  replace bx_aS := Box.chg bx_aS C283 (by intro hx; rcases hx with hx | hx; (have y := r93 _ hx; have y1 := y.1; have y2 := y.2; omega); (have y := r98 _ hx; have y1 := y.1; have y2 := y.2; omega))
  replace bx83 := Box.chg bx83 C283 (by intro hx; rcases hx with hx | hx; (have y := r93 _ hx; have y1 := y.1; have y2 := y.2; omega); (have y := r98 _ hx; have y1 := y.1; have y2 := y.2; omega))
  replace bx120 := Box.chg bx120 C283 (by intro hx; rcases hx with hx | hx; (have y := r93 _ hx; have y1 := y.1; have y2 := y.2; omega); (have y := r98 _ hx; have y1 := y.1; have y2 := y.2; omega))
  replace bx181 := Box.chg bx181 C283 (by intro hx; rcases hx with hx | hx; (have y := r93 _ hx; have y1 := y.1; have y2 := y.2; omega); (have y := r98 _ hx; have y1 := y.1; have y2 := y.2; omega))
  have z289 := ChgS.size C283
  replace zb0 : W1.heap.size ≤ w282.heap.size := by omega
  replace za0 : w52.heap.size ≤ w282.heap.size := by omega
  have k290 : w282.cell? ⟨w.heap.size, 0, none⟩ = some ((Value.slice a_aS0 d_aS.heads_.length c_aS0)) := bx_aS.2 0 (by simp)
  have k291 : w282.cell? ⟨w.heap.size, 1, none⟩ = some ((Value.slice a_aS1 d_aS.descs_.length c_aS1)) := bx_aS.2 1 (by simp)
  have k292 : w282.cell? ⟨w52.heap.size, 0, none⟩ = some ((Value.slice a68 m69 c70)) := bx83.2 0 (by simp)
  have k293 : w282.cell? ⟨w52.heap.size, 1, none⟩ = some ((Value.slice a71 m72 c73)) := bx83.2 1 (by simp)
  have k294 : w282.cell? ⟨w88.heap.size, 0, none⟩ = some ((Value.slice a104 m105 c106)) := bx120.2 0 (by simp)
  have k295 : w282.cell? ⟨w88.heap.size, 1, none⟩ = some ((Value.slice a107 m108 c109)) := bx120.2 1 (by simp)
  have k296 : w282.cell? ⟨w146.heap.size, 0, none⟩ = some ((Value.slice a163 m164 c165)) := bx181.2 0 (by simp)
  have k297 : w282.cell? ⟨w146.heap.size, 1, none⟩ = some ((Value.slice a166 m167 c168)) := bx181.2 1 (by simp)
  go_wp2_with fail
  clear k290 k291 k292 k293 k294 k295 k296 k297
  have le301 := cntFrameS_le hb_aStack
  refine (markFrameS_o S130 _ _ _ _ hs133  hb_aStack (by omega) (by omega) o131).mono ?_
  rintro e w298 ⟨rfl, o300, C299⟩
  have t302 := below_chg t287 C299 zb0 (by intro q hx; have y := r132 q hx; have y1 := y.1; have y2 := y.2; omega)
  have s303 := below_chg s288 C299 za0 (by intro q hx; have y := r132 q hx; have y1 := y.1; have y2 := y.2; omega)
  replace o284 := ownL.keep o284 (fun q hq => ChgS.block C299 q (hs94 q hq) (by intro hx; have x0 := r93 q hq; have x1 := x0.1; have x2 := x0.2; have y := r132 q hx; have y1 := y.1; have y2 := y.2; omega))
  replace hs94 := fun q hq => Nat.lt_of_lt_of_le (hs94 q hq) (ChgS.size C299)
  replace o285 := ownL.keep o285 (fun q hq => ChgS.block C299 q (hs99 q hq) (by intro hx; have x0 := r98 q hq; have x1 := x0.1; have x2 := x0.2; have y := r132 q hx; have y1 := y.1; have y2 := y.2; omega))
  replace hs99 := fun q hq => Nat.lt_of_lt_of_le (hs99 q hq) (ChgS.size C299)
  replace hs133 := fun q hq => Nat.lt_of_lt_of_le (hs133 q hq) (ChgS.size C299)
  replace o150 := ownL.keep o150 (fun q hq => ChgS.block C299 q (hs152 q hq) (by intro hx; have x0 := r151 q hq; have x1 := x0.1; have x2 := x0.2; have y := r132 q hx; have y1 := y.1; have y2 := y.2; omega))
  replace hs152 := fun q hq => Nat.lt_of_lt_of_le (hs152 q hq) (ChgS.size C299)
  replace o155 := ownL.keep o155 (fun q hq => ChgS.block C299 q (hs157 q hq) (by intro hx; have x0 := r156 q hq; have x1 := x0.1; have x2 := x0.2; have y := r132 q hx; have y1 := y.1; have y2 := y.2; omega))
  replace hs157 := fun q hq => Nat.lt_of_lt_of_le (hs157 q hq) (ChgS.size C299)
  replace bx_aS := Box.chg bx_aS C299 (by intro hx; have y := r132 _ hx; have y1 := y.1; have y2 := y.2; omega)
  replace bx83 := Box.chg bx83 C299 (by intro hx; have y := r132 _ hx; have y1 := y.1; have y2 := y.2; omega)
  replace bx120 := Box.chg bx120 C299 (by intro hx; have y := r132 _ hx; have y1 := y.1; have y2 := y.2; omega)
  replace bx181 := Box.chg bx181 C299 (by intro hx; have y := r132 _ hx; have y1 := y.1; have y2 := y.2; omega)
  have z304 := ChgS.size C299
  replace zb0 : W1.heap.size ≤ w298.heap.size := by omega
  replace za0 : w52.heap.size ≤ w298.heap.size := by omega
  have k305 : w298.cell? ⟨w.heap.size, 0, none⟩ = some ((Value.slice a_aS0 d_aS.heads_.length c_aS0)) := bx_aS.2 0 (by simp)
  have k306 : w298.cell? ⟨w.heap.size, 1, none⟩ = some ((Value.slice a_aS1 d_aS.descs_.length c_aS1)) := bx_aS.2 1 (by simp)
  have k307 : w298.cell? ⟨w52.heap.size, 0, none⟩ = some ((Value.slice a68 m69 c70)) := bx83.2 0 (by simp)
  have k308 : w298.cell? ⟨w52.heap.size, 1, none⟩ = some ((Value.slice a71 m72 c73)) := bx83.2 1 (by simp)
  have k309 : w298.cell? ⟨w88.heap.size, 0, none⟩ = some ((Value.slice a104 m105 c106)) := bx120.2 0 (by simp)
  have k310 : w298.cell? ⟨w88.heap.size, 1, none⟩ = some ((Value.slice a107 m108 c109)) := bx120.2 1 (by simp)
  have k311 : w298.cell? ⟨w146.heap.size, 0, none⟩ = some ((Value.slice a163 m164 c165)) := bx181.2 0 (by simp)
  have k312 : w298.cell? ⟨w146.heap.size, 1, none⟩ = some ((Value.slice a166 m167 c168)) := bx181.2 1 (by simp)
  go_wp2_with fail
  clear k305 k306 k307 k308 k309 k310 k311 k312
  refine (eqStore_o _ _ _ _ _ _ (ownL.rds o150) (ownL.rds o155) (rdsL.below o56 s303) (rdsL.below o61 s303)).mono ?_
  rintro e w313 ⟨rfl, b314⟩
  have t315 := Below.trans t302 (Below.mono b314 zb0)
  have s316 := Below.trans s303 (Below.mono b314 za0)
  replace o284 := ownL.keep o284 (fun q hq => Below.block b314 q (hs94 q hq))
  replace hs94 := fun q hq => Nat.lt_of_lt_of_le (hs94 q hq) (Below.size b314)
  replace o285 := ownL.keep o285 (fun q hq => Below.block b314 q (hs99 q hq))
  replace hs99 := fun q hq => Nat.lt_of_lt_of_le (hs99 q hq) (Below.size b314)
  replace o300 := ownL.keep o300 (fun q hq => Below.block b314 q (hs133 q hq))
  replace hs133 := fun q hq => Nat.lt_of_lt_of_le (hs133 q hq) (Below.size b314)
  replace o150 := ownL.keep o150 (fun q hq => Below.block b314 q (hs152 q hq))
  replace hs152 := fun q hq => Nat.lt_of_lt_of_le (hs152 q hq) (Below.size b314)
  replace o155 := ownL.keep o155 (fun q hq => Below.block b314 q (hs157 q hq))
  replace hs157 := fun q hq => Nat.lt_of_lt_of_le (hs157 q hq) (Below.size b314)
  replace bx_aS := Box.below bx_aS b314
  replace bx83 := Box.below bx83 b314
  replace bx120 := Box.below bx120 b314
  replace bx181 := Box.below bx181 b314
  have z317 := Below.size b314
  replace zb0 : W1.heap.size ≤ w313.heap.size := by omega
  replace za0 : w52.heap.size ≤ w313.heap.size := by omega
  have k318 : w313.cell? ⟨w.heap.size, 0, none⟩ = some ((Value.slice a_aS0 d_aS.heads_.length c_aS0)) := bx_aS.2 0 (by simp)
  have k319 : w313.cell? ⟨w.heap.size, 1, none⟩ = some ((Value.slice a_aS1 d_aS.descs_.length c_aS1)) := bx_aS.2 1 (by simp)
  have k320 : w313.cell? ⟨w52.heap.size, 0, none⟩ = some ((Value.slice a68 m69 c70)) := bx83.2 0 (by simp)
  have k321 : w313.cell? ⟨w52.heap.size, 1, none⟩ = some ((Value.slice a71 m72 c73)) := bx83.2 1 (by simp)
  have k322 : w313.cell? ⟨w88.heap.size, 0, none⟩ = some ((Value.slice a104 m105 c106)) := bx120.2 0 (by simp)
  have k323 : w313.cell? ⟨w88.heap.size, 1, none⟩ = some ((Value.slice a107 m108 c109)) := bx120.2 1 (by simp)
  have k324 : w313.cell? ⟨w146.heap.size, 0, none⟩ = some ((Value.slice a163 m164 c165)) := bx181.2 0 (by simp)
  have k325 : w313.cell? ⟨w146.heap.size, 1, none⟩ = some ((Value.slice a166 m167 c168)) := bx181.2 1 (by simp)
  go_wp2_with fail
  clear k318 k319 k320 k321 k322 k323 k324 k325
  have le330 := cntS_le hb158
  refine (markStore_o S149 S154 _ _ _ _ _ hs152 hs157 dj159 hb158 (by omega) (by omega) o150 o155).mono ?_
  rintro e w326 ⟨rfl, o328, o329, C327⟩
  have t331 := below_chg t315 C327 zb0 (by intro q hx; rcases hx with hx | hx; (have y := r151 q hx; have y1 := y.1; have y2 := y.2; omega); (have y := r156 q hx; have y1 := y.1; have y2 := y.2; omega))
  have s332 := below_chg s316 C327 za0 (by intro q hx; rcases hx with hx | hx; (have y := r151 q hx; have y1 := y.1; have y2 := y.2; omega); (have y := r156 q hx; have y1 := y.1; have y2 := y.2; omega))
  replace o284 := ownL.keep o284 (fun q hq => ChgS.block C327 q (hs94 q hq) (by intro hx; have x0 := r93 q hq; have x1 := x0.1; have x2 := x0.2; rcases hx with hx | hx; (have y := r151 q hx; have y1 := y.1; have y2 := y.2; omega); (have y := r156 q hx; have y1 := y.1; have y2 := y.2; omega)))
  replace hs94 := fun q hq => Nat.lt_of_lt_of_le (hs94 q hq) (ChgS.size C327)
  replace o285 := ownL.keep o285 (fun q hq => ChgS.block C327 q (hs99 q hq) (by intro hx; have x0 := r98 q hq; have x1 := x0.1; have x2 := x0.2; rcases hx with hx | hx; (have y := r151 q hx; have y1 := y.1; have y2 := y.2; omega); (have y := r156 q hx; have y1 := y.1; have y2 := y.2; omega)))
  replace hs99 := fun q hq => Nat.lt_of_lt_of_le (hs99 q hq) (ChgS.size C327)
  replace o300 := ownL.keep o300 (fun q hq => ChgS.block C327 q (hs133 q hq) (by intro hx; have x0 := r132 q hq; have x1 := x0.1; have x2 := x0.2; rcases hx with hx | hx; (have y := r151 q hx; have y1 := y.1; have y2 := y.2; omega); (have y := r156 q hx; have y1 := y.1; have y2 := y.2; omega)))
  replace hs133 := fun q hq => Nat.lt_of_lt_of_le (hs133 q hq) (ChgS.size C327)
  replace hs152 := fun q hq => Nat.lt_of_lt_of_le (hs152 q hq) (ChgS.size C327)
  replace hs157 := fun q hq => Nat.lt_of_lt_of_le (hs157 q hq) (ChgS.size C327)
  replace bx_aS := Box.chg bx_aS C327 (by intro hx; rcases hx with hx | hx; (have y := r151 _ hx; have y1 := y.1; have y2 := y.2; omega); (have y := r156 _ hx; have y1 := y.1; have y2 := y.2; omega))
  replace bx83 := Box.chg bx83 C327 (by intro hx; rcases hx with hx | hx; (have y := r151 _ hx; have y1 := y.1; have y2 := y.2; omega); (have y := r156 _ hx; have y1 := y.1; have y2 := y.2; omega))
  replace bx120 := Box.chg bx120 C327 (by intro hx; rcases hx with hx | hx; (have y := r151 _ hx; have y1 := y.1; have y2 := y.2; omega); (have y := r156 _ hx; have y1 := y.1; have y2 := y.2; omega))
  replace bx181 := Box.chg bx181 C327 (by intro hx; rcases hx with hx | hx; (have y := r151 _ hx; have y1 := y.1; have y2 := y.2; omega); (have y := r156 _ hx; have y1 := y.1; have y2 := y.2; omega))
  have z333 := ChgS.size C327
  replace zb0 : W1.heap.size ≤ w326.heap.size := by omega
  replace za0 : w52.heap.size ≤ w326.heap.size := by omega
  have k334 : w326.cell? ⟨w.heap.size, 0, none⟩ = some ((Value.slice a_aS0 d_aS.heads_.length c_aS0)) := bx_aS.2 0 (by simp)
  have k335 : w326.cell? ⟨w.heap.size, 1, none⟩ = some ((Value.slice a_aS1 d_aS.descs_.length c_aS1)) := bx_aS.2 1 (by simp)
  have k336 : w326.cell? ⟨w52.heap.size, 0, none⟩ = some ((Value.slice a68 m69 c70)) := bx83.2 0 (by simp)
  have k337 : w326.cell? ⟨w52.heap.size, 1, none⟩ = some ((Value.slice a71 m72 c73)) := bx83.2 1 (by simp)
  have k338 : w326.cell? ⟨w88.heap.size, 0, none⟩ = some ((Value.slice a104 m105 c106)) := bx120.2 0 (by simp)
  have k339 : w326.cell? ⟨w88.heap.size, 1, none⟩ = some ((Value.slice a107 m108 c109)) := bx120.2 1 (by simp)
  have k340 : w326.cell? ⟨w146.heap.size, 0, none⟩ = some ((Value.slice a163 m164 c165)) := bx181.2 0 (by simp)
  have k341 : w326.cell? ⟨w146.heap.size, 1, none⟩ = some ((Value.slice a166 m167 c168)) := bx181.2 1 (by simp)
  go_wp2_with fail
  clear k334 k335 k336 k337 k338 k339 k340 k341
  refine (heldStore_o _ _ _ _ _ hb158 (by omega) (by omega) (ownL.rds o328) (ownL.rds o329)).mono ?_
  rintro e w342 ⟨rfl, b343⟩
  have t344 := Below.trans t331 (Below.mono b343 zb0)
  have s345 := Below.trans s332 (Below.mono b343 za0)
  replace o284 := ownL.keep o284 (fun q hq => Below.block b343 q (hs94 q hq))
  replace hs94 := fun q hq => Nat.lt_of_lt_of_le (hs94 q hq) (Below.size b343)
  replace o285 := ownL.keep o285 (fun q hq => Below.block b343 q (hs99 q hq))
  replace hs99 := fun q hq => Nat.lt_of_lt_of_le (hs99 q hq) (Below.size b343)
  replace o300 := ownL.keep o300 (fun q hq => Below.block b343 q (hs133 q hq))
  replace hs133 := fun q hq => Nat.lt_of_lt_of_le (hs133 q hq) (Below.size b343)
  replace o328 := ownL.keep o328 (fun q hq => Below.block b343 q (hs152 q hq))
  replace hs152 := fun q hq => Nat.lt_of_lt_of_le (hs152 q hq) (Below.size b343)
  replace o329 := ownL.keep o329 (fun q hq => Below.block b343 q (hs157 q hq))
  replace hs157 := fun q hq => Nat.lt_of_lt_of_le (hs157 q hq) (Below.size b343)
  replace bx_aS := Box.below bx_aS b343
  replace bx83 := Box.below bx83 b343
  replace bx120 := Box.below bx120 b343
  replace bx181 := Box.below bx181 b343
  have z346 := Below.size b343
  replace zb0 : W1.heap.size ≤ w342.heap.size := by omega
  replace za0 : w52.heap.size ≤ w342.heap.size := by omega
  have k347 : w342.cell? ⟨w.heap.size, 0, none⟩ = some ((Value.slice a_aS0 d_aS.heads_.length c_aS0)) := bx_aS.2 0 (by simp)
  have k348 : w342.cell? ⟨w.heap.size, 1, none⟩ = some ((Value.slice a_aS1 d_aS.descs_.length c_aS1)) := bx_aS.2 1 (by simp)
  have k349 : w342.cell? ⟨w52.heap.size, 0, none⟩ = some ((Value.slice a68 m69 c70)) := bx83.2 0 (by simp)
  have k350 : w342.cell? ⟨w52.heap.size, 1, none⟩ = some ((Value.slice a71 m72 c73)) := bx83.2 1 (by simp)
  have k351 : w342.cell? ⟨w88.heap.size, 0, none⟩ = some ((Value.slice a104 m105 c106)) := bx120.2 0 (by simp)
  have k352 : w342.cell? ⟨w88.heap.size, 1, none⟩ = some ((Value.slice a107 m108 c109)) := bx120.2 1 (by simp)
  have k353 : w342.cell? ⟨w146.heap.size, 0, none⟩ = some ((Value.slice a163 m164 c165)) := bx181.2 0 (by simp)
  have k354 : w342.cell? ⟨w146.heap.size, 1, none⟩ = some ((Value.slice a166 m167 c168)) := bx181.2 1 (by simp)
  go_wp2_with fail
  clear k347 k348 k349 k350 k351 k352 k353 k354
  refine (toStore_o d_aS (Value.slice a_aS0 d_aS.heads_.length c_aS0) (Value.slice a_aS1 d_aS.descs_.length c_aS1) _ (rdsL.below h_aS0 t344) (rdsL.below h_aS1 t344) hb_aS).mono ?_
  rintro e w355 ⟨u357, u362, S358, S363, rfl, o359, o364, r360, r365, dj367, b356⟩
  have t368 := Below.trans t344 (Below.mono b356 zb0)
  have s369 := Below.trans s345 (Below.mono b356 za0)
  replace o284 := ownL.keep o284 (fun q hq => Below.block b356 q (hs94 q hq))
  replace hs94 := fun q hq => Nat.lt_of_lt_of_le (hs94 q hq) (Below.size b356)
  replace o285 := ownL.keep o285 (fun q hq => Below.block b356 q (hs99 q hq))
  replace hs99 := fun q hq => Nat.lt_of_lt_of_le (hs99 q hq) (Below.size b356)
  replace o300 := ownL.keep o300 (fun q hq => Below.block b356 q (hs133 q hq))
  replace hs133 := fun q hq => Nat.lt_of_lt_of_le (hs133 q hq) (Below.size b356)
  replace o328 := ownL.keep o328 (fun q hq => Below.block b356 q (hs152 q hq))
  replace hs152 := fun q hq => Nat.lt_of_lt_of_le (hs152 q hq) (Below.size b356)
  replace o329 := ownL.keep o329 (fun q hq => Below.block b356 q (hs157 q hq))
  replace hs157 := fun q hq => Nat.lt_of_lt_of_le (hs157 q hq) (Below.size b356)
  replace bx_aS := Box.below bx_aS b356
  replace bx83 := Box.below bx83 b356
  replace bx120 := Box.below bx120 b356
  replace bx181 := Box.below bx181 b356
  have z370 := Below.size b356
  replace zb0 : W1.heap.size ≤ w355.heap.size := by omega
  replace za0 : w52.heap.size ≤ w355.heap.size := by omega
  obtain ⟨a371, m372, c373, rfl⟩ := ownL_shape o359
  have hs361 := fun q hq => (r360 q hq).2
  obtain ⟨a374, m375, c376, rfl⟩ := ownL_shape o364
  have hs366 := fun q hq => (r365 q hq).2
  have k377 : w355.cell? ⟨w.heap.size, 0, none⟩ = some ((Value.slice a_aS0 d_aS.heads_.length c_aS0)) := bx_aS.2 0 (by simp)
  have k378 : w355.cell? ⟨w.heap.size, 1, none⟩ = some ((Value.slice a_aS1 d_aS.descs_.length c_aS1)) := bx_aS.2 1 (by simp)
  have k379 : w355.cell? ⟨w52.heap.size, 0, none⟩ = some ((Value.slice a68 m69 c70)) := bx83.2 0 (by simp)
  have k380 : w355.cell? ⟨w52.heap.size, 1, none⟩ = some ((Value.slice a71 m72 c73)) := bx83.2 1 (by simp)
  have k381 : w355.cell? ⟨w88.heap.size, 0, none⟩ = some ((Value.slice a104 m105 c106)) := bx120.2 0 (by simp)
  have k382 : w355.cell? ⟨w88.heap.size, 1, none⟩ = some ((Value.slice a107 m108 c109)) := bx120.2 1 (by simp)
  have k383 : w355.cell? ⟨w146.heap.size, 0, none⟩ = some ((Value.slice a163 m164 c165)) := bx181.2 0 (by simp)
  have k384 : w355.cell? ⟨w146.heap.size, 1, none⟩ = some ((Value.slice a166 m167 c168)) := bx181.2 1 (by simp)
  go_wp2_with fail
  clear k377 k378 k379 k380 k381 k382 k383 k384
  refine (toFrameS_o d_aStack (Value.slice a_aStack0 d_aStack.length c_aStack0) _ (rdsL.below h_aStack0 t368) hb_aStack).mono ?_
  rintro e w385 ⟨u387, S388, rfl, o389, r390, b386⟩
  have t392 := Below.trans t368 (Below.mono b386 zb0)
  have s393 := Below.trans s369 (Below.mono b386 za0)
  replace o284 := ownL.keep o284 (fun q hq => Below.block b386 q (hs94 q hq))
  replace hs94 := fun q hq => Nat.lt_of_lt_of_le (hs94 q hq) (Below.size b386)
  replace o285 := ownL.keep o285 (fun q hq => Below.block b386 q (hs99 q hq))
  replace hs99 := fun q hq => Nat.lt_of_lt_of_le (hs99 q hq) (Below.size b386)
  replace o300 := ownL.keep o300 (fun q hq => Below.block b386 q (hs133 q hq))
  replace hs133 := fun q hq => Nat.lt_of_lt_of_le (hs133 q hq) (Below.size b386)
  replace o328 := ownL.keep o328 (fun q hq => Below.block b386 q (hs152 q hq))
  replace hs152 := fun q hq => Nat.lt_of_lt_of_le (hs152 q hq) (Below.size b386)
  replace o329 := ownL.keep o329 (fun q hq => Below.block b386 q (hs157 q hq))
  replace hs157 := fun q hq => Nat.lt_of_lt_of_le (hs157 q hq) (Below.size b386)
  replace o359 := ownL.keep o359 (fun q hq => Below.block b386 q (hs361 q hq))
  replace hs361 := fun q hq => Nat.lt_of_lt_of_le (hs361 q hq) (Below.size b386)
  replace o364 := ownL.keep o364 (fun q hq => Below.block b386 q (hs366 q hq))
  replace hs366 := fun q hq => Nat.lt_of_lt_of_le (hs366 q hq) (Below.size b386)
  replace bx_aS := Box.below bx_aS b386
  replace bx83 := Box.below bx83 b386
  replace bx120 := Box.below bx120 b386
  replace bx181 := Box.below bx181 b386
  have z394 := Below.size b386
  replace zb0 : W1.heap.size ≤ w385.heap.size := by omega
  replace za0 : w52.heap.size ≤ w385.heap.size := by omega
  obtain ⟨a395, m396, c397, rfl⟩ := ownL_shape o389
  have hs391 := fun q hq => (r390 q hq).2
  have k398 : w385.cell? ⟨w.heap.size, 0, none⟩ = some ((Value.slice a_aS0 d_aS.heads_.length c_aS0)) := bx_aS.2 0 (by simp)
  have k399 : w385.cell? ⟨w.heap.size, 1, none⟩ = some ((Value.slice a_aS1 d_aS.descs_.length c_aS1)) := bx_aS.2 1 (by simp)
  have k400 : w385.cell? ⟨w52.heap.size, 0, none⟩ = some ((Value.slice a68 m69 c70)) := bx83.2 0 (by simp)
  have k401 : w385.cell? ⟨w52.heap.size, 1, none⟩ = some ((Value.slice a71 m72 c73)) := bx83.2 1 (by simp)
  have k402 : w385.cell? ⟨w88.heap.size, 0, none⟩ = some ((Value.slice a104 m105 c106)) := bx120.2 0 (by simp)
  have k403 : w385.cell? ⟨w88.heap.size, 1, none⟩ = some ((Value.slice a107 m108 c109)) := bx120.2 1 (by simp)
  have k404 : w385.cell? ⟨w146.heap.size, 0, none⟩ = some ((Value.slice a163 m164 c165)) := bx181.2 0 (by simp)
  have k405 : w385.cell? ⟨w146.heap.size, 1, none⟩ = some ((Value.slice a166 m167 c168)) := bx181.2 1 (by simp)
  go_wp2_with fail
  clear k398 k399 k400 k401 k402 k403 k404 k405
  refine (impl_FinishW d_aS (Value.slice a371 m372 c373) (Value.slice a374 m375 c376) d_aStack (Value.slice a395 m396 c397) s_aMost _ (ownL.rds o359) (ownL.rds o364) hb_aS (ownL.rds o389) hb_aStack).mono ?_
  rintro e w406 ⟨u408, u413, S409, S414, rfl, o410, o415, r411, r416, dj419, hb418, b407⟩
  have t420 := Below.trans t392 (Below.mono b407 zb0)
  have s421 := Below.trans s393 (Below.mono b407 za0)
  replace o284 := ownL.keep o284 (fun q hq => Below.block b407 q (hs94 q hq))
  replace hs94 := fun q hq => Nat.lt_of_lt_of_le (hs94 q hq) (Below.size b407)
  replace o285 := ownL.keep o285 (fun q hq => Below.block b407 q (hs99 q hq))
  replace hs99 := fun q hq => Nat.lt_of_lt_of_le (hs99 q hq) (Below.size b407)
  replace o300 := ownL.keep o300 (fun q hq => Below.block b407 q (hs133 q hq))
  replace hs133 := fun q hq => Nat.lt_of_lt_of_le (hs133 q hq) (Below.size b407)
  replace o328 := ownL.keep o328 (fun q hq => Below.block b407 q (hs152 q hq))
  replace hs152 := fun q hq => Nat.lt_of_lt_of_le (hs152 q hq) (Below.size b407)
  replace o329 := ownL.keep o329 (fun q hq => Below.block b407 q (hs157 q hq))
  replace hs157 := fun q hq => Nat.lt_of_lt_of_le (hs157 q hq) (Below.size b407)
  replace bx_aS := Box.below bx_aS b407
  replace bx83 := Box.below bx83 b407
  replace bx120 := Box.below bx120 b407
  replace bx181 := Box.below bx181 b407
  have z422 := Below.size b407
  replace zb0 : W1.heap.size ≤ w406.heap.size := by omega
  replace za0 : w52.heap.size ≤ w406.heap.size := by omega
  obtain ⟨a423, m424, c425, rfl⟩ := ownL_shape o410
  have hs412 := fun q hq => (r411 q hq).2
  obtain ⟨a426, m427, c428, rfl⟩ := ownL_shape o415
  have hs417 := fun q hq => (r416 q hq).2
  have k429 : w406.cell? ⟨w.heap.size, 0, none⟩ = some ((Value.slice a_aS0 d_aS.heads_.length c_aS0)) := bx_aS.2 0 (by simp)
  have k430 : w406.cell? ⟨w.heap.size, 1, none⟩ = some ((Value.slice a_aS1 d_aS.descs_.length c_aS1)) := bx_aS.2 1 (by simp)
  have k431 : w406.cell? ⟨w52.heap.size, 0, none⟩ = some ((Value.slice a68 m69 c70)) := bx83.2 0 (by simp)
  have k432 : w406.cell? ⟨w52.heap.size, 1, none⟩ = some ((Value.slice a71 m72 c73)) := bx83.2 1 (by simp)
  have k433 : w406.cell? ⟨w88.heap.size, 0, none⟩ = some ((Value.slice a104 m105 c106)) := bx120.2 0 (by simp)
  have k434 : w406.cell? ⟨w88.heap.size, 1, none⟩ = some ((Value.slice a107 m108 c109)) := bx120.2 1 (by simp)
  have k435 : w406.cell? ⟨w146.heap.size, 0, none⟩ = some ((Value.slice a163 m164 c165)) := bx181.2 0 (by simp)
  have k436 : w406.cell? ⟨w146.heap.size, 1, none⟩ = some ((Value.slice a166 m167 c168)) := bx181.2 1 (by simp)
  obtain ⟨X437, hX438⟩ : ∃ X, w406.alloc (.cells #[(Value.slice a423 m424 c425), (Value.slice a426 m427 c428)] 32) = X := ⟨_, rfl⟩
  have bX439 : Below w406.heap.size w406 X437 := by rw [← hX438]; exact (Below.refl _ _).alloc (Nat.le_refl _) _
  have zX437 : X437.heap.size = w406.heap.size + 1 := by rw [← hX438]; simp
  have t440 := Below.trans t420 (Below.mono bX439 zb0)
  have s441 := Below.trans s421 (Below.mono bX439 za0)
  replace o284 := ownL.keep o284 (fun q hq => Below.block bX439 q (hs94 q hq))
  replace hs94 := fun q hq => Nat.lt_of_lt_of_le (hs94 q hq) (Below.size bX439)
  replace o285 := ownL.keep o285 (fun q hq => Below.block bX439 q (hs99 q hq))
  replace hs99 := fun q hq => Nat.lt_of_lt_of_le (hs99 q hq) (Below.size bX439)
  replace o300 := ownL.keep o300 (fun q hq => Below.block bX439 q (hs133 q hq))
  replace hs133 := fun q hq => Nat.lt_of_lt_of_le (hs133 q hq) (Below.size bX439)
  replace o328 := ownL.keep o328 (fun q hq => Below.block bX439 q (hs152 q hq))
  replace hs152 := fun q hq => Nat.lt_of_lt_of_le (hs152 q hq) (Below.size bX439)
  replace o329 := ownL.keep o329 (fun q hq => Below.block bX439 q (hs157 q hq))
  replace hs157 := fun q hq => Nat.lt_of_lt_of_le (hs157 q hq) (Below.size bX439)
  replace o410 := ownL.keep o410 (fun q hq => Below.block bX439 q (hs412 q hq))
  replace hs412 := fun q hq => Nat.lt_of_lt_of_le (hs412 q hq) (Below.size bX439)
  replace o415 := ownL.keep o415 (fun q hq => Below.block bX439 q (hs417 q hq))
  replace hs417 := fun q hq => Nat.lt_of_lt_of_le (hs417 q hq) (Below.size bX439)
  replace bx_aS := Box.below bx_aS bX439
  replace bx83 := Box.below bx83 bX439
  replace bx120 := Box.below bx120 bX439
  replace bx181 := Box.below bx181 bX439
  have z442 := Below.size bX439
  replace zb0 : W1.heap.size ≤ X437.heap.size := by omega
  replace za0 : w52.heap.size ≤ X437.heap.size := by omega
  have bx443 : Box X437 (w406.heap.size) [(Value.slice a423 m424 c425), (Value.slice a426 m427 c428)] := by rw [← hX438]; exact Box.alloc _ _ _
  have k444 : X437.cell? ⟨w.heap.size, 0, none⟩ = some ((Value.slice a_aS0 d_aS.heads_.length c_aS0)) := bx_aS.2 0 (by simp)
  have k445 : X437.cell? ⟨w.heap.size, 1, none⟩ = some ((Value.slice a_aS1 d_aS.descs_.length c_aS1)) := bx_aS.2 1 (by simp)
  have k446 : X437.cell? ⟨w52.heap.size, 0, none⟩ = some ((Value.slice a68 m69 c70)) := bx83.2 0 (by simp)
  have k447 : X437.cell? ⟨w52.heap.size, 1, none⟩ = some ((Value.slice a71 m72 c73)) := bx83.2 1 (by simp)
  have k448 : X437.cell? ⟨w88.heap.size, 0, none⟩ = some ((Value.slice a104 m105 c106)) := bx120.2 0 (by simp)
  have k449 : X437.cell? ⟨w88.heap.size, 1, none⟩ = some ((Value.slice a107 m108 c109)) := bx120.2 1 (by simp)
  have k450 : X437.cell? ⟨w146.heap.size, 0, none⟩ = some ((Value.slice a163 m164 c165)) := bx181.2 0 (by simp)
  have k451 : X437.cell? ⟨w146.heap.size, 1, none⟩ = some ((Value.slice a166 m167 c168)) := bx181.2 1 (by simp)
  have k452 : X437.cell? ⟨w406.heap.size, 0, none⟩ = some ((Value.slice a423 m424 c425)) := bx443.2 0 (by simp)
  have k453 : X437.cell? ⟨w406.heap.size, 1, none⟩ = some ((Value.slice a426 m427 c428)) := bx443.2 1 (by simp)
  go_wp2_with fail
  clear k429 k430 k431 k432 k433 k434 k435 k436 k444 k445 k446 k447 k448 k449 k450 k451 k452 k453 hX438
  refine (eqStore_o _ _ _ _ _ _ (ownL.rds o410) (ownL.rds o415) (rdsL.below o56 s441) (rdsL.below o61 s441)).mono ?_
  rintro e w454 ⟨rfl, b455⟩
  have t456 := Below.trans t440 (Below.mono b455 zb0)
  have s457 := Below.trans s441 (Below.mono b455 za0)
  replace o284 := ownL.keep o284 (fun q hq => Below.block b455 q (hs94 q hq))
  replace hs94 := fun q hq => Nat.lt_of_lt_of_le (hs94 q hq) (Below.size b455)
  replace o285 := ownL.keep o285 (fun q hq => Below.block b455 q (hs99 q hq))
  replace hs99 := fun q hq => Nat.lt_of_lt_of_le (hs99 q hq) (Below.size b455)
  replace o300 := ownL.keep o300 (fun q hq => Below.block b455 q (hs133 q hq))
  replace hs133 := fun q hq => Nat.lt_of_lt_of_le (hs133 q hq) (Below.size b455)
  replace o328 := ownL.keep o328 (fun q hq => Below.block b455 q (hs152 q hq))
  replace hs152 := fun q hq => Nat.lt_of_lt_of_le (hs152 q hq) (Below.size b455)
  replace o329 := ownL.keep o329 (fun q hq => Below.block b455 q (hs157 q hq))
  replace hs157 := fun q hq => Nat.lt_of_lt_of_le (hs157 q hq) (Below.size b455)
  replace o410 := ownL.keep o410 (fun q hq => Below.block b455 q (hs412 q hq))
  replace hs412 := fun q hq => Nat.lt_of_lt_of_le (hs412 q hq) (Below.size b455)
  replace o415 := ownL.keep o415 (fun q hq => Below.block b455 q (hs417 q hq))
  replace hs417 := fun q hq => Nat.lt_of_lt_of_le (hs417 q hq) (Below.size b455)
  replace bx_aS := Box.below bx_aS b455
  replace bx83 := Box.below bx83 b455
  replace bx120 := Box.below bx120 b455
  replace bx181 := Box.below bx181 b455
  replace bx443 := Box.below bx443 b455
  have z458 := Below.size b455
  replace zb0 : W1.heap.size ≤ w454.heap.size := by omega
  replace za0 : w52.heap.size ≤ w454.heap.size := by omega
  have k459 : w454.cell? ⟨w.heap.size, 0, none⟩ = some ((Value.slice a_aS0 d_aS.heads_.length c_aS0)) := bx_aS.2 0 (by simp)
  have k460 : w454.cell? ⟨w.heap.size, 1, none⟩ = some ((Value.slice a_aS1 d_aS.descs_.length c_aS1)) := bx_aS.2 1 (by simp)
  have k461 : w454.cell? ⟨w52.heap.size, 0, none⟩ = some ((Value.slice a68 m69 c70)) := bx83.2 0 (by simp)
  have k462 : w454.cell? ⟨w52.heap.size, 1, none⟩ = some ((Value.slice a71 m72 c73)) := bx83.2 1 (by simp)
  have k463 : w454.cell? ⟨w88.heap.size, 0, none⟩ = some ((Value.slice a104 m105 c106)) := bx120.2 0 (by simp)
  have k464 : w454.cell? ⟨w88.heap.size, 1, none⟩ = some ((Value.slice a107 m108 c109)) := bx120.2 1 (by simp)
  have k465 : w454.cell? ⟨w146.heap.size, 0, none⟩ = some ((Value.slice a163 m164 c165)) := bx181.2 0 (by simp)
  have k466 : w454.cell? ⟨w146.heap.size, 1, none⟩ = some ((Value.slice a166 m167 c168)) := bx181.2 1 (by simp)
  have k467 : w454.cell? ⟨w406.heap.size, 0, none⟩ = some ((Value.slice a423 m424 c425)) := bx443.2 0 (by simp)
  have k468 : w454.cell? ⟨w406.heap.size, 1, none⟩ = some ((Value.slice a426 m427 c428)) := bx443.2 1 (by simp)
  go_wp2_with fail
  clear k459 k460 k461 k462 k463 k464 k465 k466 k467 k468
  refine (heldStore_o _ _ _ _ _ hb158 (by omega) (by omega) (ownL.rds o328) (ownL.rds o329)).mono ?_
  rintro e w469 ⟨rfl, b470⟩
  have t471 := Below.trans t456 (Below.mono b470 zb0)
  have s472 := Below.trans s457 (Below.mono b470 za0)
  replace o284 := ownL.keep o284 (fun q hq => Below.block b470 q (hs94 q hq))
  replace hs94 := fun q hq => Nat.lt_of_lt_of_le (hs94 q hq) (Below.size b470)
  replace o285 := ownL.keep o285 (fun q hq => Below.block b470 q (hs99 q hq))
  replace hs99 := fun q hq => Nat.lt_of_lt_of_le (hs99 q hq) (Below.size b470)
  replace o300 := ownL.keep o300 (fun q hq => Below.block b470 q (hs133 q hq))
  replace hs133 := fun q hq => Nat.lt_of_lt_of_le (hs133 q hq) (Below.size b470)
  replace o328 := ownL.keep o328 (fun q hq => Below.block b470 q (hs152 q hq))
  replace hs152 := fun q hq => Nat.lt_of_lt_of_le (hs152 q hq) (Below.size b470)
  replace o329 := ownL.keep o329 (fun q hq => Below.block b470 q (hs157 q hq))
  replace hs157 := fun q hq => Nat.lt_of_lt_of_le (hs157 q hq) (Below.size b470)
  replace o410 := ownL.keep o410 (fun q hq => Below.block b470 q (hs412 q hq))
  replace hs412 := fun q hq => Nat.lt_of_lt_of_le (hs412 q hq) (Below.size b470)
  replace o415 := ownL.keep o415 (fun q hq => Below.block b470 q (hs417 q hq))
  replace hs417 := fun q hq => Nat.lt_of_lt_of_le (hs417 q hq) (Below.size b470)
  replace bx_aS := Box.below bx_aS b470
  replace bx83 := Box.below bx83 b470
  replace bx120 := Box.below bx120 b470
  replace bx181 := Box.below bx181 b470
  replace bx443 := Box.below bx443 b470
  have z473 := Below.size b470
  replace zb0 : W1.heap.size ≤ w469.heap.size := by omega
  replace za0 : w52.heap.size ≤ w469.heap.size := by omega
  have k474 : w469.cell? ⟨w.heap.size, 0, none⟩ = some ((Value.slice a_aS0 d_aS.heads_.length c_aS0)) := bx_aS.2 0 (by simp)
  have k475 : w469.cell? ⟨w.heap.size, 1, none⟩ = some ((Value.slice a_aS1 d_aS.descs_.length c_aS1)) := bx_aS.2 1 (by simp)
  have k476 : w469.cell? ⟨w52.heap.size, 0, none⟩ = some ((Value.slice a68 m69 c70)) := bx83.2 0 (by simp)
  have k477 : w469.cell? ⟨w52.heap.size, 1, none⟩ = some ((Value.slice a71 m72 c73)) := bx83.2 1 (by simp)
  have k478 : w469.cell? ⟨w88.heap.size, 0, none⟩ = some ((Value.slice a104 m105 c106)) := bx120.2 0 (by simp)
  have k479 : w469.cell? ⟨w88.heap.size, 1, none⟩ = some ((Value.slice a107 m108 c109)) := bx120.2 1 (by simp)
  have k480 : w469.cell? ⟨w146.heap.size, 0, none⟩ = some ((Value.slice a163 m164 c165)) := bx181.2 0 (by simp)
  have k481 : w469.cell? ⟨w146.heap.size, 1, none⟩ = some ((Value.slice a166 m167 c168)) := bx181.2 1 (by simp)
  have k482 : w469.cell? ⟨w406.heap.size, 0, none⟩ = some ((Value.slice a423 m424 c425)) := bx443.2 0 (by simp)
  have k483 : w469.cell? ⟨w406.heap.size, 1, none⟩ = some ((Value.slice a426 m427 c428)) := bx443.2 1 (by simp)
  go_wp2_with fail
  clear k474 k475 k476 k477 k478 k479 k480 k481 k482 k483
  try go_wp2
  go_ret
  exact ⟨rfl, hB0.trans (Below.mono t471 hB0.size)⟩

end Go.Proofs.Ytambpjjfndnadaa
