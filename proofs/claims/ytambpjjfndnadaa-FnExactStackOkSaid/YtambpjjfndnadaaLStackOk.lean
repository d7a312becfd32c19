/- FnExactStackOk, walked. -/
import Derived.Test.YtambpjjfndnadaaW8
import Derived.Test.YtambpjjfndnadaaBx
import Derived.Test.YtambpjjfndnadaaEnc4
import Derived.Test.YtambpjjfndnadaaHop
import Derived.Test.YtambpjjfndnadaaWr3
import Derived.Test.YtambpjjfndnadaaKeep
import Derived.Deep.RegionHeld3
import Derived.Deep.Cut
import Derived.StillTailTactics
namespace Go.Proofs.Ytambpjjfndnadaa
set_option maxRecDepth 100000
open Go.RowKit Go.Proofs Go.Own
set_option linter.unusedVariables false

set_option maxRecDepth 100000 in
set_option maxHeartbeats 8000000 in
theorem law_StackOk (d_aS : StoreD) (v_aS0 v_aS1 : Value) (d_aStack : List Frame) (v_aStack0 : Value) (w : World) (h_aS0 : rdsL w v_aS0 d_aS.heads_) (h_aS1 : rdsL w v_aS1 d_aS.descs_) (h_aStack0 : rdsL w v_aStack0 d_aStack) :
    Calls Try.prog 4 #[(.agg #[v_aS0, v_aS1]), v_aStack0] w fun e w' => e = .returned (.bool true) ∧ Below w.heap.size w w' := by
  obtain ⟨a_aS0, c_aS0, rfl, -, -, -⟩ := rdsL_open h_aS0
  obtain ⟨a_aS1, c_aS1, rfl, -, -, -⟩ := rdsL_open h_aS1
  obtain ⟨a_aStack0, c_aStack0, rfl, -, -, -⟩ := rdsL_open h_aStack0
  obtain ⟨W1, hW1⟩ : ∃ X, w.alloc (.cells #[(Value.slice a_aS0 d_aS.heads_.length c_aS0), (Value.slice a_aS1 d_aS.descs_.length c_aS1)] 25) = X := ⟨_, rfl⟩
  have hbx1 : Below w.heap.size w W1 := by rw [← hW1]; exact (Below.refl _ _).alloc (Nat.le_refl _) _
  have zw1 : W1.heap.size = w.heap.size + 1 := by rw [← hW1]; simp
  have bx_aS : Box W1 (w.heap.size) [(Value.slice a_aS0 d_aS.heads_.length c_aS0), (Value.slice a_aS1 d_aS.descs_.length c_aS1)] := by rw [← hW1]; exact Box.alloc _ _ _
  have hB0 : Below w.heap.size w W1 := hbx1
  replace h_aS0 := rdsL.below h_aS0 hB0
  replace h_aS1 := rdsL.below h_aS1 hB0
  replace h_aStack0 := rdsL.below h_aStack0 hB0
  have tt0 : Below W1.heap.size W1 W1 := Below.refl _ _
  have zb0 : W1.heap.size ≤ W1.heap.size := Nat.le_refl _
  go_enter Try.func4, Try.ntmps4
  have k1 : W1.cell? ⟨w.heap.size, 0, none⟩ = some ((Value.slice a_aS0 d_aS.heads_.length c_aS0)) := bx_aS.2 0 (by simp)
  have k2 : W1.cell? ⟨w.heap.size, 1, none⟩ = some ((Value.slice a_aS1 d_aS.descs_.length c_aS1)) := bx_aS.2 1 (by simp)
  go_wp2_with fail
  clear k1 k2 hW1
  have hl0_aS : 0 ≤ (1048576 : Int) := by omega
  refine (szStore_o d_aS (Value.slice a_aS0 d_aS.heads_.length c_aS0) (Value.slice a_aS1 d_aS.descs_.length c_aS1) _ _ (by omega) (by omega) (rdsL.below h_aS0 tt0) (rdsL.below h_aS1 tt0)).mono ?_
  rintro e w3 ⟨rfl, b4⟩
  have t5 := Below.trans tt0 (Below.mono b4 zb0)
  replace bx_aS := Box.below bx_aS b4
  have z6 := Below.size b4
  replace zb0 : W1.heap.size ≤ w3.heap.size := by omega
  by_cases big_aS : (1048576 : Int) < (szStoreD d_aS : Int)
  · rw [szR_of, if_pos big_aS]
    go_wp2
    go_ret
    exact ⟨rfl, hB0.trans (Below.mono t5 hB0.size)⟩
  rw [szR_of, if_neg big_aS]
  have k7 : w3.cell? ⟨w.heap.size, 0, none⟩ = some ((Value.slice a_aS0 d_aS.heads_.length c_aS0)) := bx_aS.2 0 (by simp)
  have k8 : w3.cell? ⟨w.heap.size, 1, none⟩ = some ((Value.slice a_aS1 d_aS.descs_.length c_aS1)) := bx_aS.2 1 (by simp)
  go_wp2_with fail
  clear k7 k8
  have hl0_aStack : 0 ≤ (1048576 : Int) - (szStoreD d_aS : Int) := by omega
  refine (szFrameS_o d_aStack (Value.slice a_aStack0 d_aStack.length c_aStack0) _ _ (by omega) (by omega) (rdsL.below h_aStack0 t5)).mono ?_
  rintro e w9 ⟨rfl, b10⟩
  have t11 := Below.trans t5 (Below.mono b10 zb0)
  replace bx_aS := Box.below bx_aS b10
  have z12 := Below.size b10
  replace zb0 : W1.heap.size ≤ w9.heap.size := by omega
  by_cases big_aStack : (1048576 : Int) - (szStoreD d_aS : Int) < (szFrameSD d_aStack : Int)
  · rw [szR_of, if_pos big_aStack]
    go_wp2
    go_ret
    exact ⟨rfl, hB0.trans (Below.mono t11 hB0.size)⟩
  rw [szR_of, if_neg big_aStack]
  have k13 : w9.cell? ⟨w.heap.size, 0, none⟩ = some ((Value.slice a_aS0 d_aS.heads_.length c_aS0)) := bx_aS.2 0 (by simp)
  have k14 : w9.cell? ⟨w.heap.size, 1, none⟩ = some ((Value.slice a_aS1 d_aS.descs_.length c_aS1)) := bx_aS.2 1 (by simp)
  go_wp2_with fail
  clear k13 k14
  have hb_aS : StoreB d_aS := by show _ ≤ 1048576; have := big_aS; unfold szStoreD at *; omega
  have hb_aStack : FrameSB d_aStack := by show _ ≤ 1048576; have := big_aStack; unfold szFrameSD at *; omega
  refine (toStore_o d_aS (Value.slice a_aS0 d_aS.heads_.length c_aS0) (Value.slice a_aS1 d_aS.descs_.length c_aS1) _ (rdsL.below h_aS0 t11) (rdsL.below h_aS1 t11) hb_aS).mono ?_
  rintro e w15 ⟨u17, u22, S18, S23, rfl, o19, o24, r20, r25, dj27, b16⟩
  have t28 := Below.trans t11 (Below.mono b16 zb0)
  replace bx_aS := Box.below bx_aS b16
  have z29 := Below.size b16
  replace zb0 : W1.heap.size ≤ w15.heap.size := by omega
  obtain ⟨a30, m31, c32, rfl⟩ := ownL_shape o19
  have hs21 := fun q hq => (r20 q hq).2
  obtain ⟨a33, m34, c35, rfl⟩ := ownL_shape o24
  have hs26 := fun q hq => (r25 q hq).2
  have k36 : w15.cell? ⟨w.heap.size, 0, none⟩ = some ((Value.slice a_aS0 d_aS.heads_.length c_aS0)) := bx_aS.2 0 (by simp)
  have k37 : w15.cell? ⟨w.heap.size, 1, none⟩ = some ((Value.slice a_aS1 d_aS.descs_.length c_aS1)) := bx_aS.2 1 (by simp)
  go_wp2_with fail
  clear k36 k37
  refine (toFrameS_o d_aStack (Value.slice a_aStack0 d_aStack.length c_aStack0) _ (rdsL.below h_aStack0 t28) hb_aStack).mono ?_
  rintro e w38 ⟨u40, S41, rfl, o42, r43, b39⟩
  have t45 := Below.trans t28 (Below.mono b39 zb0)
  replace o19 := ownL.keep o19 (fun q hq => Below.block b39 q (hs21 q hq))
  replace hs21 := fun q hq => Nat.lt_of_lt_of_le (hs21 q hq) (Below.size b39)
  replace o24 := ownL.keep o24 (fun q hq => Below.block b39 q (hs26 q hq))
  replace hs26 := fun q hq => Nat.lt_of_lt_of_le (hs26 q hq) (Below.size b39)
  replace bx_aS := Box.below bx_aS b39
  have z46 := Below.size b39
  replace zb0 : W1.heap.size ≤ w38.heap.size := by omega
  obtain ⟨a47, m48, c49, rfl⟩ := ownL_shape o42
  have hs44 := fun q hq => (r43 q hq).2
  have k50 : w38.cell? ⟨w.heap.size, 0, none⟩ = some ((Value.slice a_aS0 d_aS.heads_.length c_aS0)) := bx_aS.2 0 (by simp)
  have k51 : w38.cell? ⟨w.heap.size, 1, none⟩ = some ((Value.slice a_aS1 d_aS.descs_.length c_aS1)) := bx_aS.2 1 (by simp)
  go_wp2_with fail
  clear k50 k51
  refine (spec_StackOkW d_aS (Value.slice a30 m31 c32) (Value.slice a33 m34 c35) d_aStack (Value.slice a47 m48 c49) _ (ownL.rds o19) (ownL.rds o24) hb_aS (ownL.rds o42) hb_aStack).mono ?_
  rintro e w52 ⟨rfl, b53⟩
  have t54 := Below.trans t45 (Below.mono b53 zb0)
  replace bx_aS := Box.below bx_aS b53
  have z55 := Below.size b53
  replace zb0 : W1.heap.size ≤ w52.heap.size := by omega
  have s56 : Below w52.heap.size w52 w52 := Below.refl _ _
  have za0 : w52.heap.size ≤ w52.heap.size := Nat.le_refl _
  have k57 : w52.cell? ⟨w.heap.size, 0, none⟩ = some ((Value.slice a_aS0 d_aS.heads_.length c_aS0)) := bx_aS.2 0 (by simp)
  have k58 : w52.cell? ⟨w.heap.size, 1, none⟩ = some ((Value.slice a_aS1 d_aS.descs_.length c_aS1)) := bx_aS.2 1 (by simp)
  go_wp2_with fail
  clear k57 k58
  refine (toStore_o d_aS (Value.slice a_aS0 d_aS.heads_.length c_aS0) (Value.slice a_aS1 d_aS.descs_.length c_aS1) _ (rdsL.below h_aS0 t54) (rdsL.below h_aS1 t54) hb_aS).mono ?_
  rintro e w59 ⟨u61, u66, S62, S67, rfl, o63, o68, r64, r69, dj71, b60⟩
  have t72 := Below.trans t54 (Below.mono b60 zb0)
  have s73 := Below.trans s56 (Below.mono b60 za0)
  replace bx_aS := Box.below bx_aS b60
  have z74 := Below.size b60
  replace zb0 : W1.heap.size ≤ w59.heap.size := by omega
  replace za0 : w52.heap.size ≤ w59.heap.size := by omega
  obtain ⟨a75, m76, c77, rfl⟩ := ownL_shape o63
  have hs65 := fun q hq => (r64 q hq).2
  obtain ⟨a78, m79, c80, rfl⟩ := ownL_shape o68
  have hs70 := fun q hq => (r69 q hq).2
  have k81 : w59.cell? ⟨w.heap.size, 0, none⟩ = some ((Value.slice a_aS0 d_aS.heads_.length c_aS0)) := bx_aS.2 0 (by simp)
  have k82 : w59.cell? ⟨w.heap.size, 1, none⟩ = some ((Value.slice a_aS1 d_aS.descs_.length c_aS1)) := bx_aS.2 1 (by simp)
  obtain ⟨X83, hX84⟩ : ∃ X, w59.alloc (.cells #[(Value.slice a75 m76 c77), (Value.slice a78 m79 c80)] 32) = X := ⟨_, rfl⟩
  have bX85 : Below w59.heap.size w59 X83 := by rw [← hX84]; exact (Below.refl _ _).alloc (Nat.le_refl _) _
  have zX83 : X83.heap.size = w59.heap.size + 1 := by rw [← hX84]; simp
  have t86 := Below.trans t72 (Below.mono bX85 zb0)
  have s87 := Below.trans s73 (Below.mono bX85 za0)
  replace o63 := ownL.keep o63 (fun q hq => Below.block bX85 q (hs65 q hq))
  replace hs65 := fun q hq => Nat.lt_of_lt_of_le (hs65 q hq) (Below.size bX85)
  replace o68 := ownL.keep o68 (fun q hq => Below.block bX85 q (hs70 q hq))
  replace hs70 := fun q hq => Nat.lt_of_lt_of_le (hs70 q hq) (Below.size bX85)
  replace bx_aS := Box.below bx_aS bX85
  have z88 := Below.size bX85
  replace zb0 : W1.heap.size ≤ X83.heap.size := by omega
  replace za0 : w52.heap.size ≤ X83.heap.size := by omega
  have bx89 : Box X83 (w59.heap.size) [(Value.slice a75 m76 c77), (Value.slice a78 m79 c80)] := by rw [← hX84]; exact Box.alloc _ _ _
  have k90 : X83.cell? ⟨w.heap.size, 0, none⟩ = some ((Value.slice a_aS0 d_aS.heads_.length c_aS0)) := bx_aS.2 0 (by simp)
  have k91 : X83.cell? ⟨w.heap.size, 1, none⟩ = some ((Value.slice a_aS1 d_aS.descs_.length c_aS1)) := bx_aS.2 1 (by simp)
  have k92 : X83.cell? ⟨w59.heap.size, 0, none⟩ = some ((Value.slice a75 m76 c77)) := bx89.2 0 (by simp)
  have k93 : X83.cell? ⟨w59.heap.size, 1, none⟩ = some ((Value.slice a78 m79 c80)) := bx89.2 1 (by simp)
  go_wp2_with fail
  clear k81 k82 k90 k91 k92 k93 hX84
  refine (toFrameS_o d_aStack (Value.slice a_aStack0 d_aStack.length c_aStack0) _ (rdsL.below h_aStack0 t86) hb_aStack).mono ?_
  rintro e w94 ⟨u96, S97, rfl, o98, r99, b95⟩
  have t101 := Below.trans t86 (Below.mono b95 zb0)
  have s102 := Below.trans s87 (Below.mono b95 za0)
  replace o63 := ownL.keep o63 (fun q hq => Below.block b95 q (hs65 q hq))
  replace hs65 := fun q hq => Nat.lt_of_lt_of_le (hs65 q hq) (Below.size b95)
  replace o68 := ownL.keep o68 (fun q hq => Below.block b95 q (hs70 q hq))
  replace hs70 := fun q hq => Nat.lt_of_lt_of_le (hs70 q hq) (Below.size b95)
  replace bx_aS := Box.below bx_aS b95
  replace bx89 := Box.below bx89 b95
  have z103 := Below.size b95
  replace zb0 : W1.heap.size ≤ w94.heap.size := by omega
  replace za0 : w52.heap.size ≤ w94.heap.size := by omega
  obtain ⟨a104, m105, c106, rfl⟩ := ownL_shape o98
  have hs100 := fun q hq => (r99 q hq).2
  have k107 : w94.cell? ⟨w.heap.size, 0, none⟩ = some ((Value.slice a_aS0 d_aS.heads_.length c_aS0)) := bx_aS.2 0 (by simp)
  have k108 : w94.cell? ⟨w.heap.size, 1, none⟩ = some ((Value.slice a_aS1 d_aS.descs_.length c_aS1)) := bx_aS.2 1 (by simp)
  have k109 : w94.cell? ⟨w59.heap.size, 0, none⟩ = some ((Value.slice a75 m76 c77)) := bx89.2 0 (by simp)
  have k110 : w94.cell? ⟨w59.heap.size, 1, none⟩ = some ((Value.slice a78 m79 c80)) := bx89.2 1 (by simp)
  go_wp2_with fail
  clear k107 k108 k109 k110
  refine (impl_StackOkW d_aS (Value.slice a75 m76 c77) (Value.slice a78 m79 c80) d_aStack (Value.slice a104 m105 c106) _ (ownL.rds o63) (ownL.rds o68) hb_aS (ownL.rds o98) hb_aStack).mono ?_
  rintro e w111 ⟨rfl, b112⟩
  have t113 := Below.trans t101 (Below.mono b112 zb0)
  have s114 := Below.trans s102 (Below.mono b112 za0)
  replace o63 := ownL.keep o63 (fun q hq => Below.block b112 q (hs65 q hq))
  replace hs65 := fun q hq => Nat.lt_of_lt_of_le (hs65 q hq) (Below.size b112)
  replace o68 := ownL.keep o68 (fun q hq => Below.block b112 q (hs70 q hq))
  replace hs70 := fun q hq => Nat.lt_of_lt_of_le (hs70 q hq) (Below.size b112)
  replace o98 := ownL.keep o98 (fun q hq => Below.block b112 q (hs100 q hq))
  replace hs100 := fun q hq => Nat.lt_of_lt_of_le (hs100 q hq) (Below.size b112)
  replace bx_aS := Box.below bx_aS b112
  replace bx89 := Box.below bx89 b112
  have z115 := Below.size b112
  replace zb0 : W1.heap.size ≤ w111.heap.size := by omega
  replace za0 : w52.heap.size ≤ w111.heap.size := by omega
  have k116 : w111.cell? ⟨w.heap.size, 0, none⟩ = some ((Value.slice a_aS0 d_aS.heads_.length c_aS0)) := bx_aS.2 0 (by simp)
  have k117 : w111.cell? ⟨w.heap.size, 1, none⟩ = some ((Value.slice a_aS1 d_aS.descs_.length c_aS1)) := bx_aS.2 1 (by simp)
  have k118 : w111.cell? ⟨w59.heap.size, 0, none⟩ = some ((Value.slice a75 m76 c77)) := bx89.2 0 (by simp)
  have k119 : w111.cell? ⟨w59.heap.size, 1, none⟩ = some ((Value.slice a78 m79 c80)) := bx89.2 1 (by simp)
  go_wp2_with fail
  clear k116 k117 k118 k119
  have lt135 := (bx_aS).1
  have lt136 := (bx89).1
  have k137 : w111.cell? ⟨w.heap.size, 0, none⟩ = some ((Value.slice a_aS0 d_aS.heads_.length c_aS0)) := bx_aS.2 0 (by simp)
  have k138 : w111.cell? ⟨w.heap.size, 1, none⟩ = some ((Value.slice a_aS1 d_aS.descs_.length c_aS1)) := bx_aS.2 1 (by simp)
  have k139 : w111.cell? ⟨w59.heap.size, 0, none⟩ = some ((Value.slice a75 m76 c77)) := bx89.2 0 (by simp)
  have k140 : w111.cell? ⟨w59.heap.size, 1, none⟩ = some ((Value.slice a78 m79 c80)) := bx89.2 1 (by simp)
  go_region_held3 (fun w' => Below w111.heap.size w111 w' ∧ w111.heap.size ≤ w'.heap.size ∧ w'.cell? ⟨w.heap.size, 0, none⟩ = some ((Value.slice a_aS0 d_aS.heads_.length c_aS0)) ∧ w'.cell? ⟨w.heap.size, 1, none⟩ = some ((Value.slice a_aS1 d_aS.descs_.length c_aS1)) ∧ w'.cell? ⟨w59.heap.size, 0, none⟩ = some ((Value.slice a75 m76 c77)) ∧ w'.cell? ⟨w59.heap.size, 1, none⟩ = some ((Value.slice a78 m79 c80)))
    (first | exact ⟨(Below.refl _ _).drew, Nat.le_refl _, k137, k138, k139, k140⟩ | exact keepBox4 (by omega) ‹_› ‹_›)
    (first
    | (go_at_call 12; refine (toStore_o d_aS (Value.slice a_aS0 d_aS.heads_.length c_aS0) (Value.slice a_aS1 d_aS.descs_.length c_aS1) _ (rdsL.below (rdsL.below h_aS0 t113) ((Below.refl _ _).drew : Below w111.heap.size w111 w111.drew)) (rdsL.below (rdsL.below h_aS1 t113) ((Below.refl _ _).drew : Below w111.heap.size w111 w111.drew)) hb_aS).mono ?_; rintro e w120 ⟨u122, u127, S123, S128, rfl, o124, o129, r125, r130, dj132, b121⟩; have hq_w120 : Below w111.heap.size w111 w120 := Below.trans ((Below.refl _ _).drew : Below w111.heap.size w111 w111.drew) (Below.mono b121 (Below.size ((Below.refl _ _).drew : Below w111.heap.size w111 w111.drew))))
    | (go_at_call 15; refine (eqStore_o _ _ _ _ _ _ (rdsL.below (rdsL.below (ownL.rds o63) ((Below.refl _ _).drew : Below w111.heap.size w111 w111.drew)) b121) (rdsL.below (rdsL.below (ownL.rds o68) ((Below.refl _ _).drew : Below w111.heap.size w111 w111.drew)) b121) (ownL.rds o124) (ownL.rds o129)).mono ?_; rintro e w133 ⟨rfl, b134⟩))
  clear k137 k138 k139 k140
  have d141 : Below w111.heap.size w111 w111.drew := (Below.refl _ _).drew
  have t142 := Below.trans t113 (Below.mono d141 zb0)
  have s143 := Below.trans s114 (Below.mono d141 za0)
  replace o63 := ownL.keep o63 (fun q hq => Below.block d141 q (hs65 q hq))
  replace hs65 := fun q hq => Nat.lt_of_lt_of_le (hs65 q hq) (Below.size d141)
  replace o68 := ownL.keep o68 (fun q hq => Below.block d141 q (hs70 q hq))
  replace hs70 := fun q hq => Nat.lt_of_lt_of_le (hs70 q hq) (Below.size d141)
  replace o98 := ownL.keep o98 (fun q hq => Below.block d141 q (hs100 q hq))
  replace hs100 := fun q hq => Nat.lt_of_lt_of_le (hs100 q hq) (Below.size d141)
  replace bx_aS := Box.below bx_aS d141
  replace bx89 := Box.below bx89 d141
  have z144 := Below.size d141
  replace zb0 : W1.heap.size ≤ w111.drew.heap.size := by omega
  replace za0 : w52.heap.size ≤ w111.drew.heap.size := by omega
  have t145 := Below.trans t142 (Below.mono b121 zb0)
  have s146 := Below.trans s143 (Below.mono b121 za0)
  replace o63 := ownL.keep o63 (fun q hq => Below.block b121 q (hs65 q hq))
  replace hs65 := fun q hq => Nat.lt_of_lt_of_le (hs65 q hq) (Below.size b121)
  replace o68 := ownL.keep o68 (fun q hq => Below.block b121 q (hs70 q hq))
  replace hs70 := fun q hq => Nat.lt_of_lt_of_le (hs70 q hq) (Below.size b121)
  replace o98 := ownL.keep o98 (fun q hq => Below.block b121 q (hs100 q hq))
  replace hs100 := fun q hq => Nat.lt_of_lt_of_le (hs100 q hq) (Below.size b121)
  replace bx_aS := Box.below bx_aS b121
  replace bx89 := Box.below bx89 b121
  have z147 := Below.size b121
  replace zb0 : W1.heap.size ≤ w120.heap.size := by omega
  replace za0 : w52.heap.size ≤ w120.heap.size := by omega
  have t148 := Below.trans t145 (Below.mono b134 zb0)
  have s149 := Below.trans s146 (Below.mono b134 za0)
  replace o63 := ownL.keep o63 (fun q hq => Below.block b134 q (hs65 q hq))
  replace hs65 := fun q hq => Nat.lt_of_lt_of_le (hs65 q hq) (Below.size b134)
  replace o68 := ownL.keep o68 (fun q hq => Below.block b134 q (hs70 q hq))
  replace hs70 := fun q hq => Nat.lt_of_lt_of_le (hs70 q hq) (Below.size b134)
  replace o98 := ownL.keep o98 (fun q hq => Below.block b134 q (hs100 q hq))
  replace hs100 := fun q hq => Nat.lt_of_lt_of_le (hs100 q hq) (Below.size b134)
  replace bx_aS := Box.below bx_aS b134
  replace bx89 := Box.below bx89 b134
  have z150 := Below.size b134
  replace zb0 : W1.heap.size ≤ w133.heap.size := by omega
  replace za0 : w52.heap.size ≤ w133.heap.size := by omega
  have k151 : w133.cell? ⟨w.heap.size, 0, none⟩ = some ((Value.slice a_aS0 d_aS.heads_.length c_aS0)) := bx_aS.2 0 (by simp)
  have k152 : w133.cell? ⟨w.heap.size, 1, none⟩ = some ((Value.slice a_aS1 d_aS.descs_.length c_aS1)) := bx_aS.2 1 (by simp)
  have k153 : w133.cell? ⟨w59.heap.size, 0, none⟩ = some ((Value.slice a75 m76 c77)) := bx89.2 0 (by simp)
  have k154 : w133.cell? ⟨w59.heap.size, 1, none⟩ = some ((Value.slice a78 m79 c80)) := bx89.2 1 (by simp)
  go_wp2_with fail
  clear k151 k152 k153 k154
  refine (toFrameS_o d_aStack (Value.slice a_aStack0 d_aStack.length c_aStack0) _ (rdsL.below h_aStack0 t148) hb_aStack).mono ?_
  rintro e w155 ⟨u157, S158, rfl, o159, r160, b156⟩
  have t162 := Below.trans t148 (Below.mono b156 zb0)
  have s163 := Below.trans s149 (Below.mono b156 za0)
  replace o63 := ownL.keep o63 (fun q hq => Below.block b156 q (hs65 q hq))
  replace hs65 := fun q hq => Nat.lt_of_lt_of_le (hs65 q hq) (Below.size b156)
  replace o68 := ownL.keep o68 (fun q hq => Below.block b156 q (hs70 q hq))
  replace hs70 := fun q hq => Nat.lt_of_lt_of_le (hs70 q hq) (Below.size b156)
  replace o98 := ownL.keep o98 (fun q hq => Below.block b156 q (hs100 q hq))
  replace hs100 := fun q hq => Nat.lt_of_lt_of_le (hs100 q hq) (Below.size b156)
  replace bx_aS := Box.below bx_aS b156
  replace bx89 := Box.below bx89 b156
  have z164 := Below.size b156
  replace zb0 : W1.heap.size ≤ w155.heap.size := by omega
  replace za0 : w52.heap.size ≤ w155.heap.size := by omega
  obtain ⟨a165, m166, c167, rfl⟩ := ownL_shape o159
  have hs161 := fun q hq => (r160 q hq).2
  have k168 : w155.cell? ⟨w.heap.size, 0, none⟩ = some ((Value.slice a_aS0 d_aS.heads_.length c_aS0)) := bx_aS.2 0 (by simp)
  have k169 : w155.cell? ⟨w.heap.size, 1, none⟩ = some ((Value.slice a_aS1 d_aS.descs_.length c_aS1)) := bx_aS.2 1 (by simp)
  have k170 : w155.cell? ⟨w59.heap.size, 0, none⟩ = some ((Value.slice a75 m76 c77)) := bx89.2 0 (by simp)
  have k171 : w155.cell? ⟨w59.heap.size, 1, none⟩ = some ((Value.slice a78 m79 c80)) := bx89.2 1 (by simp)
  go_wp2_with fail
  clear k168 k169 k170 k171
  refine (eqFrameS_o _ _ _ _ (ownL.rds o98) (ownL.rds o159)).mono ?_
  rintro e w172 ⟨rfl, b173⟩
  have t174 := Below.trans t162 (Below.mono b173 zb0)
  have s175 := Below.trans s163 (Below.mono b173 za0)
  replace o63 := ownL.keep o63 (fun q hq => Below.block b173 q (hs65 q hq))
  replace hs65 := fun q hq => Nat.lt_of_lt_of_le (hs65 q hq) (Below.size b173)
  replace o68 := ownL.keep o68 (fun q hq => Below.block b173 q (hs70 q hq))
  replace hs70 := fun q hq => Nat.lt_of_lt_of_le (hs70 q hq) (Below.size b173)
  replace o98 := ownL.keep o98 (fun q hq => Below.block b173 q (hs100 q hq))
  replace hs100 := fun q hq => Nat.lt_of_lt_of_le (hs100 q hq) (Below.size b173)
  replace bx_aS := Box.below bx_aS b173
  replace bx89 := Box.below bx89 b173
  have z176 := Below.size b173
  replace zb0 : W1.heap.size ≤ w172.heap.size := by omega
  replace za0 : w52.heap.size ≤ w172.heap.size := by omega
  have k177 : w172.cell? ⟨w.heap.size, 0, none⟩ = some ((Value.slice a_aS0 d_aS.heads_.length c_aS0)) := bx_aS.2 0 (by simp)
  have k178 : w172.cell? ⟨w.heap.size, 1, none⟩ = some ((Value.slice a_aS1 d_aS.descs_.length c_aS1)) := bx_aS.2 1 (by simp)
  have k179 : w172.cell? ⟨w59.heap.size, 0, none⟩ = some ((Value.slice a75 m76 c77)) := bx89.2 0 (by simp)
  have k180 : w172.cell? ⟨w59.heap.size, 1, none⟩ = some ((Value.slice a78 m79 c80)) := bx89.2 1 (by simp)
  go_wp2_with fail
  clear k177 k178 k179 k180
  try go_wp2
  go_ret
  exact ⟨rfl, hB0.trans (Below.mono t174 hB0.size)⟩

end Go.Proofs.Ytambpjjfndnadaa
