/- FnExactDepth, walked. -/
import Derived.Test.YtambpjjfndnadaaW8d
import Derived.Test.YtambpjjfndnadaaBx
import Derived.Test.YtambpjjfndnadaaEnc4
import Derived.Test.YtambpjjfndnadaaHop
import Derived.Test.YtambpjjfndnadaaWr3
import Derived.Test.YtambpjjfndnadaaKeep
import Derived.Deep.RegionHeld3
import Derived.Deep.Cut
import Derived.StillTailTactics
namespace Go.Proofs.Ytambpjjfndnadaa
set_option maxRecDepth 100000
open Go.RowKit Go.Proofs Go.Own
set_option linter.unusedVariables false

set_option maxRecDepth 100000 in
set_option maxHeartbeats 8000000 in
theorem law_Depth (d_aS : StoreD) (v_aS0 v_aS1 : Value) (s_aFrom : Int) (w : World) (h_aS0 : rdsL w v_aS0 d_aS.heads_) (h_aS1 : rdsL w v_aS1 d_aS.descs_) (hi_aFrom : InI s_aFrom) :
    Calls Try.prog 9 #[(.agg #[v_aS0, v_aS1]), (.int .i64 s_aFrom)] w fun e w' => e = .returned (.bool true) ∧ Below w.heap.size w w' := by
  obtain ⟨a_aS0, c_aS0, rfl, -, -, -⟩ := rdsL_open h_aS0
  obtain ⟨a_aS1, c_aS1, rfl, -, -, -⟩ := rdsL_open h_aS1
  obtain ⟨W1, hW1⟩ : ∃ X, w.alloc (.cells #[(Value.slice a_aS0 d_aS.heads_.length c_aS0), (Value.slice a_aS1 d_aS.descs_.length c_aS1)] 25) = X := ⟨_, rfl⟩
  have hbx1 : Below w.heap.size w W1 := by rw [← hW1]; exact (Below.refl _ _).alloc (Nat.le_refl _) _
  have zw1 : W1.heap.size = w.heap.size + 1 := by rw [← hW1]; simp
  have bx_aS : Box W1 (w.heap.size) [(Value.slice a_aS0 d_aS.heads_.length c_aS0), (Value.slice a_aS1 d_aS.descs_.length c_aS1)] := by rw [← hW1]; exact Box.alloc _ _ _
  have hB0 : Below w.heap.size w W1 := hbx1
  replace h_aS0 := rdsL.below h_aS0 hB0
  replace h_aS1 := rdsL.below h_aS1 hB0
  have tt0 : Below W1.heap.size W1 W1 := Below.refl _ _
  have zb0 : W1.heap.size ≤ W1.heap.size := Nat.le_refl _
  go_enter Try.func9, Try.ntmps9
  have k1 : W1.cell? ⟨w.heap.size, 0, none⟩ = some ((Value.slice a_aS0 d_aS.heads_.length c_aS0)) := bx_aS.2 0 (by simp)
  have k2 : W1.cell? ⟨w.heap.size, 1, none⟩ = some ((Value.slice a_aS1 d_aS.descs_.length c_aS1)) := bx_aS.2 1 (by simp)
  go_wp2_with fail
  clear k1 k2 hW1
  have hl0_aS : 0 ≤ (1048576 : Int) := by omega
  refine (szStore_o d_aS (Value.slice a_aS0 d_aS.heads_.length c_aS0) (Value.slice a_aS1 d_aS.descs_.length c_aS1) _ _ (by omega) (by omega) (rdsL.below h_aS0 tt0) (rdsL.below h_aS1 tt0)).mono ?_
  rintro e w3 ⟨rfl, b4⟩
  have t5 := Below.trans tt0 (Below.mono b4 zb0)
  replace bx_aS := Box.below bx_aS b4
  have z6 := Below.size b4
  replace zb0 : W1.heap.size ≤ w3.heap.size := by omega
  by_cases big_aS : (1048576 : Int) < (szStoreD d_aS : Int)
  · rw [szR_of, if_pos big_aS]
    go_wp2
    go_ret
    exact ⟨rfl, hB0.trans (Below.mono t5 hB0.size)⟩
  rw [szR_of, if_neg big_aS]
  have k7 : w3.cell? ⟨w.heap.size, 0, none⟩ = some ((Value.slice a_aS0 d_aS.heads_.length c_aS0)) := bx_aS.2 0 (by simp)
  have k8 : w3.cell? ⟨w.heap.size, 1, none⟩ = some ((Value.slice a_aS1 d_aS.descs_.length c_aS1)) := bx_aS.2 1 (by simp)
  go_wp2_with fail
  clear k7 k8
  have hb_aS : StoreB d_aS := by show _ ≤ 1048576; have := big_aS; unfold szStoreD at *; omega
  refine (toStore_o d_aS (Value.slice a_aS0 d_aS.heads_.length c_aS0) (Value.slice a_aS1 d_aS.descs_.length c_aS1) _ (rdsL.below h_aS0 t5) (rdsL.below h_aS1 t5) hb_aS).mono ?_
  rintro e w9 ⟨u11, u16, S12, S17, rfl, o13, o18, r14, r19, dj21, b10⟩
  have t22 := Below.trans t5 (Below.mono b10 zb0)
  replace bx_aS := Box.below bx_aS b10
  have z23 := Below.size b10
  replace zb0 : W1.heap.size ≤ w9.heap.size := by omega
  obtain ⟨a24, m25, c26, rfl⟩ := ownL_shape o13
  have hs15 := fun q hq => (r14 q hq).2
  obtain ⟨a27, m28, c29, rfl⟩ := ownL_shape o18
  have hs20 := fun q hq => (r19 q hq).2
  have k30 : w9.cell? ⟨w.heap.size, 0, none⟩ = some ((Value.slice a_aS0 d_aS.heads_.length c_aS0)) := bx_aS.2 0 (by simp)
  have k31 : w9.cell? ⟨w.heap.size, 1, none⟩ = some ((Value.slice a_aS1 d_aS.descs_.length c_aS1)) := bx_aS.2 1 (by simp)
  go_wp2_with fail
  clear k30 k31
  refine (spec_DepthW d_aS (Value.slice a24 m25 c26) (Value.slice a27 m28 c29) s_aFrom _ (ownL.rds o13) (ownL.rds o18) hb_aS).mono ?_
  rintro e w32 ⟨rfl, b33⟩
  have t34 := Below.trans t22 (Below.mono b33 zb0)
  replace bx_aS := Box.below bx_aS b33
  have z35 := Below.size b33
  replace zb0 : W1.heap.size ≤ w32.heap.size := by omega
  have s36 : Below w32.heap.size w32 w32 := Below.refl _ _
  have za0 : w32.heap.size ≤ w32.heap.size := Nat.le_refl _
  have k37 : w32.cell? ⟨w.heap.size, 0, none⟩ = some ((Value.slice a_aS0 d_aS.heads_.length c_aS0)) := bx_aS.2 0 (by simp)
  have k38 : w32.cell? ⟨w.heap.size, 1, none⟩ = some ((Value.slice a_aS1 d_aS.descs_.length c_aS1)) := bx_aS.2 1 (by simp)
  go_wp2_with fail
  clear k37 k38
  refine (toStore_o d_aS (Value.slice a_aS0 d_aS.heads_.length c_aS0) (Value.slice a_aS1 d_aS.descs_.length c_aS1) _ (rdsL.below h_aS0 t34) (rdsL.below h_aS1 t34) hb_aS).mono ?_
  rintro e w39 ⟨u41, u46, S42, S47, rfl, o43, o48, r44, r49, dj51, b40⟩
  have t52 := Below.trans t34 (Below.mono b40 zb0)
  have s53 := Below.trans s36 (Below.mono b40 za0)
  replace bx_aS := Box.below bx_aS b40
  have z54 := Below.size b40
  replace zb0 : W1.heap.size ≤ w39.heap.size := by omega
  replace za0 : w32.heap.size ≤ w39.heap.size := by omega
  obtain ⟨a55, m56, c57, rfl⟩ := ownL_shape o43
  have hs45 := fun q hq => (r44 q hq).2
  obtain ⟨a58, m59, c60, rfl⟩ := ownL_shape o48
  have hs50 := fun q hq => (r49 q hq).2
  have k61 : w39.cell? ⟨w.heap.size, 0, none⟩ = some ((Value.slice a_aS0 d_aS.heads_.length c_aS0)) := bx_aS.2 0 (by simp)
  have k62 : w39.cell? ⟨w.heap.size, 1, none⟩ = some ((Value.slice a_aS1 d_aS.descs_.length c_aS1)) := bx_aS.2 1 (by simp)
  obtain ⟨X63, hX64⟩ : ∃ X, w39.alloc (.cells #[(Value.slice a55 m56 c57), (Value.slice a58 m59 c60)] 32) = X := ⟨_, rfl⟩
  have bX65 : Below w39.heap.size w39 X63 := by rw [← hX64]; exact (Below.refl _ _).alloc (Nat.le_refl _) _
  have zX63 : X63.heap.size = w39.heap.size + 1 := by rw [← hX64]; simp
  have t66 := Below.trans t52 (Below.mono bX65 zb0)
  have s67 := Below.trans s53 (Below.mono bX65 za0)
  replace o43 := ownL.keep o43 (fun q hq => Below.block bX65 q (hs45 q hq))
  replace hs45 := fun q hq => Nat.lt_of_lt_of_le (hs45 q hq) (Below.size bX65)
  replace o48 := ownL.keep o48 (fun q hq => Below.block bX65 q (hs50 q hq))
  replace hs50 := fun q hq => Nat.lt_of_lt_of_le (hs50 q hq) (Below.size bX65)
  replace bx_aS := Box.below bx_aS bX65
  have z68 := Below.size bX65
  replace zb0 : W1.heap.size ≤ X63.heap.size := by omega
  replace za0 : w32.heap.size ≤ X63.heap.size := by omega
  have bx69 : Box X63 (w39.heap.size) [(Value.slice a55 m56 c57), (Value.slice a58 m59 c60)] := by rw [← hX64]; exact Box.alloc _ _ _
  have k70 : X63.cell? ⟨w.heap.size, 0, none⟩ = some ((Value.slice a_aS0 d_aS.heads_.length c_aS0)) := bx_aS.2 0 (by simp)
  have k71 : X63.cell? ⟨w.heap.size, 1, none⟩ = some ((Value.slice a_aS1 d_aS.descs_.length c_aS1)) := bx_aS.2 1 (by simp)
  have k72 : X63.cell? ⟨w39.heap.size, 0, none⟩ = some ((Value.slice a55 m56 c57)) := bx69.2 0 (by simp)
  have k73 : X63.cell? ⟨w39.heap.size, 1, none⟩ = some ((Value.slice a58 m59 c60)) := bx69.2 1 (by simp)
  go_wp2_with fail
  clear k61 k62 k70 k71 k72 k73 hX64
  refine (impl_DepthW d_aS (Value.slice a55 m56 c57) (Value.slice a58 m59 c60) s_aFrom _ (ownL.rds o43) (ownL.rds o48) hb_aS).mono ?_
  rintro e w74 ⟨rfl, b75⟩
  have t76 := Below.trans t66 (Below.mono b75 zb0)
  have s77 := Below.trans s67 (Below.mono b75 za0)
  replace o43 := ownL.keep o43 (fun q hq => Below.block b75 q (hs45 q hq))
  replace hs45 := fun q hq => Nat.lt_of_lt_of_le (hs45 q hq) (Below.size b75)
  replace o48 := ownL.keep o48 (fun q hq => Below.block b75 q (hs50 q hq))
  replace hs50 := fun q hq => Nat.lt_of_lt_of_le (hs50 q hq) (Below.size b75)
  replace bx_aS := Box.below bx_aS b75
  replace bx69 := Box.below bx69 b75
  have z78 := Below.size b75
  replace zb0 : W1.heap.size ≤ w74.heap.size := by omega
  replace za0 : w32.heap.size ≤ w74.heap.size := by omega
  have k79 : w74.cell? ⟨w.heap.size, 0, none⟩ = some ((Value.slice a_aS0 d_aS.heads_.length c_aS0)) := bx_aS.2 0 (by simp)
  have k80 : w74.cell? ⟨w.heap.size, 1, none⟩ = some ((Value.slice a_aS1 d_aS.descs_.length c_aS1)) := bx_aS.2 1 (by simp)
  have k81 : w74.cell? ⟨w39.heap.size, 0, none⟩ = some ((Value.slice a55 m56 c57)) := bx69.2 0 (by simp)
  have k82 : w74.cell? ⟨w39.heap.size, 1, none⟩ = some ((Value.slice a58 m59 c60)) := bx69.2 1 (by simp)
  go_wp2_with fail
  clear k79 k80 k81 k82
  have lt98 := (bx_aS).1
  have lt99 := (bx69).1
  have k100 : w74.cell? ⟨w.heap.size, 0, none⟩ = some ((Value.slice a_aS0 d_aS.heads_.length c_aS0)) := bx_aS.2 0 (by simp)
  have k101 : w74.cell? ⟨w.heap.size, 1, none⟩ = some ((Value.slice a_aS1 d_aS.descs_.length c_aS1)) := bx_aS.2 1 (by simp)
  have k102 : w74.cell? ⟨w39.heap.size, 0, none⟩ = some ((Value.slice a55 m56 c57)) := bx69.2 0 (by simp)
  have k103 : w74.cell? ⟨w39.heap.size, 1, none⟩ = some ((Value.slice a58 m59 c60)) := bx69.2 1 (by simp)
  go_region_held3 (fun w' => Below w74.heap.size w74 w' ∧ w74.heap.size ≤ w'.heap.size ∧ w'.cell? ⟨w.heap.size, 0, none⟩ = some ((Value.slice a_aS0 d_aS.heads_.length c_aS0)) ∧ w'.cell? ⟨w.heap.size, 1, none⟩ = some ((Value.slice a_aS1 d_aS.descs_.length c_aS1)) ∧ w'.cell? ⟨w39.heap.size, 0, none⟩ = some ((Value.slice a55 m56 c57)) ∧ w'.cell? ⟨w39.heap.size, 1, none⟩ = some ((Value.slice a58 m59 c60)))
    (first | exact ⟨(Below.refl _ _).drew, Nat.le_refl _, k100, k101, k102, k103⟩ | exact keepBox4 (by omega) ‹_› ‹_›)
    (first
    | (go_at_call 12; refine (toStore_o d_aS (Value.slice a_aS0 d_aS.heads_.length c_aS0) (Value.slice a_aS1 d_aS.descs_.length c_aS1) _ (rdsL.below (rdsL.below h_aS0 t76) ((Below.refl _ _).drew : Below w74.heap.size w74 w74.drew)) (rdsL.below (rdsL.below h_aS1 t76) ((Below.refl _ _).drew : Below w74.heap.size w74 w74.drew)) hb_aS).mono ?_; rintro e w83 ⟨u85, u90, S86, S91, rfl, o87, o92, r88, r93, dj95, b84⟩; have hq_w83 : Below w74.heap.size w74 w83 := Below.trans ((Below.refl _ _).drew : Below w74.heap.size w74 w74.drew) (Below.mono b84 (Below.size ((Below.refl _ _).drew : Below w74.heap.size w74 w74.drew))))
    | (go_at_call 15; refine (eqStore_o _ _ _ _ _ _ (rdsL.below (rdsL.below (ownL.rds o43) ((Below.refl _ _).drew : Below w74.heap.size w74 w74.drew)) b84) (rdsL.below (rdsL.below (ownL.rds o48) ((Below.refl _ _).drew : Below w74.heap.size w74 w74.drew)) b84) (ownL.rds o87) (ownL.rds o92)).mono ?_; rintro e w96 ⟨rfl, b97⟩))
  clear k100 k101 k102 k103
  have d104 : Below w74.heap.size w74 w74.drew := (Below.refl _ _).drew
  have t105 := Below.trans t76 (Below.mono d104 zb0)
  have s106 := Below.trans s77 (Below.mono d104 za0)
  replace o43 := ownL.keep o43 (fun q hq => Below.block d104 q (hs45 q hq))
  replace hs45 := fun q hq => Nat.lt_of_lt_of_le (hs45 q hq) (Below.size d104)
  replace o48 := ownL.keep o48 (fun q hq => Below.block d104 q (hs50 q hq))
  replace hs50 := fun q hq => Nat.lt_of_lt_of_le (hs50 q hq) (Below.size d104)
  replace bx_aS := Box.below bx_aS d104
  replace bx69 := Box.below bx69 d104
  have z107 := Below.size d104
  replace zb0 : W1.heap.size ≤ w74.drew.heap.size := by omega
  replace za0 : w32.heap.size ≤ w74.drew.heap.size := by omega
  have t108 := Below.trans t105 (Below.mono b84 zb0)
  have s109 := Below.trans s106 (Below.mono b84 za0)
  replace o43 := ownL.keep o43 (fun q hq => Below.block b84 q (hs45 q hq))
  replace hs45 := fun q hq => Nat.lt_of_lt_of_le (hs45 q hq) (Below.size b84)
  replace o48 := ownL.keep o48 (fun q hq => Below.block b84 q (hs50 q hq))
  replace hs50 := fun q hq => Nat.lt_of_lt_of_le (hs50 q hq) (Below.size b84)
  replace bx_aS := Box.below bx_aS b84
  replace bx69 := Box.below bx69 b84
  have z110 := Below.size b84
  replace zb0 : W1.heap.size ≤ w83.heap.size := by omega
  replace za0 : w32.heap.size ≤ w83.heap.size := by omega
  have t111 := Below.trans t108 (Below.mono b97 zb0)
  have s112 := Below.trans s109 (Below.mono b97 za0)
  replace o43 := ownL.keep o43 (fun q hq => Below.block b97 q (hs45 q hq))
  replace hs45 := fun q hq => Nat.lt_of_lt_of_le (hs45 q hq) (Below.size b97)
  replace o48 := ownL.keep o48 (fun q hq => Below.block b97 q (hs50 q hq))
  replace hs50 := fun q hq => Nat.lt_of_lt_of_le (hs50 q hq) (Below.size b97)
  replace bx_aS := Box.below bx_aS b97
  replace bx69 := Box.below bx69 b97
  have z113 := Below.size b97
  replace zb0 : W1.heap.size ≤ w96.heap.size := by omega
  replace za0 : w32.heap.size ≤ w96.heap.size := by omega
  have k114 : w96.cell? ⟨w.heap.size, 0, none⟩ = some ((Value.slice a_aS0 d_aS.heads_.length c_aS0)) := bx_aS.2 0 (by simp)
  have k115 : w96.cell? ⟨w.heap.size, 1, none⟩ = some ((Value.slice a_aS1 d_aS.descs_.length c_aS1)) := bx_aS.2 1 (by simp)
  have k116 : w96.cell? ⟨w39.heap.size, 0, none⟩ = some ((Value.slice a55 m56 c57)) := bx69.2 0 (by simp)
  have k117 : w96.cell? ⟨w39.heap.size, 1, none⟩ = some ((Value.slice a58 m59 c60)) := bx69.2 1 (by simp)
  go_wp2_with fail
  clear k114 k115 k116 k117
  try go_wp2
  go_ret
  exact ⟨rfl, hB0.trans (Below.mono t111 hB0.size)⟩

end Go.Proofs.Ytambpjjfndnadaa
