/- FnExactExplained, walked. -/
import Derived.Test.YtbbdchlabdilcaaGreatM19
import Derived.Test.YtbbdchlabdilcaaGreatBx
import Derived.Test.YtbbdchlabdilcaaGreatM5
import Derived.Test.YtbbdchlabdilcaaGreatM8
import Derived.Test.YtbbdchlabdilcaaGreatWr3
import Derived.Test.YtbbdchlabdilcaaGreatKeep2
import Derived.Deep.RegionHeld3
import Derived.Deep.Cut
import Derived.StillTailTactics
namespace Go.Proofs.YtbbdchlabdilcaaGreat
set_option maxRecDepth 100000
open Go.RowKit Go.Proofs Go.Own
set_option linter.unusedVariables false

set_option maxRecDepth 100000 in
set_option maxHeartbeats 8000000 in
theorem law_Explained (d_aW : WorldD) (v_aW0 v_aW1 v_aW2 v_aW3 v_aW4 : Value) (w : World) (h_aW0 : rdsL w v_aW0 d_aW.first_) (h_aW1 : rdsL w v_aW1 d_aW.store_.heads_) (h_aW2 : rdsL w v_aW2 d_aW.store_.descs_) (h_aW3 : rdsL w v_aW3 d_aW.threads_) (h_aW4 : rdsL w v_aW4 d_aW.log_) :
    Calls Tryz.prog 12 #[(.agg #[v_aW0, v_aW1, v_aW2, v_aW3, v_aW4])] w fun e w' => e = .returned (.bool true) ∧ Below w.heap.size w w' := by
  obtain ⟨a_aW0, c_aW0, rfl, -, -, -⟩ := rdsL_open h_aW0
  obtain ⟨a_aW1, c_aW1, rfl, -, -, -⟩ := rdsL_open h_aW1
  obtain ⟨a_aW2, c_aW2, rfl, -, -, -⟩ := rdsL_open h_aW2
  obtain ⟨a_aW3, c_aW3, rfl, -, -, -⟩ := rdsL_open h_aW3
  obtain ⟨a_aW4, c_aW4, rfl, -, -, -⟩ := rdsL_open h_aW4
  obtain ⟨W1, hW1⟩ : ∃ X, w.alloc (.cells #[(Value.slice a_aW0 d_aW.first_.length c_aW0), (Value.slice a_aW1 d_aW.store_.heads_.length c_aW1), (Value.slice a_aW2 d_aW.store_.descs_.length c_aW2), (Value.slice a_aW3 d_aW.threads_.length c_aW3), (Value.slice a_aW4 d_aW.log_.length c_aW4)] 81) = X := ⟨_, rfl⟩
  have hbx1 : Below w.heap.size w W1 := by rw [← hW1]; exact (Below.refl _ _).alloc (Nat.le_refl _) _
  have zw1 : W1.heap.size = w.heap.size + 1 := by rw [← hW1]; simp
  have bx_aW : Box W1 (w.heap.size) [(Value.slice a_aW0 d_aW.first_.length c_aW0), (Value.slice a_aW1 d_aW.store_.heads_.length c_aW1), (Value.slice a_aW2 d_aW.store_.descs_.length c_aW2), (Value.slice a_aW3 d_aW.threads_.length c_aW3), (Value.slice a_aW4 d_aW.log_.length c_aW4)] := by rw [← hW1]; exact Box.alloc _ _ _
  have hB0 : Below w.heap.size w W1 := hbx1
  replace h_aW0 := rdsL.below h_aW0 hB0
  replace h_aW1 := rdsL.below h_aW1 hB0
  replace h_aW2 := rdsL.below h_aW2 hB0
  replace h_aW3 := rdsL.below h_aW3 hB0
  replace h_aW4 := rdsL.below h_aW4 hB0
  have tt0 : Below W1.heap.size W1 W1 := Below.refl _ _
  have zb0 : W1.heap.size ≤ W1.heap.size := Nat.le_refl _
  go_enter Tryz.func12, Tryz.ntmps12
  have k1 : W1.cell? ⟨w.heap.size, 0, none⟩ = some ((Value.slice a_aW0 d_aW.first_.length c_aW0)) := bx_aW.2 0 (by simp)
  have k2 : W1.cell? ⟨w.heap.size, 1, none⟩ = some ((Value.slice a_aW1 d_aW.store_.heads_.length c_aW1)) := bx_aW.2 1 (by simp)
  have k3 : W1.cell? ⟨w.heap.size, 2, none⟩ = some ((Value.slice a_aW2 d_aW.store_.descs_.length c_aW2)) := bx_aW.2 2 (by simp)
  have k4 : W1.cell? ⟨w.heap.size, 3, none⟩ = some ((Value.slice a_aW3 d_aW.threads_.length c_aW3)) := bx_aW.2 3 (by simp)
  have k5 : W1.cell? ⟨w.heap.size, 4, none⟩ = some ((Value.slice a_aW4 d_aW.log_.length c_aW4)) := bx_aW.2 4 (by simp)
  go_wp2_with fail
  clear k1 k2 k3 k4 k5 hW1
  have hl0_aW : 0 ≤ (1048576 : Int) := by omega
  refine (szWorld_o d_aW (Value.slice a_aW0 d_aW.first_.length c_aW0) (Value.slice a_aW1 d_aW.store_.heads_.length c_aW1) (Value.slice a_aW2 d_aW.store_.descs_.length c_aW2) (Value.slice a_aW3 d_aW.threads_.length c_aW3) (Value.slice a_aW4 d_aW.log_.length c_aW4) _ _ (by omega) (by omega) (rdsL.below h_aW0 tt0) (rdsL.below h_aW1 tt0) (rdsL.below h_aW2 tt0) (rdsL.below h_aW3 tt0) (rdsL.below h_aW4 tt0)).mono ?_
  rintro e w6 ⟨rfl, b7⟩
  have t8 := Below.trans tt0 (Below.mono b7 zb0)
  replace bx_aW := Box.below bx_aW b7
  have z9 := Below.size b7
  replace zb0 : W1.heap.size ≤ w6.heap.size := by omega
  by_cases big_aW : (1048576 : Int) < (szWorldD d_aW : Int)
  · rw [szR_of, if_pos big_aW]
    go_wp2
    go_ret
    exact ⟨rfl, hB0.trans (Below.mono t8 hB0.size)⟩
  rw [szR_of, if_neg big_aW]
  have k10 : w6.cell? ⟨w.heap.size, 0, none⟩ = some ((Value.slice a_aW0 d_aW.first_.length c_aW0)) := bx_aW.2 0 (by simp)
  have k11 : w6.cell? ⟨w.heap.size, 1, none⟩ = some ((Value.slice a_aW1 d_aW.store_.heads_.length c_aW1)) := bx_aW.2 1 (by simp)
  have k12 : w6.cell? ⟨w.heap.size, 2, none⟩ = some ((Value.slice a_aW2 d_aW.store_.descs_.length c_aW2)) := bx_aW.2 2 (by simp)
  have k13 : w6.cell? ⟨w.heap.size, 3, none⟩ = some ((Value.slice a_aW3 d_aW.threads_.length c_aW3)) := bx_aW.2 3 (by simp)
  have k14 : w6.cell? ⟨w.heap.size, 4, none⟩ = some ((Value.slice a_aW4 d_aW.log_.length c_aW4)) := bx_aW.2 4 (by simp)
  go_wp2_with fail
  clear k10 k11 k12 k13 k14
  have hb_aW : WorldB d_aW := by show _ ≤ 1048576; have := big_aW; unfold szWorldD at *; omega
  refine (toWorld_o d_aW (Value.slice a_aW0 d_aW.first_.length c_aW0) (Value.slice a_aW1 d_aW.store_.heads_.length c_aW1) (Value.slice a_aW2 d_aW.store_.descs_.length c_aW2) (Value.slice a_aW3 d_aW.threads_.length c_aW3) (Value.slice a_aW4 d_aW.log_.length c_aW4) _ (rdsL.below h_aW0 t8) (rdsL.below h_aW1 t8) (rdsL.below h_aW2 t8) (rdsL.below h_aW3 t8) (rdsL.below h_aW4 t8) hb_aW).mono ?_
  rintro e w15 ⟨u17, u22, u27, u32, u37, S18, S23, S28, S33, S38, rfl, o19, o24, o29, o34, o39, r20, r25, r30, r35, r40, dj42, dj43, dj44, dj45, dj46, dj47, dj48, dj49, dj50, dj51, b16⟩
  have t52 := Below.trans t8 (Below.mono b16 zb0)
  replace bx_aW := Box.below bx_aW b16
  have z53 := Below.size b16
  replace zb0 : W1.heap.size ≤ w15.heap.size := by omega
  obtain ⟨a54, m55, c56, rfl⟩ := ownL_shape o19
  have hs21 := fun q hq => (r20 q hq).2
  obtain ⟨a57, m58, c59, rfl⟩ := ownL_shape o24
  have hs26 := fun q hq => (r25 q hq).2
  obtain ⟨a60, m61, c62, rfl⟩ := ownL_shape o29
  have hs31 := fun q hq => (r30 q hq).2
  obtain ⟨a63, m64, c65, rfl⟩ := ownL_shape o34
  have hs36 := fun q hq => (r35 q hq).2
  obtain ⟨a66, m67, c68, rfl⟩ := ownL_shape o39
  have hs41 := fun q hq => (r40 q hq).2
  have k69 : w15.cell? ⟨w.heap.size, 0, none⟩ = some ((Value.slice a_aW0 d_aW.first_.length c_aW0)) := bx_aW.2 0 (by simp)
  have k70 : w15.cell? ⟨w.heap.size, 1, none⟩ = some ((Value.slice a_aW1 d_aW.store_.heads_.length c_aW1)) := bx_aW.2 1 (by simp)
  have k71 : w15.cell? ⟨w.heap.size, 2, none⟩ = some ((Value.slice a_aW2 d_aW.store_.descs_.length c_aW2)) := bx_aW.2 2 (by simp)
  have k72 : w15.cell? ⟨w.heap.size, 3, none⟩ = some ((Value.slice a_aW3 d_aW.threads_.length c_aW3)) := bx_aW.2 3 (by simp)
  have k73 : w15.cell? ⟨w.heap.size, 4, none⟩ = some ((Value.slice a_aW4 d_aW.log_.length c_aW4)) := bx_aW.2 4 (by simp)
  go_wp2_with fail
  clear k69 k70 k71 k72 k73
  refine (spec_ExplainedW d_aW (Value.slice a54 m55 c56) (Value.slice a57 m58 c59) (Value.slice a60 m61 c62) (Value.slice a63 m64 c65) (Value.slice a66 m67 c68) _ (ownL.rds o19) (ownL.rds o24) (ownL.rds o29) (ownL.rds o34) (ownL.rds o39) hb_aW).mono ?_
  rintro e w74 ⟨rfl, b75⟩
  have t76 := Below.trans t52 (Below.mono b75 zb0)
  replace bx_aW := Box.below bx_aW b75
  have z77 := Below.size b75
  replace zb0 : W1.heap.size ≤ w74.heap.size := by omega
  have s78 : Below w74.heap.size w74 w74 := Below.refl _ _
  have za0 : w74.heap.size ≤ w74.heap.size := Nat.le_refl _
  have k79 : w74.cell? ⟨w.heap.size, 0, none⟩ = some ((Value.slice a_aW0 d_aW.first_.length c_aW0)) := bx_aW.2 0 (by simp)
  have k80 : w74.cell? ⟨w.heap.size, 1, none⟩ = some ((Value.slice a_aW1 d_aW.store_.heads_.length c_aW1)) := bx_aW.2 1 (by simp)
  have k81 : w74.cell? ⟨w.heap.size, 2, none⟩ = some ((Value.slice a_aW2 d_aW.store_.descs_.length c_aW2)) := bx_aW.2 2 (by simp)
  have k82 : w74.cell? ⟨w.heap.size, 3, none⟩ = some ((Value.slice a_aW3 d_aW.threads_.length c_aW3)) := bx_aW.2 3 (by simp)
  have k83 : w74.cell? ⟨w.heap.size, 4, none⟩ = some ((Value.slice a_aW4 d_aW.log_.length c_aW4)) := bx_aW.2 4 (by simp)
  go_wp2_with fail
  clear k79 k80 k81 k82 k83
  refine (toWorld_o d_aW (Value.slice a_aW0 d_aW.first_.length c_aW0) (Value.slice a_aW1 d_aW.store_.heads_.length c_aW1) (Value.slice a_aW2 d_aW.store_.descs_.length c_aW2) (Value.slice a_aW3 d_aW.threads_.length c_aW3) (Value.slice a_aW4 d_aW.log_.length c_aW4) _ (rdsL.below h_aW0 t76) (rdsL.below h_aW1 t76) (rdsL.below h_aW2 t76) (rdsL.below h_aW3 t76) (rdsL.below h_aW4 t76) hb_aW).mono ?_
  rintro e w84 ⟨u86, u91, u96, u101, u106, S87, S92, S97, S102, S107, rfl, o88, o93, o98, o103, o108, r89, r94, r99, r104, r109, dj111, dj112, dj113, dj114, dj115, dj116, dj117, dj118, dj119, dj120, b85⟩
  have t121 := Below.trans t76 (Below.mono b85 zb0)
  have s122 := Below.trans s78 (Below.mono b85 za0)
  replace bx_aW := Box.below bx_aW b85
  have z123 := Below.size b85
  replace zb0 : W1.heap.size ≤ w84.heap.size := by omega
  replace za0 : w74.heap.size ≤ w84.heap.size := by omega
  obtain ⟨a124, m125, c126, rfl⟩ := ownL_shape o88
  have hs90 := fun q hq => (r89 q hq).2
  obtain ⟨a127, m128, c129, rfl⟩ := ownL_shape o93
  have hs95 := fun q hq => (r94 q hq).2
  obtain ⟨a130, m131, c132, rfl⟩ := ownL_shape o98
  have hs100 := fun q hq => (r99 q hq).2
  obtain ⟨a133, m134, c135, rfl⟩ := ownL_shape o103
  have hs105 := fun q hq => (r104 q hq).2
  obtain ⟨a136, m137, c138, rfl⟩ := ownL_shape o108
  have hs110 := fun q hq => (r109 q hq).2
  have k139 : w84.cell? ⟨w.heap.size, 0, none⟩ = some ((Value.slice a_aW0 d_aW.first_.length c_aW0)) := bx_aW.2 0 (by simp)
  have k140 : w84.cell? ⟨w.heap.size, 1, none⟩ = some ((Value.slice a_aW1 d_aW.store_.heads_.length c_aW1)) := bx_aW.2 1 (by simp)
  have k141 : w84.cell? ⟨w.heap.size, 2, none⟩ = some ((Value.slice a_aW2 d_aW.store_.descs_.length c_aW2)) := bx_aW.2 2 (by simp)
  have k142 : w84.cell? ⟨w.heap.size, 3, none⟩ = some ((Value.slice a_aW3 d_aW.threads_.length c_aW3)) := bx_aW.2 3 (by simp)
  have k143 : w84.cell? ⟨w.heap.size, 4, none⟩ = some ((Value.slice a_aW4 d_aW.log_.length c_aW4)) := bx_aW.2 4 (by simp)
  obtain ⟨X144, hX145⟩ : ∃ X, w84.alloc (.cells #[(Value.slice a124 m125 c126), (Value.slice a127 m128 c129), (Value.slice a130 m131 c132), (Value.slice a133 m134 c135), (Value.slice a136 m137 c138)] 32) = X := ⟨_, rfl⟩
  have bX146 : Below w84.heap.size w84 X144 := by rw [← hX145]; exact (Below.refl _ _).alloc (Nat.le_refl _) _
  have zX144 : X144.heap.size = w84.heap.size + 1 := by rw [← hX145]; simp
  have t147 := Below.trans t121 (Below.mono bX146 zb0)
  have s148 := Below.trans s122 (Below.mono bX146 za0)
  replace o88 := ownL.keep o88 (fun q hq => Below.block bX146 q (hs90 q hq))
  replace hs90 := fun q hq => Nat.lt_of_lt_of_le (hs90 q hq) (Below.size bX146)
  replace o93 := ownL.keep o93 (fun q hq => Below.block bX146 q (hs95 q hq))
  replace hs95 := fun q hq => Nat.lt_of_lt_of_le (hs95 q hq) (Below.size bX146)
  replace o98 := ownL.keep o98 (fun q hq => Below.block bX146 q (hs100 q hq))
  replace hs100 := fun q hq => Nat.lt_of_lt_of_le (hs100 q hq) (Below.size bX146)
  replace o103 := ownL.keep o103 (fun q hq => Below.block bX146 q (hs105 q hq))
  replace hs105 := fun q hq => Nat.lt_of_lt_of_le (hs105 q hq) (Below.size bX146)
  replace o108 := ownL.keep o108 (fun q hq => Below.block bX146 q (hs110 q hq))
  replace hs110 := fun q hq => Nat.lt_of_lt_of_le (hs110 q hq) (Below.size bX146)
  replace bx_aW := Box.below bx_aW bX146
  have z149 := Below.size bX146
  replace zb0 : W1.heap.size ≤ X144.heap.size := by omega
  replace za0 : w74.heap.size ≤ X144.heap.size := by omega
  have bx150 : Box X144 (w84.heap.size) [(Value.slice a124 m125 c126), (Value.slice a127 m128 c129), (Value.slice a130 m131 c132), (Value.slice a133 m134 c135), (Value.slice a136 m137 c138)] := by rw [← hX145]; exact Box.alloc _ _ _
  have k151 : X144.cell? ⟨w.heap.size, 0, none⟩ = some ((Value.slice a_aW0 d_aW.first_.length c_aW0)) := bx_aW.2 0 (by simp)
  have k152 : X144.cell? ⟨w.heap.size, 1, none⟩ = some ((Value.slice a_aW1 d_aW.store_.heads_.length c_aW1)) := bx_aW.2 1 (by simp)
  have k153 : X144.cell? ⟨w.heap.size, 2, none⟩ = some ((Value.slice a_aW2 d_aW.store_.descs_.length c_aW2)) := bx_aW.2 2 (by simp)
  have k154 : X144.cell? ⟨w.heap.size, 3, none⟩ = some ((Value.slice a_aW3 d_aW.threads_.length c_aW3)) := bx_aW.2 3 (by simp)
  have k155 : X144.cell? ⟨w.heap.size, 4, none⟩ = some ((Value.slice a_aW4 d_aW.log_.length c_aW4)) := bx_aW.2 4 (by simp)
  have k156 : X144.cell? ⟨w84.heap.size, 0, none⟩ = some ((Value.slice a124 m125 c126)) := bx150.2 0 (by simp)
  have k157 : X144.cell? ⟨w84.heap.size, 1, none⟩ = some ((Value.slice a127 m128 c129)) := bx150.2 1 (by simp)
  have k158 : X144.cell? ⟨w84.heap.size, 2, none⟩ = some ((Value.slice a130 m131 c132)) := bx150.2 2 (by simp)
  have k159 : X144.cell? ⟨w84.heap.size, 3, none⟩ = some ((Value.slice a133 m134 c135)) := bx150.2 3 (by simp)
  have k160 : X144.cell? ⟨w84.heap.size, 4, none⟩ = some ((Value.slice a136 m137 c138)) := bx150.2 4 (by simp)
  go_wp2_with fail
  clear k139 k140 k141 k142 k143 k151 k152 k153 k154 k155 k156 k157 k158 k159 k160 hX145
  refine (impl_ExplainedW d_aW (Value.slice a124 m125 c126) (Value.slice a127 m128 c129) (Value.slice a130 m131 c132) (Value.slice a133 m134 c135) (Value.slice a136 m137 c138) _ (ownL.rds o88) (ownL.rds o93) (ownL.rds o98) (ownL.rds o103) (ownL.rds o108) hb_aW).mono ?_
  rintro e w161 ⟨rfl, b162⟩
  have t163 := Below.trans t147 (Below.mono b162 zb0)
  have s164 := Below.trans s148 (Below.mono b162 za0)
  replace o88 := ownL.keep o88 (fun q hq => Below.block b162 q (hs90 q hq))
  replace hs90 := fun q hq => Nat.lt_of_lt_of_le (hs90 q hq) (Below.size b162)
  replace o93 := ownL.keep o93 (fun q hq => Below.block b162 q (hs95 q hq))
  replace hs95 := fun q hq => Nat.lt_of_lt_of_le (hs95 q hq) (Below.size b162)
  replace o98 := ownL.keep o98 (fun q hq => Below.block b162 q (hs100 q hq))
  replace hs100 := fun q hq => Nat.lt_of_lt_of_le (hs100 q hq) (Below.size b162)
  replace o103 := ownL.keep o103 (fun q hq => Below.block b162 q (hs105 q hq))
  replace hs105 := fun q hq => Nat.lt_of_lt_of_le (hs105 q hq) (Below.size b162)
  replace o108 := ownL.keep o108 (fun q hq => Below.block b162 q (hs110 q hq))
  replace hs110 := fun q hq => Nat.lt_of_lt_of_le (hs110 q hq) (Below.size b162)
  replace bx_aW := Box.below bx_aW b162
  replace bx150 := Box.below bx150 b162
  have z165 := Below.size b162
  replace zb0 : W1.heap.size ≤ w161.heap.size := by omega
  replace za0 : w74.heap.size ≤ w161.heap.size := by omega
  have k166 : w161.cell? ⟨w.heap.size, 0, none⟩ = some ((Value.slice a_aW0 d_aW.first_.length c_aW0)) := bx_aW.2 0 (by simp)
  have k167 : w161.cell? ⟨w.heap.size, 1, none⟩ = some ((Value.slice a_aW1 d_aW.store_.heads_.length c_aW1)) := bx_aW.2 1 (by simp)
  have k168 : w161.cell? ⟨w.heap.size, 2, none⟩ = some ((Value.slice a_aW2 d_aW.store_.descs_.length c_aW2)) := bx_aW.2 2 (by simp)
  have k169 : w161.cell? ⟨w.heap.size, 3, none⟩ = some ((Value.slice a_aW3 d_aW.threads_.length c_aW3)) := bx_aW.2 3 (by simp)
  have k170 : w161.cell? ⟨w.heap.size, 4, none⟩ = some ((Value.slice a_aW4 d_aW.log_.length c_aW4)) := bx_aW.2 4 (by simp)
  have k171 : w161.cell? ⟨w84.heap.size, 0, none⟩ = some ((Value.slice a124 m125 c126)) := bx150.2 0 (by simp)
  have k172 : w161.cell? ⟨w84.heap.size, 1, none⟩ = some ((Value.slice a127 m128 c129)) := bx150.2 1 (by simp)
  have k173 : w161.cell? ⟨w84.heap.size, 2, none⟩ = some ((Value.slice a130 m131 c132)) := bx150.2 2 (by simp)
  have k174 : w161.cell? ⟨w84.heap.size, 3, none⟩ = some ((Value.slice a133 m134 c135)) := bx150.2 3 (by simp)
  have k175 : w161.cell? ⟨w84.heap.size, 4, none⟩ = some ((Value.slice a136 m137 c138)) := bx150.2 4 (by simp)
  go_wp2_with fail
  clear k166 k167 k168 k169 k170 k171 k172 k173 k174 k175
  have lt215 := (bx_aW).1
  have lt216 := (bx150).1
  have k217 : w161.cell? ⟨w.heap.size, 0, none⟩ = some ((Value.slice a_aW0 d_aW.first_.length c_aW0)) := bx_aW.2 0 (by simp)
  have k218 : w161.cell? ⟨w.heap.size, 1, none⟩ = some ((Value.slice a_aW1 d_aW.store_.heads_.length c_aW1)) := bx_aW.2 1 (by simp)
  have k219 : w161.cell? ⟨w.heap.size, 2, none⟩ = some ((Value.slice a_aW2 d_aW.store_.descs_.length c_aW2)) := bx_aW.2 2 (by simp)
  have k220 : w161.cell? ⟨w.heap.size, 3, none⟩ = some ((Value.slice a_aW3 d_aW.threads_.length c_aW3)) := bx_aW.2 3 (by simp)
  have k221 : w161.cell? ⟨w.heap.size, 4, none⟩ = some ((Value.slice a_aW4 d_aW.log_.length c_aW4)) := bx_aW.2 4 (by simp)
  have k222 : w161.cell? ⟨w84.heap.size, 0, none⟩ = some ((Value.slice a124 m125 c126)) := bx150.2 0 (by simp)
  have k223 : w161.cell? ⟨w84.heap.size, 1, none⟩ = some ((Value.slice a127 m128 c129)) := bx150.2 1 (by simp)
  have k224 : w161.cell? ⟨w84.heap.size, 2, none⟩ = some ((Value.slice a130 m131 c132)) := bx150.2 2 (by simp)
  have k225 : w161.cell? ⟨w84.heap.size, 3, none⟩ = some ((Value.slice a133 m134 c135)) := bx150.2 3 (by simp)
  have k226 : w161.cell? ⟨w84.heap.size, 4, none⟩ = some ((Value.slice a136 m137 c138)) := bx150.2 4 (by simp)
  go_region_held3 (fun w' => Below w161.heap.size w161 w' ∧ w161.heap.size ≤ w'.heap.size ∧ w'.cell? ⟨w.heap.size, 0, none⟩ = some ((Value.slice a_aW0 d_aW.first_.length c_aW0)) ∧ w'.cell? ⟨w.heap.size, 1, none⟩ = some ((Value.slice a_aW1 d_aW.store_.heads_.length c_aW1)) ∧ w'.cell? ⟨w.heap.size, 2, none⟩ = some ((Value.slice a_aW2 d_aW.store_.descs_.length c_aW2)) ∧ w'.cell? ⟨w.heap.size, 3, none⟩ = some ((Value.slice a_aW3 d_aW.threads_.length c_aW3)) ∧ w'.cell? ⟨w.heap.size, 4, none⟩ = some ((Value.slice a_aW4 d_aW.log_.length c_aW4)) ∧ w'.cell? ⟨w84.heap.size, 0, none⟩ = some ((Value.slice a124 m125 c126)) ∧ w'.cell? ⟨w84.heap.size, 1, none⟩ = some ((Value.slice a127 m128 c129)) ∧ w'.cell? ⟨w84.heap.size, 2, none⟩ = some ((Value.slice a130 m131 c132)) ∧ w'.cell? ⟨w84.heap.size, 3, none⟩ = some ((Value.slice a133 m134 c135)) ∧ w'.cell? ⟨w84.heap.size, 4, none⟩ = some ((Value.slice a136 m137 c138)))
    (first | exact ⟨(Below.refl _ _).drew, Nat.le_refl _, k217, k218, k219, k220, k221, k222, k223, k224, k225, k226⟩ | exact keepBox10 (by omega) ‹_› ‹_›)
    (first
    | (go_at_call 44; refine (toWorld_o d_aW (Value.slice a_aW0 d_aW.first_.length c_aW0) (Value.slice a_aW1 d_aW.store_.heads_.length c_aW1) (Value.slice a_aW2 d_aW.store_.descs_.length c_aW2) (Value.slice a_aW3 d_aW.threads_.length c_aW3) (Value.slice a_aW4 d_aW.log_.length c_aW4) _ (rdsL.below (rdsL.below h_aW0 t163) ((Below.refl _ _).drew : Below w161.heap.size w161 w161.drew)) (rdsL.below (rdsL.below h_aW1 t163) ((Below.refl _ _).drew : Below w161.heap.size w161 w161.drew)) (rdsL.below (rdsL.below h_aW2 t163) ((Below.refl _ _).drew : Below w161.heap.size w161 w161.drew)) (rdsL.below (rdsL.below h_aW3 t163) ((Below.refl _ _).drew : Below w161.heap.size w161 w161.drew)) (rdsL.below (rdsL.below h_aW4 t163) ((Below.refl _ _).drew : Below w161.heap.size w161 w161.drew)) hb_aW).mono ?_; rintro e w176 ⟨u178, u183, u188, u193, u198, S179, S184, S189, S194, S199, rfl, o180, o185, o190, o195, o200, r181, r186, r191, r196, r201, dj203, dj204, dj205, dj206, dj207, dj208, dj209, dj210, dj211, dj212, b177⟩; have hq_w176 : Below w161.heap.size w161 w176 := Below.trans ((Below.refl _ _).drew : Below w161.heap.size w161 w161.drew) (Below.mono b177 (Below.size ((Below.refl _ _).drew : Below w161.heap.size w161 w161.drew))))
    | (go_at_call 46; refine (eqWorld_o _ _ _ _ _ _ _ _ _ _ _ _ (rdsL.below (rdsL.below (ownL.rds o88) ((Below.refl _ _).drew : Below w161.heap.size w161 w161.drew)) b177) (rdsL.below (rdsL.below (ownL.rds o93) ((Below.refl _ _).drew : Below w161.heap.size w161 w161.drew)) b177) (rdsL.below (rdsL.below (ownL.rds o98) ((Below.refl _ _).drew : Below w161.heap.size w161 w161.drew)) b177) (rdsL.below (rdsL.below (ownL.rds o103) ((Below.refl _ _).drew : Below w161.heap.size w161 w161.drew)) b177) (rdsL.below (rdsL.below (ownL.rds o108) ((Below.refl _ _).drew : Below w161.heap.size w161 w161.drew)) b177) (ownL.rds o180) (ownL.rds o185) (ownL.rds o190) (ownL.rds o195) (ownL.rds o200)).mono ?_; rintro e w213 ⟨rfl, b214⟩))
  clear k217 k218 k219 k220 k221 k222 k223 k224 k225 k226
  have d227 : Below w161.heap.size w161 w161.drew := (Below.refl _ _).drew
  have t228 := Below.trans t163 (Below.mono d227 zb0)
  have s229 := Below.trans s164 (Below.mono d227 za0)
  replace o88 := ownL.keep o88 (fun q hq => Below.block d227 q (hs90 q hq))
  replace hs90 := fun q hq => Nat.lt_of_lt_of_le (hs90 q hq) (Below.size d227)
  replace o93 := ownL.keep o93 (fun q hq => Below.block d227 q (hs95 q hq))
  replace hs95 := fun q hq => Nat.lt_of_lt_of_le (hs95 q hq) (Below.size d227)
  replace o98 := ownL.keep o98 (fun q hq => Below.block d227 q (hs100 q hq))
  replace hs100 := fun q hq => Nat.lt_of_lt_of_le (hs100 q hq) (Below.size d227)
  replace o103 := ownL.keep o103 (fun q hq => Below.block d227 q (hs105 q hq))
  replace hs105 := fun q hq => Nat.lt_of_lt_of_le (hs105 q hq) (Below.size d227)
  replace o108 := ownL.keep o108 (fun q hq => Below.block d227 q (hs110 q hq))
  replace hs110 := fun q hq => Nat.lt_of_lt_of_le (hs110 q hq) (Below.size d227)
  replace bx_aW := Box.below bx_aW d227
  replace bx150 := Box.below bx150 d227
  have z230 := Below.size d227
  replace zb0 : W1.heap.size ≤ w161.drew.heap.size := by omega
  replace za0 : w74.heap.size ≤ w161.drew.heap.size := by omega
  have t231 := Below.trans t228 (Below.mono b177 zb0)
  have s232 := Below.trans s229 (Below.mono b177 za0)
  replace o88 := ownL.keep o88 (fun q hq => Below.block b177 q (hs90 q hq))
  replace hs90 := fun q hq => Nat.lt_of_lt_of_le (hs90 q hq) (Below.size b177)
  replace o93 := ownL.keep o93 (fun q hq => Below.block b177 q (hs95 q hq))
  replace hs95 := fun q hq => Nat.lt_of_lt_of_le (hs95 q hq) (Below.size b177)
  replace o98 := ownL.keep o98 (fun q hq => Below.block b177 q (hs100 q hq))
  replace hs100 := fun q hq => Nat.lt_of_lt_of_le (hs100 q hq) (Below.size b177)
  replace o103 := ownL.keep o103 (fun q hq => Below.block b177 q (hs105 q hq))
  replace hs105 := fun q hq => Nat.lt_of_lt_of_le (hs105 q hq) (Below.size b177)
  replace o108 := ownL.keep o108 (fun q hq => Below.block b177 q (hs110 q hq))
  replace hs110 := fun q hq => Nat.lt_of_lt_of_le (hs110 q hq) (Below.size b177)
  replace bx_aW := Box.below bx_aW b177
  replace bx150 := Box.below bx150 b177
  have z233 := Below.size b177
  replace zb0 : W1.heap.size ≤ w176.heap.size := by omega
  replace za0 : w74.heap.size ≤ w176.heap.size := by omega
  have t234 := Below.trans t231 (Below.mono b214 zb0)
  have s235 := Below.trans s232 (Below.mono b214 za0)
  replace o88 := ownL.keep o88 (fun q hq => Below.block b214 q (hs90 q hq))
  replace hs90 := fun q hq => Nat.lt_of_lt_of_le (hs90 q hq) (Below.size b214)
  replace o93 := ownL.keep o93 (fun q hq => Below.block b214 q (hs95 q hq))
  replace hs95 := fun q hq => Nat.lt_of_lt_of_le (hs95 q hq) (Below.size b214)
  replace o98 := ownL.keep o98 (fun q hq => Below.block b214 q (hs100 q hq))
  replace hs100 := fun q hq => Nat.lt_of_lt_of_le (hs100 q hq) (Below.size b214)
  replace o103 := ownL.keep o103 (fun q hq => Below.block b214 q (hs105 q hq))
  replace hs105 := fun q hq => Nat.lt_of_lt_of_le (hs105 q hq) (Below.size b214)
  replace o108 := ownL.keep o108 (fun q hq => Below.block b214 q (hs110 q hq))
  replace hs110 := fun q hq => Nat.lt_of_lt_of_le (hs110 q hq) (Below.size b214)
  replace bx_aW := Box.below bx_aW b214
  replace bx150 := Box.below bx150 b214
  have z236 := Below.size b214
  replace zb0 : W1.heap.size ≤ w213.heap.size := by omega
  replace za0 : w74.heap.size ≤ w213.heap.size := by omega
  have k237 : w213.cell? ⟨w.heap.size, 0, none⟩ = some ((Value.slice a_aW0 d_aW.first_.length c_aW0)) := bx_aW.2 0 (by simp)
  have k238 : w213.cell? ⟨w.heap.size, 1, none⟩ = some ((Value.slice a_aW1 d_aW.store_.heads_.length c_aW1)) := bx_aW.2 1 (by simp)
  have k239 : w213.cell? ⟨w.heap.size, 2, none⟩ = some ((Value.slice a_aW2 d_aW.store_.descs_.length c_aW2)) := bx_aW.2 2 (by simp)
  have k240 : w213.cell? ⟨w.heap.size, 3, none⟩ = some ((Value.slice a_aW3 d_aW.threads_.length c_aW3)) := bx_aW.2 3 (by simp)
  have k241 : w213.cell? ⟨w.heap.size, 4, none⟩ = some ((Value.slice a_aW4 d_aW.log_.length c_aW4)) := bx_aW.2 4 (by simp)
  have k242 : w213.cell? ⟨w84.heap.size, 0, none⟩ = some ((Value.slice a124 m125 c126)) := bx150.2 0 (by simp)
  have k243 : w213.cell? ⟨w84.heap.size, 1, none⟩ = some ((Value.slice a127 m128 c129)) := bx150.2 1 (by simp)
  have k244 : w213.cell? ⟨w84.heap.size, 2, none⟩ = some ((Value.slice a130 m131 c132)) := bx150.2 2 (by simp)
  have k245 : w213.cell? ⟨w84.heap.size, 3, none⟩ = some ((Value.slice a133 m134 c135)) := bx150.2 3 (by simp)
  have k246 : w213.cell? ⟨w84.heap.size, 4, none⟩ = some ((Value.slice a136 m137 c138)) := bx150.2 4 (by simp)
  go_wp2_with fail
  clear k237 k238 k239 k240 k241 k242 k243 k244 k245 k246
  try go_wp2
  go_ret
  exact ⟨rfl, hB0.trans (Below.mono t234 hB0.size)⟩

end Go.Proofs.YtbbdchlabdilcaaGreat
