/- FnExactMended, walked. -/
import Derived.Test.YtbbdchlabdilcabGreatM17
import Derived.Test.YtbbdchlabdilcabGreatBx
import Derived.Test.YtbbdchlabdilcabGreatM3
import Derived.Test.YtbbdchlabdilcabGreatM4
import Derived.Test.YtbbdchlabdilcabGreatWr3
import Derived.Test.YtbbdchlabdilcabGreatBase2
import Derived.Deep.RegionHeld3
import Derived.Deep.Cut
import Derived.StillTailTactics
namespace Go.Proofs.YtbbdchlabdilcabGreat
set_option maxRecDepth 100000
open Go.RowKit Go.Proofs Go.Own
set_option linter.unusedVariables false

set_option maxRecDepth 100000 in
set_option maxHeartbeats 8000000 in
theorem law_Mended (d_aW : WorldD) (v_aW0 v_aW1 v_aW2 v_aW3 v_aW4 : Value) (w : World) (h_aW0 : rdsL w v_aW0 d_aW.first_) (h_aW1 : rdsL w v_aW1 d_aW.store_.heads_) (h_aW2 : rdsL w v_aW2 d_aW.store_.descs_) (h_aW3 : rdsL w v_aW3 d_aW.threads_) (h_aW4 : rdsL w v_aW4 d_aW.log_) :
    Calls Tryz.prog 3 #[(.agg #[v_aW0, v_aW1, v_aW2, v_aW3, v_aW4])] w fun e w' => e = .returned (.bool true) ∧ Below w.heap.size w w' := by
  obtain ⟨a_aW0, c_aW0, rfl, -, -, -⟩ := rdsL_open h_aW0
  obtain ⟨a_aW1, c_aW1, rfl, -, -, -⟩ := rdsL_open h_aW1
  obtain ⟨a_aW2, c_aW2, rfl, -, -, -⟩ := rdsL_open h_aW2
  obtain ⟨a_aW3, c_aW3, rfl, -, -, -⟩ := rdsL_open h_aW3
  obtain ⟨a_aW4, c_aW4, rfl, -, -, -⟩ := rdsL_open h_aW4
  obtain ⟨W1, hW1⟩ : ∃ X, w.alloc (.cells #[(Value.slice a_aW0 d_aW.first_.length c_aW0), (Value.slice a_aW1 d_aW.store_.heads_.length c_aW1), (Value.slice a_aW2 d_aW.store_.descs_.length c_aW2), (Value.slice a_aW3 d_aW.threads_.length c_aW3), (Value.slice a_aW4 d_aW.log_.length c_aW4)] 30) = X := ⟨_, rfl⟩
  have hbx1 : Below w.heap.size w W1 := by rw [← hW1]; exact (Below.refl _ _).alloc (Nat.le_refl _) _
  have zw1 : W1.heap.size = w.heap.size + 1 := by rw [← hW1]; simp
  have bx_aW : Box W1 (w.heap.size) [(Value.slice a_aW0 d_aW.first_.length c_aW0), (Value.slice a_aW1 d_aW.store_.heads_.length c_aW1), (Value.slice a_aW2 d_aW.store_.descs_.length c_aW2), (Value.slice a_aW3 d_aW.threads_.length c_aW3), (Value.slice a_aW4 d_aW.log_.length c_aW4)] := by rw [← hW1]; exact Box.alloc _ _ _
  have hB0 : Below w.heap.size w W1 := hbx1
  replace h_aW0 := rdsL.below h_aW0 hB0
  replace h_aW1 := rdsL.below h_aW1 hB0
  replace h_aW2 := rdsL.below h_aW2 hB0
  replace h_aW3 := rdsL.below h_aW3 hB0
  replace h_aW4 := rdsL.below h_aW4 hB0
  have tt0 : Below W1.heap.size W1 W1 := Below.refl _ _
  have zb0 : W1.heap.size ≤ W1.heap.size := Nat.le_refl _
  go_enter Tryz.func3, Tryz.ntmps3
  have k1 : W1.cell? ⟨w.heap.size, 0, none⟩ = some ((Value.slice a_aW0 d_aW.first_.length c_aW0)) := bx_aW.2 0 (by simp)
  have k2 : W1.cell? ⟨w.heap.size, 1, none⟩ = some ((Value.slice a_aW1 d_aW.store_.heads_.length c_aW1)) := bx_aW.2 1 (by simp)
  have k3 : W1.cell? ⟨w.heap.size, 2, none⟩ = some ((Value.slice a_aW2 d_aW.store_.descs_.length c_aW2)) := bx_aW.2 2 (by simp)
  have k4 : W1.cell? ⟨w.heap.size, 3, none⟩ = some ((Value.slice a_aW3 d_aW.threads_.length c_aW3)) := bx_aW.2 3 (by simp)
  have k5 : W1.cell? ⟨w.heap.size, 4, none⟩ = some ((Value.slice a_aW4 d_aW.log_.length c_aW4)) := bx_aW.2 4 (by simp)
  go_wp2_with fail
  clear k1 k2 k3 k4 k5 hW1
  have hl0_aW : 0 ≤ (1048576 : Int) := by omega
  refine (szWorld_o d_aW (Value.slice a_aW0 d_aW.first_.length c_aW0) (Value.slice a_aW1 d_aW.store_.heads_.length c_aW1) (Value.slice a_aW2 d_aW.store_.descs_.length c_aW2) (Value.slice a_aW3 d_aW.threads_.length c_aW3) (Value.slice a_aW4 d_aW.log_.length c_aW4) _ _ (by omega) (by omega) (rdsL.below h_aW0 tt0) (rdsL.below h_aW1 tt0) (rdsL.below h_aW2 tt0) (rdsL.below h_aW3 tt0) (rdsL.below h_aW4 tt0)).mono ?_
  rintro e w6 ⟨rfl, b7⟩
  have t8 := Below.trans tt0 (Below.mono b7 zb0)
  replace bx_aW := Box.below bx_aW b7
  have z9 := Below.size b7
  replace zb0 : W1.heap.size ≤ w6.heap.size := by omega
  by_cases big_aW : (1048576 : Int) < (szWorldD d_aW : Int)
  · rw [szR_of, if_pos big_aW]
    go_wp2
    go_ret
    exact ⟨rfl, hB0.trans (Below.mono t8 hB0.size)⟩
  rw [szR_of, if_neg big_aW]
  have k10 : w6.cell? ⟨w.heap.size, 0, none⟩ = some ((Value.slice a_aW0 d_aW.first_.length c_aW0)) := bx_aW.2 0 (by simp)
  have k11 : w6.cell? ⟨w.heap.size, 1, none⟩ = some ((Value.slice a_aW1 d_aW.store_.heads_.length c_aW1)) := bx_aW.2 1 (by simp)
  have k12 : w6.cell? ⟨w.heap.size, 2, none⟩ = some ((Value.slice a_aW2 d_aW.store_.descs_.length c_aW2)) := bx_aW.2 2 (by simp)
  have k13 : w6.cell? ⟨w.heap.size, 3, none⟩ = some ((Value.slice a_aW3 d_aW.threads_.length c_aW3)) := bx_aW.2 3 (by simp)
  have k14 : w6.cell? ⟨w.heap.size, 4, none⟩ = some ((Value.slice a_aW4 d_aW.log_.length c_aW4)) := bx_aW.2 4 (by simp)
  go_wp2_with fail
  clear k10 k11 k12 k13 k14
  have hb_aW : WorldB d_aW := by show _ ≤ 1048576; have := big_aW; unfold szWorldD at *; omega
  refine (toWorld_o d_aW (Value.slice a_aW0 d_aW.first_.length c_aW0) (Value.slice a_aW1 d_aW.store_.heads_.length c_aW1) (Value.slice a_aW2 d_aW.store_.descs_.length c_aW2) (Value.slice a_aW3 d_aW.threads_.length c_aW3) (Value.slice a_aW4 d_aW.log_.length c_aW4) _ (rdsL.below h_aW0 t8) (rdsL.below h_aW1 t8) (rdsL.below h_aW2 t8) (rdsL.below h_aW3 t8) (rdsL.below h_aW4 t8) hb_aW).mono ?_
  rintro e w15 ⟨u17, u22, u27, u32, u37, S18, S23, S28, S33, S38, rfl, o19, o24, o29, o34, o39, r20, r25, r30, r35, r40, dj42, dj43, dj44, dj45, dj46, dj47, dj48, dj49, dj50, dj51, b16⟩
  have t52 := Below.trans t8 (Below.mono b16 zb0)
  replace bx_aW := Box.below bx_aW b16
  have z53 := Below.size b16
  replace zb0 : W1.heap.size ≤ w15.heap.size := by omega
  obtain ⟨a54, m55, c56, rfl⟩ := ownL_shape o19
  have hs21 := fun q hq => (r20 q hq).2
  obtain ⟨a57, m58, c59, rfl⟩ := ownL_shape o24
  have hs26 := fun q hq => (r25 q hq).2
  obtain ⟨a60, m61, c62, rfl⟩ := ownL_shape o29
  have hs31 := fun q hq => (r30 q hq).2
  obtain ⟨a63, m64, c65, rfl⟩ := ownL_shape o34
  have hs36 := fun q hq => (r35 q hq).2
  obtain ⟨a66, m67, c68, rfl⟩ := ownL_shape o39
  have hs41 := fun q hq => (r40 q hq).2
  have k69 : w15.cell? ⟨w.heap.size, 0, none⟩ = some ((Value.slice a_aW0 d_aW.first_.length c_aW0)) := bx_aW.2 0 (by simp)
  have k70 : w15.cell? ⟨w.heap.size, 1, none⟩ = some ((Value.slice a_aW1 d_aW.store_.heads_.length c_aW1)) := bx_aW.2 1 (by simp)
  have k71 : w15.cell? ⟨w.heap.size, 2, none⟩ = some ((Value.slice a_aW2 d_aW.store_.descs_.length c_aW2)) := bx_aW.2 2 (by simp)
  have k72 : w15.cell? ⟨w.heap.size, 3, none⟩ = some ((Value.slice a_aW3 d_aW.threads_.length c_aW3)) := bx_aW.2 3 (by simp)
  have k73 : w15.cell? ⟨w.heap.size, 4, none⟩ = some ((Value.slice a_aW4 d_aW.log_.length c_aW4)) := bx_aW.2 4 (by simp)
  go_wp2_with fail
  clear k69 k70 k71 k72 k73
  refine (spec_MendedW d_aW (Value.slice a54 m55 c56) (Value.slice a57 m58 c59) (Value.slice a60 m61 c62) (Value.slice a63 m64 c65) (Value.slice a66 m67 c68) _ (ownL.rds o19) (ownL.rds o24) (ownL.rds o29) (ownL.rds o34) (ownL.rds o39) hb_aW).mono ?_
  rintro e w74 ⟨u76, rfl, o78, b75⟩
  have t81 := Below.trans t52 (Below.mono b75 zb0)
  replace bx_aW := Box.below bx_aW b75
  have z82 := Below.size b75
  replace zb0 : W1.heap.size ≤ w74.heap.size := by omega
  obtain ⟨a83, m84, c85, rfl⟩ := rdsL_shape o78
  have s86 : Below w74.heap.size w74 w74 := Below.refl _ _
  have za0 : w74.heap.size ≤ w74.heap.size := Nat.le_refl _
  have k87 : w74.cell? ⟨w.heap.size, 0, none⟩ = some ((Value.slice a_aW0 d_aW.first_.length c_aW0)) := bx_aW.2 0 (by simp)
  have k88 : w74.cell? ⟨w.heap.size, 1, none⟩ = some ((Value.slice a_aW1 d_aW.store_.heads_.length c_aW1)) := bx_aW.2 1 (by simp)
  have k89 : w74.cell? ⟨w.heap.size, 2, none⟩ = some ((Value.slice a_aW2 d_aW.store_.descs_.length c_aW2)) := bx_aW.2 2 (by simp)
  have k90 : w74.cell? ⟨w.heap.size, 3, none⟩ = some ((Value.slice a_aW3 d_aW.threads_.length c_aW3)) := bx_aW.2 3 (by simp)
  have k91 : w74.cell? ⟨w.heap.size, 4, none⟩ = some ((Value.slice a_aW4 d_aW.log_.length c_aW4)) := bx_aW.2 4 (by simp)
  go_wp2_with fail
  clear k87 k88 k89 k90 k91
  refine (toWorld_o d_aW (Value.slice a_aW0 d_aW.first_.length c_aW0) (Value.slice a_aW1 d_aW.store_.heads_.length c_aW1) (Value.slice a_aW2 d_aW.store_.descs_.length c_aW2) (Value.slice a_aW3 d_aW.threads_.length c_aW3) (Value.slice a_aW4 d_aW.log_.length c_aW4) _ (rdsL.below h_aW0 t81) (rdsL.below h_aW1 t81) (rdsL.below h_aW2 t81) (rdsL.below h_aW3 t81) (rdsL.below h_aW4 t81) hb_aW).mono ?_
  rintro e w92 ⟨u94, u99, u104, u109, u114, S95, S100, S105, S110, S115, rfl, o96, o101, o106, o111, o116, r97, r102, r107, r112, r117, dj119, dj120, dj121, dj122, dj123, dj124, dj125, dj126, dj127, dj128, b93⟩
  have t129 := Below.trans t81 (Below.mono b93 zb0)
  have s130 := Below.trans s86 (Below.mono b93 za0)
  replace bx_aW := Box.below bx_aW b93
  have z131 := Below.size b93
  replace zb0 : W1.heap.size ≤ w92.heap.size := by omega
  replace za0 : w74.heap.size ≤ w92.heap.size := by omega
  obtain ⟨a132, m133, c134, rfl⟩ := ownL_shape o96
  have hs98 := fun q hq => (r97 q hq).2
  obtain ⟨a135, m136, c137, rfl⟩ := ownL_shape o101
  have hs103 := fun q hq => (r102 q hq).2
  obtain ⟨a138, m139, c140, rfl⟩ := ownL_shape o106
  have hs108 := fun q hq => (r107 q hq).2
  obtain ⟨a141, m142, c143, rfl⟩ := ownL_shape o111
  have hs113 := fun q hq => (r112 q hq).2
  obtain ⟨a144, m145, c146, rfl⟩ := ownL_shape o116
  have hs118 := fun q hq => (r117 q hq).2
  have k147 : w92.cell? ⟨w.heap.size, 0, none⟩ = some ((Value.slice a_aW0 d_aW.first_.length c_aW0)) := bx_aW.2 0 (by simp)
  have k148 : w92.cell? ⟨w.heap.size, 1, none⟩ = some ((Value.slice a_aW1 d_aW.store_.heads_.length c_aW1)) := bx_aW.2 1 (by simp)
  have k149 : w92.cell? ⟨w.heap.size, 2, none⟩ = some ((Value.slice a_aW2 d_aW.store_.descs_.length c_aW2)) := bx_aW.2 2 (by simp)
  have k150 : w92.cell? ⟨w.heap.size, 3, none⟩ = some ((Value.slice a_aW3 d_aW.threads_.length c_aW3)) := bx_aW.2 3 (by simp)
  have k151 : w92.cell? ⟨w.heap.size, 4, none⟩ = some ((Value.slice a_aW4 d_aW.log_.length c_aW4)) := bx_aW.2 4 (by simp)
  obtain ⟨X152, hX153⟩ : ∃ X, w92.alloc (.cells #[(Value.slice a132 m133 c134), (Value.slice a135 m136 c137), (Value.slice a138 m139 c140), (Value.slice a141 m142 c143), (Value.slice a144 m145 c146)] 41) = X := ⟨_, rfl⟩
  have bX154 : Below w92.heap.size w92 X152 := by rw [← hX153]; exact (Below.refl _ _).alloc (Nat.le_refl _) _
  have zX152 : X152.heap.size = w92.heap.size + 1 := by rw [← hX153]; simp
  have t155 := Below.trans t129 (Below.mono bX154 zb0)
  have s156 := Below.trans s130 (Below.mono bX154 za0)
  replace o96 := ownL.keep o96 (fun q hq => Below.block bX154 q (hs98 q hq))
  replace hs98 := fun q hq => Nat.lt_of_lt_of_le (hs98 q hq) (Below.size bX154)
  replace o101 := ownL.keep o101 (fun q hq => Below.block bX154 q (hs103 q hq))
  replace hs103 := fun q hq => Nat.lt_of_lt_of_le (hs103 q hq) (Below.size bX154)
  replace o106 := ownL.keep o106 (fun q hq => Below.block bX154 q (hs108 q hq))
  replace hs108 := fun q hq => Nat.lt_of_lt_of_le (hs108 q hq) (Below.size bX154)
  replace o111 := ownL.keep o111 (fun q hq => Below.block bX154 q (hs113 q hq))
  replace hs113 := fun q hq => Nat.lt_of_lt_of_le (hs113 q hq) (Below.size bX154)
  replace o116 := ownL.keep o116 (fun q hq => Below.block bX154 q (hs118 q hq))
  replace hs118 := fun q hq => Nat.lt_of_lt_of_le (hs118 q hq) (Below.size bX154)
  replace bx_aW := Box.below bx_aW bX154
  have z157 := Below.size bX154
  replace zb0 : W1.heap.size ≤ X152.heap.size := by omega
  replace za0 : w74.heap.size ≤ X152.heap.size := by omega
  have bx158 : Box X152 (w92.heap.size) [(Value.slice a132 m133 c134), (Value.slice a135 m136 c137), (Value.slice a138 m139 c140), (Value.slice a141 m142 c143), (Value.slice a144 m145 c146)] := by rw [← hX153]; exact Box.alloc _ _ _
  have k159 : X152.cell? ⟨w.heap.size, 0, none⟩ = some ((Value.slice a_aW0 d_aW.first_.length c_aW0)) := bx_aW.2 0 (by simp)
  have k160 : X152.cell? ⟨w.heap.size, 1, none⟩ = some ((Value.slice a_aW1 d_aW.store_.heads_.length c_aW1)) := bx_aW.2 1 (by simp)
  have k161 : X152.cell? ⟨w.heap.size, 2, none⟩ = some ((Value.slice a_aW2 d_aW.store_.descs_.length c_aW2)) := bx_aW.2 2 (by simp)
  have k162 : X152.cell? ⟨w.heap.size, 3, none⟩ = some ((Value.slice a_aW3 d_aW.threads_.length c_aW3)) := bx_aW.2 3 (by simp)
  have k163 : X152.cell? ⟨w.heap.size, 4, none⟩ = some ((Value.slice a_aW4 d_aW.log_.length c_aW4)) := bx_aW.2 4 (by simp)
  have k164 : X152.cell? ⟨w92.heap.size, 0, none⟩ = some ((Value.slice a132 m133 c134)) := bx158.2 0 (by simp)
  have k165 : X152.cell? ⟨w92.heap.size, 1, none⟩ = some ((Value.slice a135 m136 c137)) := bx158.2 1 (by simp)
  have k166 : X152.cell? ⟨w92.heap.size, 2, none⟩ = some ((Value.slice a138 m139 c140)) := bx158.2 2 (by simp)
  have k167 : X152.cell? ⟨w92.heap.size, 3, none⟩ = some ((Value.slice a141 m142 c143)) := bx158.2 3 (by simp)
  have k168 : X152.cell? ⟨w92.heap.size, 4, none⟩ = some ((Value.slice a144 m145 c146)) := bx158.2 4 (by simp)
  go_wp2_with fail
  clear k147 k148 k149 k150 k151 k159 k160 k161 k162 k163 k164 k165 k166 k167 k168 hX153
  refine (impl_MendedW d_aW (Value.slice a132 m133 c134) (Value.slice a135 m136 c137) (Value.slice a138 m139 c140) (Value.slice a141 m142 c143) (Value.slice a144 m145 c146) _ (ownL.rds o96) (ownL.rds o101) (ownL.rds o106) (ownL.rds o111) (ownL.rds o116) hb_aW).mono ?_
  rintro e w169 ⟨u171, S172, rfl, o173, r174, hb176, b170⟩
  have t177 := Below.trans t155 (Below.mono b170 zb0)
  have s178 := Below.trans s156 (Below.mono b170 za0)
  replace o96 := ownL.keep o96 (fun q hq => Below.block b170 q (hs98 q hq))
  replace hs98 := fun q hq => Nat.lt_of_lt_of_le (hs98 q hq) (Below.size b170)
  replace o101 := ownL.keep o101 (fun q hq => Below.block b170 q (hs103 q hq))
  replace hs103 := fun q hq => Nat.lt_of_lt_of_le (hs103 q hq) (Below.size b170)
  replace o106 := ownL.keep o106 (fun q hq => Below.block b170 q (hs108 q hq))
  replace hs108 := fun q hq => Nat.lt_of_lt_of_le (hs108 q hq) (Below.size b170)
  replace o111 := ownL.keep o111 (fun q hq => Below.block b170 q (hs113 q hq))
  replace hs113 := fun q hq => Nat.lt_of_lt_of_le (hs113 q hq) (Below.size b170)
  replace o116 := ownL.keep o116 (fun q hq => Below.block b170 q (hs118 q hq))
  replace hs118 := fun q hq => Nat.lt_of_lt_of_le (hs118 q hq) (Below.size b170)
  replace bx_aW := Box.below bx_aW b170
  replace bx158 := Box.below bx158 b170
  have z179 := Below.size b170
  replace zb0 : W1.heap.size ≤ w169.heap.size := by omega
  replace za0 : w74.heap.size ≤ w169.heap.size := by omega
  obtain ⟨a180, m181, c182, rfl⟩ := ownL_shape o173
  have hs175 := fun q hq => (r174 q hq).2
  have k183 : w169.cell? ⟨w.heap.size, 0, none⟩ = some ((Value.slice a_aW0 d_aW.first_.length c_aW0)) := bx_aW.2 0 (by simp)
  have k184 : w169.cell? ⟨w.heap.size, 1, none⟩ = some ((Value.slice a_aW1 d_aW.store_.heads_.length c_aW1)) := bx_aW.2 1 (by simp)
  have k185 : w169.cell? ⟨w.heap.size, 2, none⟩ = some ((Value.slice a_aW2 d_aW.store_.descs_.length c_aW2)) := bx_aW.2 2 (by simp)
  have k186 : w169.cell? ⟨w.heap.size, 3, none⟩ = some ((Value.slice a_aW3 d_aW.threads_.length c_aW3)) := bx_aW.2 3 (by simp)
  have k187 : w169.cell? ⟨w.heap.size, 4, none⟩ = some ((Value.slice a_aW4 d_aW.log_.length c_aW4)) := bx_aW.2 4 (by simp)
  have k188 : w169.cell? ⟨w92.heap.size, 0, none⟩ = some ((Value.slice a132 m133 c134)) := bx158.2 0 (by simp)
  have k189 : w169.cell? ⟨w92.heap.size, 1, none⟩ = some ((Value.slice a135 m136 c137)) := bx158.2 1 (by simp)
  have k190 : w169.cell? ⟨w92.heap.size, 2, none⟩ = some ((Value.slice a138 m139 c140)) := bx158.2 2 (by simp)
  have k191 : w169.cell? ⟨w92.heap.size, 3, none⟩ = some ((Value.slice a141 m142 c143)) := bx158.2 3 (by simp)
  have k192 : w169.cell? ⟨w92.heap.size, 4, none⟩ = some ((Value.slice a144 m145 c146)) := bx158.2 4 (by simp)
  go_wp2_with fail
  clear k183 k184 k185 k186 k187 k188 k189 k190 k191 k192
  refine (eqIntS_o _ _ _ _ (ownL.rds o173) (rdsL.below o78 s178)).mono ?_
  rintro e w193 ⟨rfl, b194⟩
  have t195 := Below.trans t177 (Below.mono b194 zb0)
  have s196 := Below.trans s178 (Below.mono b194 za0)
  replace o96 := ownL.keep o96 (fun q hq => Below.block b194 q (hs98 q hq))
  replace hs98 := fun q hq => Nat.lt_of_lt_of_le (hs98 q hq) (Below.size b194)
  replace o101 := ownL.keep o101 (fun q hq => Below.block b194 q (hs103 q hq))
  replace hs103 := fun q hq => Nat.lt_of_lt_of_le (hs103 q hq) (Below.size b194)
  replace o106 := ownL.keep o106 (fun q hq => Below.block b194 q (hs108 q hq))
  replace hs108 := fun q hq => Nat.lt_of_lt_of_le (hs108 q hq) (Below.size b194)
  replace o111 := ownL.keep o111 (fun q hq => Below.block b194 q (hs113 q hq))
  replace hs113 := fun q hq => Nat.lt_of_lt_of_le (hs113 q hq) (Below.size b194)
  replace o116 := ownL.keep o116 (fun q hq => Below.block b194 q (hs118 q hq))
  replace hs118 := fun q hq => Nat.lt_of_lt_of_le (hs118 q hq) (Below.size b194)
  replace o173 := ownL.keep o173 (fun q hq => Below.block b194 q (hs175 q hq))
  replace hs175 := fun q hq => Nat.lt_of_lt_of_le (hs175 q hq) (Below.size b194)
  replace bx_aW := Box.below bx_aW b194
  replace bx158 := Box.below bx158 b194
  have z197 := Below.size b194
  replace zb0 : W1.heap.size ≤ w193.heap.size := by omega
  replace za0 : w74.heap.size ≤ w193.heap.size := by omega
  have k198 : w193.cell? ⟨w.heap.size, 0, none⟩ = some ((Value.slice a_aW0 d_aW.first_.length c_aW0)) := bx_aW.2 0 (by simp)
  have k199 : w193.cell? ⟨w.heap.size, 1, none⟩ = some ((Value.slice a_aW1 d_aW.store_.heads_.length c_aW1)) := bx_aW.2 1 (by simp)
  have k200 : w193.cell? ⟨w.heap.size, 2, none⟩ = some ((Value.slice a_aW2 d_aW.store_.descs_.length c_aW2)) := bx_aW.2 2 (by simp)
  have k201 : w193.cell? ⟨w.heap.size, 3, none⟩ = some ((Value.slice a_aW3 d_aW.threads_.length c_aW3)) := bx_aW.2 3 (by simp)
  have k202 : w193.cell? ⟨w.heap.size, 4, none⟩ = some ((Value.slice a_aW4 d_aW.log_.length c_aW4)) := bx_aW.2 4 (by simp)
  have k203 : w193.cell? ⟨w92.heap.size, 0, none⟩ = some ((Value.slice a132 m133 c134)) := bx158.2 0 (by simp)
  have k204 : w193.cell? ⟨w92.heap.size, 1, none⟩ = some ((Value.slice a135 m136 c137)) := bx158.2 1 (by simp)
  have k205 : w193.cell? ⟨w92.heap.size, 2, none⟩ = some ((Value.slice a138 m139 c140)) := bx158.2 2 (by simp)
  have k206 : w193.cell? ⟨w92.heap.size, 3, none⟩ = some ((Value.slice a141 m142 c143)) := bx158.2 3 (by simp)
  have k207 : w193.cell? ⟨w92.heap.size, 4, none⟩ = some ((Value.slice a144 m145 c146)) := bx158.2 4 (by simp)
  go_wp2_with fail
  clear k198 k199 k200 k201 k202 k203 k204 k205 k206 k207
  have lt247 := (bx_aW).1
  have lt248 := (bx158).1
  have k249 : w193.cell? ⟨w.heap.size, 0, none⟩ = some ((Value.slice a_aW0 d_aW.first_.length c_aW0)) := bx_aW.2 0 (by simp)
  have k250 : w193.cell? ⟨w.heap.size, 1, none⟩ = some ((Value.slice a_aW1 d_aW.store_.heads_.length c_aW1)) := bx_aW.2 1 (by simp)
  have k251 : w193.cell? ⟨w.heap.size, 2, none⟩ = some ((Value.slice a_aW2 d_aW.store_.descs_.length c_aW2)) := bx_aW.2 2 (by simp)
  have k252 : w193.cell? ⟨w.heap.size, 3, none⟩ = some ((Value.slice a_aW3 d_aW.threads_.length c_aW3)) := bx_aW.2 3 (by simp)
  have k253 : w193.cell? ⟨w.heap.size, 4, none⟩ = some ((Value.slice a_aW4 d_aW.log_.length c_aW4)) := bx_aW.2 4 (by simp)
  have k254 : w193.cell? ⟨w92.heap.size, 0, none⟩ = some ((Value.slice a132 m133 c134)) := bx158.2 0 (by simp)
  have k255 : w193.cell? ⟨w92.heap.size, 1, none⟩ = some ((Value.slice a135 m136 c137)) := bx158.2 1 (by simp)
  have k256 : w193.cell? ⟨w92.heap.size, 2, none⟩ = some ((Value.slice a138 m139 c140)) := bx158.2 2 (by simp)
  have k257 : w193.cell? ⟨w92.heap.size, 3, none⟩ = some ((Value.slice a141 m142 c143)) := bx158.2 3 (by simp)
  have k258 : w193.cell? ⟨w92.heap.size, 4, none⟩ = some ((Value.slice a144 m145 c146)) := bx158.2 4 (by simp)
  go_region_held3 (fun w' => Below w193.heap.size w193 w' ∧ w193.heap.size ≤ w'.heap.size ∧ w'.cell? ⟨w.heap.size, 0, none⟩ = some ((Value.slice a_aW0 d_aW.first_.length c_aW0)) ∧ w'.cell? ⟨w.heap.size, 1, none⟩ = some ((Value.slice a_aW1 d_aW.store_.heads_.length c_aW1)) ∧ w'.cell? ⟨w.heap.size, 2, none⟩ = some ((Value.slice a_aW2 d_aW.store_.descs_.length c_aW2)) ∧ w'.cell? ⟨w.heap.size, 3, none⟩ = some ((Value.slice a_aW3 d_aW.threads_.length c_aW3)) ∧ w'.cell? ⟨w.heap.size, 4, none⟩ = some ((Value.slice a_aW4 d_aW.log_.length c_aW4)) ∧ w'.cell? ⟨w92.heap.size, 0, none⟩ = some ((Value.slice a132 m133 c134)) ∧ w'.cell? ⟨w92.heap.size, 1, none⟩ = some ((Value.slice a135 m136 c137)) ∧ w'.cell? ⟨w92.heap.size, 2, none⟩ = some ((Value.slice a138 m139 c140)) ∧ w'.cell? ⟨w92.heap.size, 3, none⟩ = some ((Value.slice a141 m142 c143)) ∧ w'.cell? ⟨w92.heap.size, 4, none⟩ = some ((Value.slice a144 m145 c146)))
    (first | exact ⟨(Below.refl _ _).drew, Nat.le_refl _, k249, k250, k251, k252, k253, k254, k255, k256, k257, k258⟩ | exact keepBox10 (by omega) ‹_› ‹_›)
    (first
    | (go_at_call 6; refine (toWorld_o d_aW (Value.slice a_aW0 d_aW.first_.length c_aW0) (Value.slice a_aW1 d_aW.store_.heads_.length c_aW1) (Value.slice a_aW2 d_aW.store_.descs_.length c_aW2) (Value.slice a_aW3 d_aW.threads_.length c_aW3) (Value.slice a_aW4 d_aW.log_.length c_aW4) _ (rdsL.below (rdsL.below h_aW0 t195) ((Below.refl _ _).drew : Below w193.heap.size w193 w193.drew)) (rdsL.below (rdsL.below h_aW1 t195) ((Below.refl _ _).drew : Below w193.heap.size w193 w193.drew)) (rdsL.below (rdsL.below h_aW2 t195) ((Below.refl _ _).drew : Below w193.heap.size w193 w193.drew)) (rdsL.below (rdsL.below h_aW3 t195) ((Below.refl _ _).drew : Below w193.heap.size w193 w193.drew)) (rdsL.below (rdsL.below h_aW4 t195) ((Below.refl _ _).drew : Below w193.heap.size w193 w193.drew)) hb_aW).mono ?_; rintro e w208 ⟨u210, u215, u220, u225, u230, S211, S216, S221, S226, S231, rfl, o212, o217, o222, o227, o232, r213, r218, r223, r228, r233, dj235, dj236, dj237, dj238, dj239, dj240, dj241, dj242, dj243, dj244, b209⟩; have hq_w208 : Below w193.heap.size w193 w208 := Below.trans ((Below.refl _ _).drew : Below w193.heap.size w193 w193.drew) (Below.mono b209 (Below.size ((Below.refl _ _).drew : Below w193.heap.size w193 w193.drew))))
    | (go_at_call 9; refine (eqWorld_o _ _ _ _ _ _ _ _ _ _ _ _ (rdsL.below (rdsL.below (ownL.rds o96) ((Below.refl _ _).drew : Below w193.heap.size w193 w193.drew)) b209) (rdsL.below (rdsL.below (ownL.rds o101) ((Below.refl _ _).drew : Below w193.heap.size w193 w193.drew)) b209) (rdsL.below (rdsL.below (ownL.rds o106) ((Below.refl _ _).drew : Below w193.heap.size w193 w193.drew)) b209) (rdsL.below (rdsL.below (ownL.rds o111) ((Below.refl _ _).drew : Below w193.heap.size w193 w193.drew)) b209) (rdsL.below (rdsL.below (ownL.rds o116) ((Below.refl _ _).drew : Below w193.heap.size w193 w193.drew)) b209) (ownL.rds o212) (ownL.rds o217) (ownL.rds o222) (ownL.rds o227) (ownL.rds o232)).mono ?_; rintro e w245 ⟨rfl, b246⟩))
  clear k249 k250 k251 k252 k253 k254 k255 k256 k257 k258
  have d259 : Below w193.heap.size w193 w193.drew := (Below.refl _ _).drew
  have t260 := Below.trans t195 (Below.mono d259 zb0)
  have s261 := Below.trans s196 (Below.mono d259 za0)
  replace o96 := ownL.keep o96 (fun q hq => Below.block d259 q (hs98 q hq))
  replace hs98 := fun q hq => Nat.lt_of_lt_of_le (hs98 q hq) (Below.size d259)
  replace o101 := ownL.keep o101 (fun q hq => Below.block d259 q (hs103 q hq))
  replace hs103 := fun q hq => Nat.lt_of_lt_of_le (hs103 q hq) (Below.size d259)
  replace o106 := ownL.keep o106 (fun q hq => Below.block d259 q (hs108 q hq))
  replace hs108 := fun q hq => Nat.lt_of_lt_of_le (hs108 q hq) (Below.size d259)
  replace o111 := ownL.keep o111 (fun q hq => Below.block d259 q (hs113 q hq))
  replace hs113 := fun q hq => Nat.lt_of_lt_of_le (hs113 q hq) (Below.size d259)
  replace o116 := ownL.keep o116 (fun q hq => Below.block d259 q (hs118 q hq))
  replace hs118 := fun q hq => Nat.lt_of_lt_of_le (hs118 q hq) (Below.size d259)
  replace o173 := ownL.keep o173 (fun q hq => Below.block d259 q (hs175 q hq))
  replace hs175 := fun q hq => Nat.lt_of_lt_of_le (hs175 q hq) (Below.size d259)
  replace bx_aW := Box.below bx_aW d259
  replace bx158 := Box.below bx158 d259
  have z262 := Below.size d259
  replace zb0 : W1.heap.size ≤ w193.drew.heap.size := by omega
  replace za0 : w74.heap.size ≤ w193.drew.heap.size := by omega
  have t263 := Below.trans t260 (Below.mono b209 zb0)
  have s264 := Below.trans s261 (Below.mono b209 za0)
  replace o96 := ownL.keep o96 (fun q hq => Below.block b209 q (hs98 q hq))
  replace hs98 := fun q hq => Nat.lt_of_lt_of_le (hs98 q hq) (Below.size b209)
  replace o101 := ownL.keep o101 (fun q hq => Below.block b209 q (hs103 q hq))
  replace hs103 := fun q hq => Nat.lt_of_lt_of_le (hs103 q hq) (Below.size b209)
  replace o106 := ownL.keep o106 (fun q hq => Below.block b209 q (hs108 q hq))
  replace hs108 := fun q hq => Nat.lt_of_lt_of_le (hs108 q hq) (Below.size b209)
  replace o111 := ownL.keep o111 (fun q hq => Below.block b209 q (hs113 q hq))
  replace hs113 := fun q hq => Nat.lt_of_lt_of_le (hs113 q hq) (Below.size b209)
  replace o116 := ownL.keep o116 (fun q hq => Below.block b209 q (hs118 q hq))
  replace hs118 := fun q hq => Nat.lt_of_lt_of_le (hs118 q hq) (Below.size b209)
  replace o173 := ownL.keep o173 (fun q hq => Below.block b209 q (hs175 q hq))
  replace hs175 := fun q hq => Nat.lt_of_lt_of_le (hs175 q hq) (Below.size b209)
  replace bx_aW := Box.below bx_aW b209
  replace bx158 := Box.below bx158 b209
  have z265 := Below.size b209
  replace zb0 : W1.heap.size ≤ w208.heap.size := by omega
  replace za0 : w74.heap.size ≤ w208.heap.size := by omega
  have t266 := Below.trans t263 (Below.mono b246 zb0)
  have s267 := Below.trans s264 (Below.mono b246 za0)
  replace o96 := ownL.keep o96 (fun q hq => Below.block b246 q (hs98 q hq))
  replace hs98 := fun q hq => Nat.lt_of_lt_of_le (hs98 q hq) (Below.size b246)
  replace o101 := ownL.keep o101 (fun q hq => Below.block b246 q (hs103 q hq))
  replace hs103 := fun q hq => Nat.lt_of_lt_of_le (hs103 q hq) (Below.size b246)
  replace o106 := ownL.keep o106 (fun q hq => Below.block b246 q (hs108 q hq))
  replace hs108 := fun q hq => Nat.lt_of_lt_of_le (hs108 q hq) (Below.size b246)
  replace o111 := ownL.keep o111 (fun q hq => Below.block b246 q (hs113 q hq))
  replace hs113 := fun q hq => Nat.lt_of_lt_of_le (hs113 q hq) (Below.size b246)
  replace o116 := ownL.keep o116 (fun q hq => Below.block b246 q (hs118 q hq))
  replace hs118 := fun q hq => Nat.lt_of_lt_of_le (hs118 q hq) (Below.size b246)
  replace o173 := ownL.keep o173 (fun q hq => Below.block b246 q (hs175 q hq))
  replace hs175 := fun q hq => Nat.lt_of_lt_of_le (hs175 q hq) (Below.size b246)
  replace bx_aW := Box.below bx_aW b246
  replace bx158 := Box.below bx158 b246
  have z268 := Below.size b246
  replace zb0 : W1.heap.size ≤ w245.heap.size := by omega
  replace za0 : w74.heap.size ≤ w245.heap.size := by omega
  have k269 : w245.cell? ⟨w.heap.size, 0, none⟩ = some ((Value.slice a_aW0 d_aW.first_.length c_aW0)) := bx_aW.2 0 (by simp)
  have k270 : w245.cell? ⟨w.heap.size, 1, none⟩ = some ((Value.slice a_aW1 d_aW.store_.heads_.length c_aW1)) := bx_aW.2 1 (by simp)
  have k271 : w245.cell? ⟨w.heap.size, 2, none⟩ = some ((Value.slice a_aW2 d_aW.store_.descs_.length c_aW2)) := bx_aW.2 2 (by simp)
  have k272 : w245.cell? ⟨w.heap.size, 3, none⟩ = some ((Value.slice a_aW3 d_aW.threads_.length c_aW3)) := bx_aW.2 3 (by simp)
  have k273 : w245.cell? ⟨w.heap.size, 4, none⟩ = some ((Value.slice a_aW4 d_aW.log_.length c_aW4)) := bx_aW.2 4 (by simp)
  have k274 : w245.cell? ⟨w92.heap.size, 0, none⟩ = some ((Value.slice a132 m133 c134)) := bx158.2 0 (by simp)
  have k275 : w245.cell? ⟨w92.heap.size, 1, none⟩ = some ((Value.slice a135 m136 c137)) := bx158.2 1 (by simp)
  have k276 : w245.cell? ⟨w92.heap.size, 2, none⟩ = some ((Value.slice a138 m139 c140)) := bx158.2 2 (by simp)
  have k277 : w245.cell? ⟨w92.heap.size, 3, none⟩ = some ((Value.slice a141 m142 c143)) := bx158.2 3 (by simp)
  have k278 : w245.cell? ⟨w92.heap.size, 4, none⟩ = some ((Value.slice a144 m145 c146)) := bx158.2 4 (by simp)
  go_wp2_with fail
  clear k269 k270 k271 k272 k273 k274 k275 k276 k277 k278
  have le286 := cntWorld_le hb_aW
  refine (markWorld_o S95 S100 S105 S110 S115 _ _ _ _ _ _ _ _ hs98 hs103 hs108 hs113 hs118 dj119 dj120 dj121 dj122 dj123 dj124 dj125 dj126 dj127 dj128 hb_aW (by omega) (by omega) o96 o101 o106 o111 o116).mono ?_
  rintro e w279 ⟨rfl, o281, o282, o283, o284, o285, C280⟩
  have t287 := below_chg t266 C280 zb0 (by intro q hx; rcases hx with hx | hx | hx | hx | hx; (have y := r97 q hx; have y1 := y.1; have y2 := y.2; omega); (have y := r102 q hx; have y1 := y.1; have y2 := y.2; omega); (have y := r107 q hx; have y1 := y.1; have y2 := y.2; omega); (have y := r112 q hx; have y1 := y.1; have y2 := y.2; omega); (have y := r117 q hx; have y1 := y.1; have y2 := y.2; omega))
  have s288 := below_chg s267 C280 za0 (by intro q hx; rcases hx with hx | hx | hx | hx | hx; (have y := r97 q hx; have y1 := y.1; have y2 := y.2; omega); (have y := r102 q hx; have y1 := y.1; have y2 := y.2; omega); (have y := r107 q hx; have y1 := y.1; have y2 := y.2; omega); (have y := r112 q hx; have y1 := y.1; have y2 := y.2; omega); (have y := r117 q hx; have y1 := y.1; have y2 := y.2; omega))
  replace hs98 := fun q hq => Nat.lt_of_lt_of_le (hs98 q hq) (ChgS.size C280)
  replace hs103 := fun q hq => Nat.lt_of_lt_of_le (hs103 q hq) (ChgS.size C280)
  replace hs108 := fun q hq => Nat.lt_of_lt_of_le (hs108 q hq) (ChgS.size C280)
  replace hs113 := fun q hq => Nat.lt_of_lt_of_le (hs113 q hq) (ChgS.size C280)
  replace hs118 := fun q hq => Nat.lt_of_lt_of_le (hs118 q hq) (ChgS.size C280)
  replace o173 := ownL.keep o173 (fun q hq => ChgS.block C280 q (hs175 q hq) (by intro hx; have x0 := r174 q hq; have x1 := x0.1; have x2 := x0.2; rcases hx with hx | hx | hx | hx | hx; (have y := r97 q hx; have y1 := y.1; have y2 := y.2; omega); (have y := r102 q hx; have y1 := y.1; have y2 := y.2; omega); (have y := r107 q hx; have y1 := y.1; have y2 := y.2; omega); (have y := r112 q hx; have y1 := y.1; have y2 := y.2; omega); (have y := r117 q hx; have y1 := y.1; have y2 := y.2; omega)))
  replace hs175 := fun q hq => Nat.lt_of_lt_of_le (hs175 q hq) (ChgS.size C280)
  replace bx_aW := Box.chg bx_aW C280 (by intro hx; rcases hx with hx | hx | hx | hx | hx; (have y := r97 _ hx; have y1 := y.1; have y2 := y.2; omega); (have y := r102 _ hx; have y1 := y.1; have y2 := y.2; omega); (have y := r107 _ hx; have y1 := y.1; have y2 := y.2; omega); (have y := r112 _ hx; have y1 := y.1; have y2 := y.2; omega); (have y := r117 _ hx; have y1 := y.1; have y2 := y.2; omega))
  replace bx158 := Box.chg bx158 C280 (by intro hx; rcases hx with hx | hx | hx | hx | hx; (have y := r97 _ hx; have y1 := y.1; have y2 := y.2; omega); (have y := r102 _ hx; have y1 := y.1; have y2 := y.2; omega); (have y := r107 _ hx; have y1 := y.1; have y2 := y.2; omega); (have y := r112 _ hx; have y1 := y.1; have y2 := y.2; omega); (have y := r117 _ hx; have y1 := y.1; have y2 := y.2; omega))
  have z289 := ChgS.size C280
  replace zb0 : W1.heap.size ≤ w279.heap.size := by omega
  replace za0 : w74.heap.size ≤ w279.heap.size := by omega
  have k290 : w279.cell? ⟨w.heap.size, 0, none⟩ = some ((Value.slice a_aW0 d_aW.first_.length c_aW0)) := bx_aW.2 0 (by simp)
  have k291 : w279.cell? ⟨w.heap.size, 1, none⟩ = some ((Value.slice a_aW1 d_aW.store_.heads_.length c_aW1)) := bx_aW.2 1 (by simp)
  have k292 : w279.cell? ⟨w.heap.size, 2, none⟩ = some ((Value.slice a_aW2 d_aW.store_.descs_.length c_aW2)) := bx_aW.2 2 (by simp)
  have k293 : w279.cell? ⟨w.heap.size, 3, none⟩ = some ((Value.slice a_aW3 d_aW.threads_.length c_aW3)) := bx_aW.2 3 (by simp)
  have k294 : w279.cell? ⟨w.heap.size, 4, none⟩ = some ((Value.slice a_aW4 d_aW.log_.length c_aW4)) := bx_aW.2 4 (by simp)
  have k295 : w279.cell? ⟨w92.heap.size, 0, none⟩ = some ((Value.slice a132 m133 c134)) := bx158.2 0 (by simp)
  have k296 : w279.cell? ⟨w92.heap.size, 1, none⟩ = some ((Value.slice a135 m136 c137)) := bx158.2 1 (by simp)
  have k297 : w279.cell? ⟨w92.heap.size, 2, none⟩ = some ((Value.slice a138 m139 c140)) := bx158.2 2 (by simp)
  have k298 : w279.cell? ⟨w92.heap.size, 3, none⟩ = some ((Value.slice a141 m142 c143)) := bx158.2 3 (by simp)
  have k299 : w279.cell? ⟨w92.heap.size, 4, none⟩ = some ((Value.slice a144 m145 c146)) := bx158.2 4 (by simp)
  go_wp2_with fail
  clear k290 k291 k292 k293 k294 k295 k296 k297 k298 k299
  refine (eqIntS_o _ _ _ _ (ownL.rds o173) (rdsL.below o78 s288)).mono ?_
  rintro e w300 ⟨rfl, b301⟩
  have t302 := Below.trans t287 (Below.mono b301 zb0)
  have s303 := Below.trans s288 (Below.mono b301 za0)
  replace o281 := ownL.keep o281 (fun q hq => Below.block b301 q (hs98 q hq))
  replace hs98 := fun q hq => Nat.lt_of_lt_of_le (hs98 q hq) (Below.size b301)
  replace o282 := ownL.keep o282 (fun q hq => Below.block b301 q (hs103 q hq))
  replace hs103 := fun q hq => Nat.lt_of_lt_of_le (hs103 q hq) (Below.size b301)
  replace o283 := ownL.keep o283 (fun q hq => Below.block b301 q (hs108 q hq))
  replace hs108 := fun q hq => Nat.lt_of_lt_of_le (hs108 q hq) (Below.size b301)
  replace o284 := ownL.keep o284 (fun q hq => Below.block b301 q (hs113 q hq))
  replace hs113 := fun q hq => Nat.lt_of_lt_of_le (hs113 q hq) (Below.size b301)
  replace o285 := ownL.keep o285 (fun q hq => Below.block b301 q (hs118 q hq))
  replace hs118 := fun q hq => Nat.lt_of_lt_of_le (hs118 q hq) (Below.size b301)
  replace o173 := ownL.keep o173 (fun q hq => Below.block b301 q (hs175 q hq))
  replace hs175 := fun q hq => Nat.lt_of_lt_of_le (hs175 q hq) (Below.size b301)
  replace bx_aW := Box.below bx_aW b301
  replace bx158 := Box.below bx158 b301
  have z304 := Below.size b301
  replace zb0 : W1.heap.size ≤ w300.heap.size := by omega
  replace za0 : w74.heap.size ≤ w300.heap.size := by omega
  have k305 : w300.cell? ⟨w.heap.size, 0, none⟩ = some ((Value.slice a_aW0 d_aW.first_.length c_aW0)) := bx_aW.2 0 (by simp)
  have k306 : w300.cell? ⟨w.heap.size, 1, none⟩ = some ((Value.slice a_aW1 d_aW.store_.heads_.length c_aW1)) := bx_aW.2 1 (by simp)
  have k307 : w300.cell? ⟨w.heap.size, 2, none⟩ = some ((Value.slice a_aW2 d_aW.store_.descs_.length c_aW2)) := bx_aW.2 2 (by simp)
  have k308 : w300.cell? ⟨w.heap.size, 3, none⟩ = some ((Value.slice a_aW3 d_aW.threads_.length c_aW3)) := bx_aW.2 3 (by simp)
  have k309 : w300.cell? ⟨w.heap.size, 4, none⟩ = some ((Value.slice a_aW4 d_aW.log_.length c_aW4)) := bx_aW.2 4 (by simp)
  have k310 : w300.cell? ⟨w92.heap.size, 0, none⟩ = some ((Value.slice a132 m133 c134)) := bx158.2 0 (by simp)
  have k311 : w300.cell? ⟨w92.heap.size, 1, none⟩ = some ((Value.slice a135 m136 c137)) := bx158.2 1 (by simp)
  have k312 : w300.cell? ⟨w92.heap.size, 2, none⟩ = some ((Value.slice a138 m139 c140)) := bx158.2 2 (by simp)
  have k313 : w300.cell? ⟨w92.heap.size, 3, none⟩ = some ((Value.slice a141 m142 c143)) := bx158.2 3 (by simp)
  have k314 : w300.cell? ⟨w92.heap.size, 4, none⟩ = some ((Value.slice a144 m145 c146)) := bx158.2 4 (by simp)
  go_wp2_with fail
  clear k305 k306 k307 k308 k309 k310 k311 k312 k313 k314
  have le318 := cntIntS_le hb176
  refine (markIntS_o S172 _ _ _ _ hs175  hb176 (by omega) (by omega) o173).mono ?_
  rintro e w315 ⟨rfl, o317, C316⟩
  have t319 := below_chg t302 C316 zb0 (by intro q hx; have y := r174 q hx; have y1 := y.1; have y2 := y.2; omega)
  have s320 := below_chg s303 C316 za0 (by intro q hx; have y := r174 q hx; have y1 := y.1; have y2 := y.2; omega)
  replace o281 := ownL.keep o281 (fun q hq => ChgS.block C316 q (hs98 q hq) (by intro hx; have x0 := r97 q hq; have x1 := x0.1; have x2 := x0.2; have y := r174 q hx; have y1 := y.1; have y2 := y.2; omega))
  replace hs98 := fun q hq => Nat.lt_of_lt_of_le (hs98 q hq) (ChgS.size C316)
  replace o282 := ownL.keep o282 (fun q hq => ChgS.block C316 q (hs103 q hq) (by intro hx; have x0 := r102 q hq; have x1 := x0.1; have x2 := x0.2; have y := r174 q hx; have y1 := y.1; have y2 := y.2; omega))
  replace hs103 := fun q hq => Nat.lt_of_lt_of_le (hs103 q hq) (ChgS.size C316)
  replace o283 := ownL.keep o283 (fun q hq => ChgS.block C316 q (hs108 q hq) (by intro hx; have x0 := r107 q hq; have x1 := x0.1; have x2 := x0.2; have y := r174 q hx; have y1 := y.1; have y2 := y.2; omega))
  replace hs108 := fun q hq => Nat.lt_of_lt_of_le (hs108 q hq) (ChgS.size C316)
  replace o284 := ownL.keep o284 (fun q hq => ChgS.block C316 q (hs113 q hq) (by intro hx; have x0 := r112 q hq; have x1 := x0.1; have x2 := x0.2; have y := r174 q hx; have y1 := y.1; have y2 := y.2; omega))
  replace hs113 := fun q hq => Nat.lt_of_lt_of_le (hs113 q hq) (ChgS.size C316)
  replace o285 := ownL.keep o285 (fun q hq => ChgS.block C316 q (hs118 q hq) (by intro hx; have x0 := r117 q hq; have x1 := x0.1; have x2 := x0.2; have y := r174 q hx; have y1 := y.1; have y2 := y.2; omega))
  replace hs118 := fun q hq => Nat.lt_of_lt_of_le (hs118 q hq) (ChgS.size C316)
  replace hs175 := fun q hq => Nat.lt_of_lt_of_le (hs175 q hq) (ChgS.size C316)
  replace bx_aW := Box.chg bx_aW C316 (by intro hx; have y := r174 _ hx; have y1 := y.1; have y2 := y.2; omega)
  replace bx158 := Box.chg bx158 C316 (by intro hx; have y := r174 _ hx; have y1 := y.1; have y2 := y.2; omega)
  have z321 := ChgS.size C316
  replace zb0 : W1.heap.size ≤ w315.heap.size := by omega
  replace za0 : w74.heap.size ≤ w315.heap.size := by omega
  have k322 : w315.cell? ⟨w.heap.size, 0, none⟩ = some ((Value.slice a_aW0 d_aW.first_.length c_aW0)) := bx_aW.2 0 (by simp)
  have k323 : w315.cell? ⟨w.heap.size, 1, none⟩ = some ((Value.slice a_aW1 d_aW.store_.heads_.length c_aW1)) := bx_aW.2 1 (by simp)
  have k324 : w315.cell? ⟨w.heap.size, 2, none⟩ = some ((Value.slice a_aW2 d_aW.store_.descs_.length c_aW2)) := bx_aW.2 2 (by simp)
  have k325 : w315.cell? ⟨w.heap.size, 3, none⟩ = some ((Value.slice a_aW3 d_aW.threads_.length c_aW3)) := bx_aW.2 3 (by simp)
  have k326 : w315.cell? ⟨w.heap.size, 4, none⟩ = some ((Value.slice a_aW4 d_aW.log_.length c_aW4)) := bx_aW.2 4 (by simp)
  have k327 : w315.cell? ⟨w92.heap.size, 0, none⟩ = some ((Value.slice a132 m133 c134)) := bx158.2 0 (by simp)
  have k328 : w315.cell? ⟨w92.heap.size, 1, none⟩ = some ((Value.slice a135 m136 c137)) := bx158.2 1 (by simp)
  have k329 : w315.cell? ⟨w92.heap.size, 2, none⟩ = some ((Value.slice a138 m139 c140)) := bx158.2 2 (by simp)
  have k330 : w315.cell? ⟨w92.heap.size, 3, none⟩ = some ((Value.slice a141 m142 c143)) := bx158.2 3 (by simp)
  have k331 : w315.cell? ⟨w92.heap.size, 4, none⟩ = some ((Value.slice a144 m145 c146)) := bx158.2 4 (by simp)
  go_wp2_with fail
  clear k322 k323 k324 k325 k326 k327 k328 k329 k330 k331
  refine (heldIntS_o _ _ _ _ hb176 (by omega) (by omega) (ownL.rds o317)).mono ?_
  rintro e w332 ⟨rfl, b333⟩
  have t334 := Below.trans t319 (Below.mono b333 zb0)
  have s335 := Below.trans s320 (Below.mono b333 za0)
  replace o281 := ownL.keep o281 (fun q hq => Below.block b333 q (hs98 q hq))
  replace hs98 := fun q hq => Nat.lt_of_lt_of_le (hs98 q hq) (Below.size b333)
  replace o282 := ownL.keep o282 (fun q hq => Below.block b333 q (hs103 q hq))
  replace hs103 := fun q hq => Nat.lt_of_lt_of_le (hs103 q hq) (Below.size b333)
  replace o283 := ownL.keep o283 (fun q hq => Below.block b333 q (hs108 q hq))
  replace hs108 := fun q hq => Nat.lt_of_lt_of_le (hs108 q hq) (Below.size b333)
  replace o284 := ownL.keep o284 (fun q hq => Below.block b333 q (hs113 q hq))
  replace hs113 := fun q hq => Nat.lt_of_lt_of_le (hs113 q hq) (Below.size b333)
  replace o285 := ownL.keep o285 (fun q hq => Below.block b333 q (hs118 q hq))
  replace hs118 := fun q hq => Nat.lt_of_lt_of_le (hs118 q hq) (Below.size b333)
  replace o317 := ownL.keep o317 (fun q hq => Below.block b333 q (hs175 q hq))
  replace hs175 := fun q hq => Nat.lt_of_lt_of_le (hs175 q hq) (Below.size b333)
  replace bx_aW := Box.below bx_aW b333
  replace bx158 := Box.below bx158 b333
  have z336 := Below.size b333
  replace zb0 : W1.heap.size ≤ w332.heap.size := by omega
  replace za0 : w74.heap.size ≤ w332.heap.size := by omega
  have k337 : w332.cell? ⟨w.heap.size, 0, none⟩ = some ((Value.slice a_aW0 d_aW.first_.length c_aW0)) := bx_aW.2 0 (by simp)
  have k338 : w332.cell? ⟨w.heap.size, 1, none⟩ = some ((Value.slice a_aW1 d_aW.store_.heads_.length c_aW1)) := bx_aW.2 1 (by simp)
  have k339 : w332.cell? ⟨w.heap.size, 2, none⟩ = some ((Value.slice a_aW2 d_aW.store_.descs_.length c_aW2)) := bx_aW.2 2 (by simp)
  have k340 : w332.cell? ⟨w.heap.size, 3, none⟩ = some ((Value.slice a_aW3 d_aW.threads_.length c_aW3)) := bx_aW.2 3 (by simp)
  have k341 : w332.cell? ⟨w.heap.size, 4, none⟩ = some ((Value.slice a_aW4 d_aW.log_.length c_aW4)) := bx_aW.2 4 (by simp)
  have k342 : w332.cell? ⟨w92.heap.size, 0, none⟩ = some ((Value.slice a132 m133 c134)) := bx158.2 0 (by simp)
  have k343 : w332.cell? ⟨w92.heap.size, 1, none⟩ = some ((Value.slice a135 m136 c137)) := bx158.2 1 (by simp)
  have k344 : w332.cell? ⟨w92.heap.size, 2, none⟩ = some ((Value.slice a138 m139 c140)) := bx158.2 2 (by simp)
  have k345 : w332.cell? ⟨w92.heap.size, 3, none⟩ = some ((Value.slice a141 m142 c143)) := bx158.2 3 (by simp)
  have k346 : w332.cell? ⟨w92.heap.size, 4, none⟩ = some ((Value.slice a144 m145 c146)) := bx158.2 4 (by simp)
  go_wp2_with fail
  clear k337 k338 k339 k340 k341 k342 k343 k344 k345 k346
  refine (toWorld_o d_aW (Value.slice a_aW0 d_aW.first_.length c_aW0) (Value.slice a_aW1 d_aW.store_.heads_.length c_aW1) (Value.slice a_aW2 d_aW.store_.descs_.length c_aW2) (Value.slice a_aW3 d_aW.threads_.length c_aW3) (Value.slice a_aW4 d_aW.log_.length c_aW4) _ (rdsL.below h_aW0 t334) (rdsL.below h_aW1 t334) (rdsL.below h_aW2 t334) (rdsL.below h_aW3 t334) (rdsL.below h_aW4 t334) hb_aW).mono ?_
  rintro e w347 ⟨u349, u354, u359, u364, u369, S350, S355, S360, S365, S370, rfl, o351, o356, o361, o366, o371, r352, r357, r362, r367, r372, dj374, dj375, dj376, dj377, dj378, dj379, dj380, dj381, dj382, dj383, b348⟩
  have t384 := Below.trans t334 (Below.mono b348 zb0)
  have s385 := Below.trans s335 (Below.mono b348 za0)
  replace o281 := ownL.keep o281 (fun q hq => Below.block b348 q (hs98 q hq))
  replace hs98 := fun q hq => Nat.lt_of_lt_of_le (hs98 q hq) (Below.size b348)
  replace o282 := ownL.keep o282 (fun q hq => Below.block b348 q (hs103 q hq))
  replace hs103 := fun q hq => Nat.lt_of_lt_of_le (hs103 q hq) (Below.size b348)
  replace o283 := ownL.keep o283 (fun q hq => Below.block b348 q (hs108 q hq))
  replace hs108 := fun q hq => Nat.lt_of_lt_of_le (hs108 q hq) (Below.size b348)
  replace o284 := ownL.keep o284 (fun q hq => Below.block b348 q (hs113 q hq))
  replace hs113 := fun q hq => Nat.lt_of_lt_of_le (hs113 q hq) (Below.size b348)
  replace o285 := ownL.keep o285 (fun q hq => Below.block b348 q (hs118 q hq))
  replace hs118 := fun q hq => Nat.lt_of_lt_of_le (hs118 q hq) (Below.size b348)
  replace o317 := ownL.keep o317 (fun q hq => Below.block b348 q (hs175 q hq))
  replace hs175 := fun q hq => Nat.lt_of_lt_of_le (hs175 q hq) (Below.size b348)
  replace bx_aW := Box.below bx_aW b348
  replace bx158 := Box.below bx158 b348
  have z386 := Below.size b348
  replace zb0 : W1.heap.size ≤ w347.heap.size := by omega
  replace za0 : w74.heap.size ≤ w347.heap.size := by omega
  obtain ⟨a387, m388, c389, rfl⟩ := ownL_shape o351
  have hs353 := fun q hq => (r352 q hq).2
  obtain ⟨a390, m391, c392, rfl⟩ := ownL_shape o356
  have hs358 := fun q hq => (r357 q hq).2
  obtain ⟨a393, m394, c395, rfl⟩ := ownL_shape o361
  have hs363 := fun q hq => (r362 q hq).2
  obtain ⟨a396, m397, c398, rfl⟩ := ownL_shape o366
  have hs368 := fun q hq => (r367 q hq).2
  obtain ⟨a399, m400, c401, rfl⟩ := ownL_shape o371
  have hs373 := fun q hq => (r372 q hq).2
  have k402 : w347.cell? ⟨w.heap.size, 0, none⟩ = some ((Value.slice a_aW0 d_aW.first_.length c_aW0)) := bx_aW.2 0 (by simp)
  have k403 : w347.cell? ⟨w.heap.size, 1, none⟩ = some ((Value.slice a_aW1 d_aW.store_.heads_.length c_aW1)) := bx_aW.2 1 (by simp)
  have k404 : w347.cell? ⟨w.heap.size, 2, none⟩ = some ((Value.slice a_aW2 d_aW.store_.descs_.length c_aW2)) := bx_aW.2 2 (by simp)
  have k405 : w347.cell? ⟨w.heap.size, 3, none⟩ = some ((Value.slice a_aW3 d_aW.threads_.length c_aW3)) := bx_aW.2 3 (by simp)
  have k406 : w347.cell? ⟨w.heap.size, 4, none⟩ = some ((Value.slice a_aW4 d_aW.log_.length c_aW4)) := bx_aW.2 4 (by simp)
  have k407 : w347.cell? ⟨w92.heap.size, 0, none⟩ = some ((Value.slice a132 m133 c134)) := bx158.2 0 (by simp)
  have k408 : w347.cell? ⟨w92.heap.size, 1, none⟩ = some ((Value.slice a135 m136 c137)) := bx158.2 1 (by simp)
  have k409 : w347.cell? ⟨w92.heap.size, 2, none⟩ = some ((Value.slice a138 m139 c140)) := bx158.2 2 (by simp)
  have k410 : w347.cell? ⟨w92.heap.size, 3, none⟩ = some ((Value.slice a141 m142 c143)) := bx158.2 3 (by simp)
  have k411 : w347.cell? ⟨w92.heap.size, 4, none⟩ = some ((Value.slice a144 m145 c146)) := bx158.2 4 (by simp)
  go_wp2_with fail
  clear k402 k403 k404 k405 k406 k407 k408 k409 k410 k411
  refine (impl_MendedW d_aW (Value.slice a387 m388 c389) (Value.slice a390 m391 c392) (Value.slice a393 m394 c395) (Value.slice a396 m397 c398) (Value.slice a399 m400 c401) _ (ownL.rds o351) (ownL.rds o356) (ownL.rds o361) (ownL.rds o366) (ownL.rds o371) hb_aW).mono ?_
  rintro e w412 ⟨u414, S415, rfl, o416, r417, hb419, b413⟩
  have t420 := Below.trans t384 (Below.mono b413 zb0)
  have s421 := Below.trans s385 (Below.mono b413 za0)
  replace o281 := ownL.keep o281 (fun q hq => Below.block b413 q (hs98 q hq))
  replace hs98 := fun q hq => Nat.lt_of_lt_of_le (hs98 q hq) (Below.size b413)
  replace o282 := ownL.keep o282 (fun q hq => Below.block b413 q (hs103 q hq))
  replace hs103 := fun q hq => Nat.lt_of_lt_of_le (hs103 q hq) (Below.size b413)
  replace o283 := ownL.keep o283 (fun q hq => Below.block b413 q (hs108 q hq))
  replace hs108 := fun q hq => Nat.lt_of_lt_of_le (hs108 q hq) (Below.size b413)
  replace o284 := ownL.keep o284 (fun q hq => Below.block b413 q (hs113 q hq))
  replace hs113 := fun q hq => Nat.lt_of_lt_of_le (hs113 q hq) (Below.size b413)
  replace o285 := ownL.keep o285 (fun q hq => Below.block b413 q (hs118 q hq))
  replace hs118 := fun q hq => Nat.lt_of_lt_of_le (hs118 q hq) (Below.size b413)
  replace o317 := ownL.keep o317 (fun q hq => Below.block b413 q (hs175 q hq))
  replace hs175 := fun q hq => Nat.lt_of_lt_of_le (hs175 q hq) (Below.size b413)
  replace bx_aW := Box.below bx_aW b413
  replace bx158 := Box.below bx158 b413
  have z422 := Below.size b413
  replace zb0 : W1.heap.size ≤ w412.heap.size := by omega
  replace za0 : w74.heap.size ≤ w412.heap.size := by omega
  obtain ⟨a423, m424, c425, rfl⟩ := ownL_shape o416
  have hs418 := fun q hq => (r417 q hq).2
  have k426 : w412.cell? ⟨w.heap.size, 0, none⟩ = some ((Value.slice a_aW0 d_aW.first_.length c_aW0)) := bx_aW.2 0 (by simp)
  have k427 : w412.cell? ⟨w.heap.size, 1, none⟩ = some ((Value.slice a_aW1 d_aW.store_.heads_.length c_aW1)) := bx_aW.2 1 (by simp)
  have k428 : w412.cell? ⟨w.heap.size, 2, none⟩ = some ((Value.slice a_aW2 d_aW.store_.descs_.length c_aW2)) := bx_aW.2 2 (by simp)
  have k429 : w412.cell? ⟨w.heap.size, 3, none⟩ = some ((Value.slice a_aW3 d_aW.threads_.length c_aW3)) := bx_aW.2 3 (by simp)
  have k430 : w412.cell? ⟨w.heap.size, 4, none⟩ = some ((Value.slice a_aW4 d_aW.log_.length c_aW4)) := bx_aW.2 4 (by simp)
  have k431 : w412.cell? ⟨w92.heap.size, 0, none⟩ = some ((Value.slice a132 m133 c134)) := bx158.2 0 (by simp)
  have k432 : w412.cell? ⟨w92.heap.size, 1, none⟩ = some ((Value.slice a135 m136 c137)) := bx158.2 1 (by simp)
  have k433 : w412.cell? ⟨w92.heap.size, 2, none⟩ = some ((Value.slice a138 m139 c140)) := bx158.2 2 (by simp)
  have k434 : w412.cell? ⟨w92.heap.size, 3, none⟩ = some ((Value.slice a141 m142 c143)) := bx158.2 3 (by simp)
  have k435 : w412.cell? ⟨w92.heap.size, 4, none⟩ = some ((Value.slice a144 m145 c146)) := bx158.2 4 (by simp)
  go_wp2_with fail
  clear k426 k427 k428 k429 k430 k431 k432 k433 k434 k435
  refine (eqIntS_o _ _ _ _ (ownL.rds o416) (rdsL.below o78 s421)).mono ?_
  rintro e w436 ⟨rfl, b437⟩
  have t438 := Below.trans t420 (Below.mono b437 zb0)
  have s439 := Below.trans s421 (Below.mono b437 za0)
  replace o281 := ownL.keep o281 (fun q hq => Below.block b437 q (hs98 q hq))
  replace hs98 := fun q hq => Nat.lt_of_lt_of_le (hs98 q hq) (Below.size b437)
  replace o282 := ownL.keep o282 (fun q hq => Below.block b437 q (hs103 q hq))
  replace hs103 := fun q hq => Nat.lt_of_lt_of_le (hs103 q hq) (Below.size b437)
  replace o283 := ownL.keep o283 (fun q hq => Below.block b437 q (hs108 q hq))
  replace hs108 := fun q hq => Nat.lt_of_lt_of_le (hs108 q hq) (Below.size b437)
  replace o284 := ownL.keep o284 (fun q hq => Below.block b437 q (hs113 q hq))
  replace hs113 := fun q hq => Nat.lt_of_lt_of_le (hs113 q hq) (Below.size b437)
  replace o285 := ownL.keep o285 (fun q hq => Below.block b437 q (hs118 q hq))
  replace hs118 := fun q hq => Nat.lt_of_lt_of_le (hs118 q hq) (Below.size b437)
  replace o317 := ownL.keep o317 (fun q hq => Below.block b437 q (hs175 q hq))
  replace hs175 := fun q hq => Nat.lt_of_lt_of_le (hs175 q hq) (Below.size b437)
  replace o416 := ownL.keep o416 (fun q hq => Below.block b437 q (hs418 q hq))
  replace hs418 := fun q hq => Nat.lt_of_lt_of_le (hs418 q hq) (Below.size b437)
  replace bx_aW := Box.below bx_aW b437
  replace bx158 := Box.below bx158 b437
  have z440 := Below.size b437
  replace zb0 : W1.heap.size ≤ w436.heap.size := by omega
  replace za0 : w74.heap.size ≤ w436.heap.size := by omega
  have k441 : w436.cell? ⟨w.heap.size, 0, none⟩ = some ((Value.slice a_aW0 d_aW.first_.length c_aW0)) := bx_aW.2 0 (by simp)
  have k442 : w436.cell? ⟨w.heap.size, 1, none⟩ = some ((Value.slice a_aW1 d_aW.store_.heads_.length c_aW1)) := bx_aW.2 1 (by simp)
  have k443 : w436.cell? ⟨w.heap.size, 2, none⟩ = some ((Value.slice a_aW2 d_aW.store_.descs_.length c_aW2)) := bx_aW.2 2 (by simp)
  have k444 : w436.cell? ⟨w.heap.size, 3, none⟩ = some ((Value.slice a_aW3 d_aW.threads_.length c_aW3)) := bx_aW.2 3 (by simp)
  have k445 : w436.cell? ⟨w.heap.size, 4, none⟩ = some ((Value.slice a_aW4 d_aW.log_.length c_aW4)) := bx_aW.2 4 (by simp)
  have k446 : w436.cell? ⟨w92.heap.size, 0, none⟩ = some ((Value.slice a132 m133 c134)) := bx158.2 0 (by simp)
  have k447 : w436.cell? ⟨w92.heap.size, 1, none⟩ = some ((Value.slice a135 m136 c137)) := bx158.2 1 (by simp)
  have k448 : w436.cell? ⟨w92.heap.size, 2, none⟩ = some ((Value.slice a138 m139 c140)) := bx158.2 2 (by simp)
  have k449 : w436.cell? ⟨w92.heap.size, 3, none⟩ = some ((Value.slice a141 m142 c143)) := bx158.2 3 (by simp)
  have k450 : w436.cell? ⟨w92.heap.size, 4, none⟩ = some ((Value.slice a144 m145 c146)) := bx158.2 4 (by simp)
  go_wp2_with fail
  clear k441 k442 k443 k444 k445 k446 k447 k448 k449 k450
  refine (heldIntS_o _ _ _ _ hb176 (by omega) (by omega) (ownL.rds o317)).mono ?_
  rintro e w451 ⟨rfl, b452⟩
  have t453 := Below.trans t438 (Below.mono b452 zb0)
  have s454 := Below.trans s439 (Below.mono b452 za0)
  replace o281 := ownL.keep o281 (fun q hq => Below.block b452 q (hs98 q hq))
  replace hs98 := fun q hq => Nat.lt_of_lt_of_le (hs98 q hq) (Below.size b452)
  replace o282 := ownL.keep o282 (fun q hq => Below.block b452 q (hs103 q hq))
  replace hs103 := fun q hq => Nat.lt_of_lt_of_le (hs103 q hq) (Below.size b452)
  replace o283 := ownL.keep o283 (fun q hq => Below.block b452 q (hs108 q hq))
  replace hs108 := fun q hq => Nat.lt_of_lt_of_le (hs108 q hq) (Below.size b452)
  replace o284 := ownL.keep o284 (fun q hq => Below.block b452 q (hs113 q hq))
  replace hs113 := fun q hq => Nat.lt_of_lt_of_le (hs113 q hq) (Below.size b452)
  replace o285 := ownL.keep o285 (fun q hq => Below.block b452 q (hs118 q hq))
  replace hs118 := fun q hq => Nat.lt_of_lt_of_le (hs118 q hq) (Below.size b452)
  replace o317 := ownL.keep o317 (fun q hq => Below.block b452 q (hs175 q hq))
  replace hs175 := fun q hq => Nat.lt_of_lt_of_le (hs175 q hq) (Below.size b452)
  replace o416 := ownL.keep o416 (fun q hq => Below.block b452 q (hs418 q hq))
  replace hs418 := fun q hq => Nat.lt_of_lt_of_le (hs418 q hq) (Below.size b452)
  replace bx_aW := Box.below bx_aW b452
  replace bx158 := Box.below bx158 b452
  have z455 := Below.size b452
  replace zb0 : W1.heap.size ≤ w451.heap.size := by omega
  replace za0 : w74.heap.size ≤ w451.heap.size := by omega
  have k456 : w451.cell? ⟨w.heap.size, 0, none⟩ = some ((Value.slice a_aW0 d_aW.first_.length c_aW0)) := bx_aW.2 0 (by simp)
  have k457 : w451.cell? ⟨w.heap.size, 1, none⟩ = some ((Value.slice a_aW1 d_aW.store_.heads_.length c_aW1)) := bx_aW.2 1 (by simp)
  have k458 : w451.cell? ⟨w.heap.size, 2, none⟩ = some ((Value.slice a_aW2 d_aW.store_.descs_.length c_aW2)) := bx_aW.2 2 (by simp)
  have k459 : w451.cell? ⟨w.heap.size, 3, none⟩ = some ((Value.slice a_aW3 d_aW.threads_.length c_aW3)) := bx_aW.2 3 (by simp)
  have k460 : w451.cell? ⟨w.heap.size, 4, none⟩ = some ((Value.slice a_aW4 d_aW.log_.length c_aW4)) := bx_aW.2 4 (by simp)
  have k461 : w451.cell? ⟨w92.heap.size, 0, none⟩ = some ((Value.slice a132 m133 c134)) := bx158.2 0 (by simp)
  have k462 : w451.cell? ⟨w92.heap.size, 1, none⟩ = some ((Value.slice a135 m136 c137)) := bx158.2 1 (by simp)
  have k463 : w451.cell? ⟨w92.heap.size, 2, none⟩ = some ((Value.slice a138 m139 c140)) := bx158.2 2 (by simp)
  have k464 : w451.cell? ⟨w92.heap.size, 3, none⟩ = some ((Value.slice a141 m142 c143)) := bx158.2 3 (by simp)
  have k465 : w451.cell? ⟨w92.heap.size, 4, none⟩ = some ((Value.slice a144 m145 c146)) := bx158.2 4 (by simp)
  go_wp2_with fail
  clear k456 k457 k458 k459 k460 k461 k462 k463 k464 k465
  try go_wp2
  go_ret
  exact ⟨rfl, hB0.trans (Below.mono t453 hB0.size)⟩

end Go.Proofs.YtbbdchlabdilcabGreat
