/- FnExactFinishAll, walked. -/
import Derived.Test.YtambpjjfndnadaaW8a
import Derived.Test.YtambpjjfndnadaaBx
import Derived.Test.YtambpjjfndnadaaEnc4
import Derived.Test.YtambpjjfndnadaaHop
import Derived.Test.YtambpjjfndnadaaWr3
import Derived.Test.YtambpjjfndnadaaKeep
import Derived.Deep.RegionHeld3
import Derived.Deep.Cut
import Derived.StillTailTactics
namespace Go.Proofs.Ytambpjjfndnadaa
set_option maxRecDepth 100000
open Go.RowKit Go.Proofs Go.Own
set_option linter.unusedVariables false

set_option maxRecDepth 100000 in
set_option maxHeartbeats 8000000 in
theorem law_FinishAll (d_aS : StoreD) (v_aS0 v_aS1 : Value) (w : World) (h_aS0 : rdsL w v_aS0 d_aS.heads_) (h_aS1 : rdsL w v_aS1 d_aS.descs_) :
    Calls Try.prog 7 #[(.agg #[v_aS0, v_aS1])] w fun e w' => e = .returned (.bool true) ∧ Below w.heap.size w w' := by
  obtain ⟨a_aS0, c_aS0, rfl, -, -, -⟩ := rdsL_open h_aS0
  obtain ⟨a_aS1, c_aS1, rfl, -, -, -⟩ := rdsL_open h_aS1
  obtain ⟨W1, hW1⟩ : ∃ X, w.alloc (.cells #[(Value.slice a_aS0 d_aS.heads_.length c_aS0), (Value.slice a_aS1 d_aS.descs_.length c_aS1)] 25) = X := ⟨_, rfl⟩
  have hbx1 : Below w.heap.size w W1 := by rw [← hW1]; exact (Below.refl _ _).alloc (Nat.le_refl _) _
  have zw1 : W1.heap.size = w.heap.size + 1 := by rw [← hW1]; simp
  have bx_aS : Box W1 (w.heap.size) [(Value.slice a_aS0 d_aS.heads_.length c_aS0), (Value.slice a_aS1 d_aS.descs_.length c_aS1)] := by rw [← hW1]; exact Box.alloc _ _ _
  have hB0 : Below w.heap.size w W1 := hbx1
  replace h_aS0 := rdsL.below h_aS0 hB0
  replace h_aS1 := rdsL.below h_aS1 hB0
  have tt0 : Below W1.heap.size W1 W1 := Below.refl _ _
  have zb0 : W1.heap.size ≤ W1.heap.size := Nat.le_refl _
  go_enter Try.func7, Try.ntmps7
  have k1 : W1.cell? ⟨w.heap.size, 0, none⟩ = some ((Value.slice a_aS0 d_aS.heads_.length c_aS0)) := bx_aS.2 0 (by simp)
  have k2 : W1.cell? ⟨w.heap.size, 1, none⟩ = some ((Value.slice a_aS1 d_aS.descs_.length c_aS1)) := bx_aS.2 1 (by simp)
  go_wp2_with fail
  clear k1 k2 hW1
  have hl0_aS : 0 ≤ (1048576 : Int) := by omega
  refine (szStore_o d_aS (Value.slice a_aS0 d_aS.heads_.length c_aS0) (Value.slice a_aS1 d_aS.descs_.length c_aS1) _ _ (by omega) (by omega) (rdsL.below h_aS0 tt0) (rdsL.below h_aS1 tt0)).mono ?_
  rintro e w3 ⟨rfl, b4⟩
  have t5 := Below.trans tt0 (Below.mono b4 zb0)
  replace bx_aS := Box.below bx_aS b4
  have z6 := Below.size b4
  replace zb0 : W1.heap.size ≤ w3.heap.size := by omega
  by_cases big_aS : (1048576 : Int) < (szStoreD d_aS : Int)
  · rw [szR_of, if_pos big_aS]
    go_wp2
    go_ret
    exact ⟨rfl, hB0.trans (Below.mono t5 hB0.size)⟩
  rw [szR_of, if_neg big_aS]
  have k7 : w3.cell? ⟨w.heap.size, 0, none⟩ = some ((Value.slice a_aS0 d_aS.heads_.length c_aS0)) := bx_aS.2 0 (by simp)
  have k8 : w3.cell? ⟨w.heap.size, 1, none⟩ = some ((Value.slice a_aS1 d_aS.descs_.length c_aS1)) := bx_aS.2 1 (by simp)
  go_wp2_with fail
  clear k7 k8
  have hb_aS : StoreB d_aS := by show _ ≤ 1048576; have := big_aS; unfold szStoreD at *; omega
  refine (toStore_o d_aS (Value.slice a_aS0 d_aS.heads_.length c_aS0) (Value.slice a_aS1 d_aS.descs_.length c_aS1) _ (rdsL.below h_aS0 t5) (rdsL.below h_aS1 t5) hb_aS).mono ?_
  rintro e w9 ⟨u11, u16, S12, S17, rfl, o13, o18, r14, r19, dj21, b10⟩
  have t22 := Below.trans t5 (Below.mono b10 zb0)
  replace bx_aS := Box.below bx_aS b10
  have z23 := Below.size b10
  replace zb0 : W1.heap.size ≤ w9.heap.size := by omega
  obtain ⟨a24, m25, c26, rfl⟩ := ownL_shape o13
  have hs15 := fun q hq => (r14 q hq).2
  obtain ⟨a27, m28, c29, rfl⟩ := ownL_shape o18
  have hs20 := fun q hq => (r19 q hq).2
  have k30 : w9.cell? ⟨w.heap.size, 0, none⟩ = some ((Value.slice a_aS0 d_aS.heads_.length c_aS0)) := bx_aS.2 0 (by simp)
  have k31 : w9.cell? ⟨w.heap.size, 1, none⟩ = some ((Value.slice a_aS1 d_aS.descs_.length c_aS1)) := bx_aS.2 1 (by simp)
  go_wp2_with fail
  clear k30 k31
  refine (spec_FinishAllW d_aS (Value.slice a24 m25 c26) (Value.slice a27 m28 c29) _ (ownL.rds o13) (ownL.rds o18) hb_aS).mono ?_
  rintro e w32 ⟨u34, u39, S35, S40, rfl, o36, o41, r37, r42, dj45, hb44, b33⟩
  replace o36 := ownL.rds o36
  replace o41 := ownL.rds o41
  have t46 := Below.trans t22 (Below.mono b33 zb0)
  replace bx_aS := Box.below bx_aS b33
  have z47 := Below.size b33
  replace zb0 : W1.heap.size ≤ w32.heap.size := by omega
  obtain ⟨a48, m49, c50, rfl⟩ := rdsL_shape o36
  obtain ⟨a51, m52, c53, rfl⟩ := rdsL_shape o41
  have s54 : Below w32.heap.size w32 w32 := Below.refl _ _
  have za0 : w32.heap.size ≤ w32.heap.size := Nat.le_refl _
  have k55 : w32.cell? ⟨w.heap.size, 0, none⟩ = some ((Value.slice a_aS0 d_aS.heads_.length c_aS0)) := bx_aS.2 0 (by simp)
  have k56 : w32.cell? ⟨w.heap.size, 1, none⟩ = some ((Value.slice a_aS1 d_aS.descs_.length c_aS1)) := bx_aS.2 1 (by simp)
  obtain ⟨X57, hX58⟩ : ∃ X, w32.alloc (.cells #[(Value.slice a48 m49 c50), (Value.slice a51 m52 c53)] 32) = X := ⟨_, rfl⟩
  have bX59 : Below w32.heap.size w32 X57 := by rw [← hX58]; exact (Below.refl _ _).alloc (Nat.le_refl _) _
  have zX57 : X57.heap.size = w32.heap.size + 1 := by rw [← hX58]; simp
  have t60 := Below.trans t46 (Below.mono bX59 zb0)
  have s61 := Below.trans s54 (Below.mono bX59 za0)
  replace bx_aS := Box.below bx_aS bX59
  have z62 := Below.size bX59
  replace zb0 : W1.heap.size ≤ X57.heap.size := by omega
  replace za0 : w32.heap.size ≤ X57.heap.size := by omega
  have bx63 : Box X57 (w32.heap.size) [(Value.slice a48 m49 c50), (Value.slice a51 m52 c53)] := by rw [← hX58]; exact Box.alloc _ _ _
  have k64 : X57.cell? ⟨w.heap.size, 0, none⟩ = some ((Value.slice a_aS0 d_aS.heads_.length c_aS0)) := bx_aS.2 0 (by simp)
  have k65 : X57.cell? ⟨w.heap.size, 1, none⟩ = some ((Value.slice a_aS1 d_aS.descs_.length c_aS1)) := bx_aS.2 1 (by simp)
  have k66 : X57.cell? ⟨w32.heap.size, 0, none⟩ = some ((Value.slice a48 m49 c50)) := bx63.2 0 (by simp)
  have k67 : X57.cell? ⟨w32.heap.size, 1, none⟩ = some ((Value.slice a51 m52 c53)) := bx63.2 1 (by simp)
  go_wp2_with fail
  clear k55 k56 k64 k65 k66 k67 hX58
  refine (toStore_o d_aS (Value.slice a_aS0 d_aS.heads_.length c_aS0) (Value.slice a_aS1 d_aS.descs_.length c_aS1) _ (rdsL.below h_aS0 t60) (rdsL.below h_aS1 t60) hb_aS).mono ?_
  rintro e w68 ⟨u70, u75, S71, S76, rfl, o72, o77, r73, r78, dj80, b69⟩
  have t81 := Below.trans t60 (Below.mono b69 zb0)
  have s82 := Below.trans s61 (Below.mono b69 za0)
  replace bx_aS := Box.below bx_aS b69
  replace bx63 := Box.below bx63 b69
  have z83 := Below.size b69
  replace zb0 : W1.heap.size ≤ w68.heap.size := by omega
  replace za0 : w32.heap.size ≤ w68.heap.size := by omega
  obtain ⟨a84, m85, c86, rfl⟩ := ownL_shape o72
  have hs74 := fun q hq => (r73 q hq).2
  obtain ⟨a87, m88, c89, rfl⟩ := ownL_shape o77
  have hs79 := fun q hq => (r78 q hq).2
  have k90 : w68.cell? ⟨w.heap.size, 0, none⟩ = some ((Value.slice a_aS0 d_aS.heads_.length c_aS0)) := bx_aS.2 0 (by simp)
  have k91 : w68.cell? ⟨w.heap.size, 1, none⟩ = some ((Value.slice a_aS1 d_aS.descs_.length c_aS1)) := bx_aS.2 1 (by simp)
  have k92 : w68.cell? ⟨w32.heap.size, 0, none⟩ = some ((Value.slice a48 m49 c50)) := bx63.2 0 (by simp)
  have k93 : w68.cell? ⟨w32.heap.size, 1, none⟩ = some ((Value.slice a51 m52 c53)) := bx63.2 1 (by simp)
  obtain ⟨X94, hX95⟩ : ∃ X, w68.alloc (.cells #[(Value.slice a84 m85 c86), (Value.slice a87 m88 c89)] 32) = X := ⟨_, rfl⟩
  have bX96 : Below w68.heap.size w68 X94 := by rw [← hX95]; exact (Below.refl _ _).alloc (Nat.le_refl _) _
  have zX94 : X94.heap.size = w68.heap.size + 1 := by rw [← hX95]; simp
  have t97 := Below.trans t81 (Below.mono bX96 zb0)
  have s98 := Below.trans s82 (Below.mono bX96 za0)
  replace o72 := ownL.keep o72 (fun q hq => Below.block bX96 q (hs74 q hq))
  replace hs74 := fun q hq => Nat.lt_of_lt_of_le (hs74 q hq) (Below.size bX96)
  replace o77 := ownL.keep o77 (fun q hq => Below.block bX96 q (hs79 q hq))
  replace hs79 := fun q hq => Nat.lt_of_lt_of_le (hs79 q hq) (Below.size bX96)
  replace bx_aS := Box.below bx_aS bX96
  replace bx63 := Box.below bx63 bX96
  have z99 := Below.size bX96
  replace zb0 : W1.heap.size ≤ X94.heap.size := by omega
  replace za0 : w32.heap.size ≤ X94.heap.size := by omega
  have bx100 : Box X94 (w68.heap.size) [(Value.slice a84 m85 c86), (Value.slice a87 m88 c89)] := by rw [← hX95]; exact Box.alloc _ _ _
  have k101 : X94.cell? ⟨w.heap.size, 0, none⟩ = some ((Value.slice a_aS0 d_aS.heads_.length c_aS0)) := bx_aS.2 0 (by simp)
  have k102 : X94.cell? ⟨w.heap.size, 1, none⟩ = some ((Value.slice a_aS1 d_aS.descs_.length c_aS1)) := bx_aS.2 1 (by simp)
  have k103 : X94.cell? ⟨w32.heap.size, 0, none⟩ = some ((Value.slice a48 m49 c50)) := bx63.2 0 (by simp)
  have k104 : X94.cell? ⟨w32.heap.size, 1, none⟩ = some ((Value.slice a51 m52 c53)) := bx63.2 1 (by simp)
  have k105 : X94.cell? ⟨w68.heap.size, 0, none⟩ = some ((Value.slice a84 m85 c86)) := bx100.2 0 (by simp)
  have k106 : X94.cell? ⟨w68.heap.size, 1, none⟩ = some ((Value.slice a87 m88 c89)) := bx100.2 1 (by simp)
  go_wp2_with fail
  clear k90 k91 k92 k93 k101 k102 k103 k104 k105 k106 hX95
  refine (impl_FinishAllW d_aS (Value.slice a84 m85 c86) (Value.slice a87 m88 c89) _ (ownL.rds o72) (ownL.rds o77) hb_aS).mono ?_
  rintro e w107 ⟨u109, u114, S110, S115, rfl, o111, o116, r112, r117, dj120, hb119, b108⟩
  have t121 := Below.trans t97 (Below.mono b108 zb0)
  have s122 := Below.trans s98 (Below.mono b108 za0)
  replace o72 := ownL.keep o72 (fun q hq => Below.block b108 q (hs74 q hq))
  replace hs74 := fun q hq => Nat.lt_of_lt_of_le (hs74 q hq) (Below.size b108)
  replace o77 := ownL.keep o77 (fun q hq => Below.block b108 q (hs79 q hq))
  replace hs79 := fun q hq => Nat.lt_of_lt_of_le (hs79 q hq) (Below.size b108)
  replace bx_aS := Box.below bx_aS b108
  replace bx63 := Box.below bx63 b108
  replace bx100 := Box.below bx100 b108
  have z123 := Below.size b108
  replace zb0 : W1.heap.size ≤ w107.heap.size := by omega
  replace za0 : w32.heap.size ≤ w107.heap.size := by omega
  obtain ⟨a124, m125, c126, rfl⟩ := ownL_shape o111
  have hs113 := fun q hq => (r112 q hq).2
  obtain ⟨a127, m128, c129, rfl⟩ := ownL_shape o116
  have hs118 := fun q hq => (r117 q hq).2
  have k130 : w107.cell? ⟨w.heap.size, 0, none⟩ = some ((Value.slice a_aS0 d_aS.heads_.length c_aS0)) := bx_aS.2 0 (by simp)
  have k131 : w107.cell? ⟨w.heap.size, 1, none⟩ = some ((Value.slice a_aS1 d_aS.descs_.length c_aS1)) := bx_aS.2 1 (by simp)
  have k132 : w107.cell? ⟨w32.heap.size, 0, none⟩ = some ((Value.slice a48 m49 c50)) := bx63.2 0 (by simp)
  have k133 : w107.cell? ⟨w32.heap.size, 1, none⟩ = some ((Value.slice a51 m52 c53)) := bx63.2 1 (by simp)
  have k134 : w107.cell? ⟨w68.heap.size, 0, none⟩ = some ((Value.slice a84 m85 c86)) := bx100.2 0 (by simp)
  have k135 : w107.cell? ⟨w68.heap.size, 1, none⟩ = some ((Value.slice a87 m88 c89)) := bx100.2 1 (by simp)
  obtain ⟨X136, hX137⟩ : ∃ X, w107.alloc (.cells #[(Value.slice a124 m125 c126), (Value.slice a127 m128 c129)] 32) = X := ⟨_, rfl⟩
  have bX138 : Below w107.heap.size w107 X136 := by rw [← hX137]; exact (Below.refl _ _).alloc (Nat.le_refl _) _
  have zX136 : X136.heap.size = w107.heap.size + 1 := by rw [← hX137]; simp
  have t139 := Below.trans t121 (Below.mono bX138 zb0)
  have s140 := Below.trans s122 (Below.mono bX138 za0)
  replace o72 := ownL.keep o72 (fun q hq => Below.block bX138 q (hs74 q hq))
  replace hs74 := fun q hq => Nat.lt_of_lt_of_le (hs74 q hq) (Below.size bX138)
  replace o77 := ownL.keep o77 (fun q hq => Below.block bX138 q (hs79 q hq))
  replace hs79 := fun q hq => Nat.lt_of_lt_of_le (hs79 q hq) (Below.size bX138)
  replace o111 := ownL.keep o111 (fun q hq => Below.block bX138 q (hs113 q hq))
  replace hs113 := fun q hq => Nat.lt_of_lt_of_le (hs113 q hq) (Below.size bX138)
  replace o116 := ownL.keep o116 (fun q hq => Below.block bX138 q (hs118 q hq))
  replace hs118 := fun q hq => Nat.lt_of_lt_of_le (hs118 q hq) (Below.size bX138)
  replace bx_aS := Box.below bx_aS bX138
  replace bx63 := Box.below bx63 bX138
  replace bx100 := Box.below bx100 bX138
  have z141 := Below.size bX138
  replace zb0 : W1.heap.size ≤ X136.heap.size := by omega
  replace za0 : w32.heap.size ≤ X136.heap.size := by omega
  have bx142 : Box X136 (w107.heap.size) [(Value.slice a124 m125 c126), (Value.slice a127 m128 c129)] := by rw [← hX137]; exact Box.alloc _ _ _
  have k143 : X136.cell? ⟨w.heap.size, 0, none⟩ = some ((Value.slice a_aS0 d_aS.heads_.length c_aS0)) := bx_aS.2 0 (by simp)
  have k144 : X136.cell? ⟨w.heap.size, 1, none⟩ = some ((Value.slice a_aS1 d_aS.descs_.length c_aS1)) := bx_aS.2 1 (by simp)
  have k145 : X136.cell? ⟨w32.heap.size, 0, none⟩ = some ((Value.slice a48 m49 c50)) := bx63.2 0 (by simp)
  have k146 : X136.cell? ⟨w32.heap.size, 1, none⟩ = some ((Value.slice a51 m52 c53)) := bx63.2 1 (by simp)
  have k147 : X136.cell? ⟨w68.heap.size, 0, none⟩ = some ((Value.slice a84 m85 c86)) := bx100.2 0 (by simp)
  have k148 : X136.cell? ⟨w68.heap.size, 1, none⟩ = some ((Value.slice a87 m88 c89)) := bx100.2 1 (by simp)
  have k149 : X136.cell? ⟨w107.heap.size, 0, none⟩ = some ((Value.slice a124 m125 c126)) := bx142.2 0 (by simp)
  have k150 : X136.cell? ⟨w107.heap.size, 1, none⟩ = some ((Value.slice a127 m128 c129)) := bx142.2 1 (by simp)
  go_wp2_with fail
  clear k130 k131 k132 k133 k134 k135 k143 k144 k145 k146 k147 k148 k149 k150 hX137
  refine (eqStore_o _ _ _ _ _ _ (ownL.rds o111) (ownL.rds o116) (rdsL.below o36 s140) (rdsL.below o41 s140)).mono ?_
  rintro e w151 ⟨rfl, b152⟩
  have t153 := Below.trans t139 (Below.mono b152 zb0)
  have s154 := Below.trans s140 (Below.mono b152 za0)
  replace o72 := ownL.keep o72 (fun q hq => Below.block b152 q (hs74 q hq))
  replace hs74 := fun q hq => Nat.lt_of_lt_of_le (hs74 q hq) (Below.size b152)
  replace o77 := ownL.keep o77 (fun q hq => Below.block b152 q (hs79 q hq))
  replace hs79 := fun q hq => Nat.lt_of_lt_of_le (hs79 q hq) (Below.size b152)
  replace o111 := ownL.keep o111 (fun q hq => Below.block b152 q (hs113 q hq))
  replace hs113 := fun q hq => Nat.lt_of_lt_of_le (hs113 q hq) (Below.size b152)
  replace o116 := ownL.keep o116 (fun q hq => Below.block b152 q (hs118 q hq))
  replace hs118 := fun q hq => Nat.lt_of_lt_of_le (hs118 q hq) (Below.size b152)
  replace bx_aS := Box.below bx_aS b152
  replace bx63 := Box.below bx63 b152
  replace bx100 := Box.below bx100 b152
  replace bx142 := Box.below bx142 b152
  have z155 := Below.size b152
  replace zb0 : W1.heap.size ≤ w151.heap.size := by omega
  replace za0 : w32.heap.size ≤ w151.heap.size := by omega
  have k156 : w151.cell? ⟨w.heap.size, 0, none⟩ = some ((Value.slice a_aS0 d_aS.heads_.length c_aS0)) := bx_aS.2 0 (by simp)
  have k157 : w151.cell? ⟨w.heap.size, 1, none⟩ = some ((Value.slice a_aS1 d_aS.descs_.length c_aS1)) := bx_aS.2 1 (by simp)
  have k158 : w151.cell? ⟨w32.heap.size, 0, none⟩ = some ((Value.slice a48 m49 c50)) := bx63.2 0 (by simp)
  have k159 : w151.cell? ⟨w32.heap.size, 1, none⟩ = some ((Value.slice a51 m52 c53)) := bx63.2 1 (by simp)
  have k160 : w151.cell? ⟨w68.heap.size, 0, none⟩ = some ((Value.slice a84 m85 c86)) := bx100.2 0 (by simp)
  have k161 : w151.cell? ⟨w68.heap.size, 1, none⟩ = some ((Value.slice a87 m88 c89)) := bx100.2 1 (by simp)
  have k162 : w151.cell? ⟨w107.heap.size, 0, none⟩ = some ((Value.slice a124 m125 c126)) := bx142.2 0 (by simp)
  have k163 : w151.cell? ⟨w107.heap.size, 1, none⟩ = some ((Value.slice a127 m128 c129)) := bx142.2 1 (by simp)
  go_wp2_with fail
  clear k156 k157 k158 k159 k160 k161 k162 k163
  have lt179 := (bx_aS).1
  have lt180 := (bx63).1
  have lt181 := (bx100).1
  have lt182 := (bx142).1
  have k183 : w151.cell? ⟨w.heap.size, 0, none⟩ = some ((Value.slice a_aS0 d_aS.heads_.length c_aS0)) := bx_aS.2 0 (by simp)
  have k184 : w151.cell? ⟨w.heap.size, 1, none⟩ = some ((Value.slice a_aS1 d_aS.descs_.length c_aS1)) := bx_aS.2 1 (by simp)
  have k185 : w151.cell? ⟨w32.heap.size, 0, none⟩ = some ((Value.slice a48 m49 c50)) := bx63.2 0 (by simp)
  have k186 : w151.cell? ⟨w32.heap.size, 1, none⟩ = some ((Value.slice a51 m52 c53)) := bx63.2 1 (by simp)
  have k187 : w151.cell? ⟨w68.heap.size, 0, none⟩ = some ((Value.slice a84 m85 c86)) := bx100.2 0 (by simp)
  have k188 : w151.cell? ⟨w68.heap.size, 1, none⟩ = some ((Value.slice a87 m88 c89)) := bx100.2 1 (by simp)
  have k189 : w151.cell? ⟨w107.heap.size, 0, none⟩ = some ((Value.slice a124 m125 c126)) := bx142.2 0 (by simp)
  have k190 : w151.cell? ⟨w107.heap.size, 1, none⟩ = some ((Value.slice a127 m128 c129)) := bx142.2 1 (by simp)
  go_region_held3 (fun w' => Below w151.heap.size w151 w' ∧ w151.heap.size ≤ w'.heap.size ∧ w'.cell? ⟨w.heap.size, 0, none⟩ = some ((Value.slice a_aS0 d_aS.heads_.length c_aS0)) ∧ w'.cell? ⟨w.heap.size, 1, none⟩ = some ((Value.slice a_aS1 d_aS.descs_.length c_aS1)) ∧ w'.cell? ⟨w32.heap.size, 0, none⟩ = some ((Value.slice a48 m49 c50)) ∧ w'.cell? ⟨w32.heap.size, 1, none⟩ = some ((Value.slice a51 m52 c53)) ∧ w'.cell? ⟨w68.heap.size, 0, none⟩ = some ((Value.slice a84 m85 c86)) ∧ w'.cell? ⟨w68.heap.size, 1, none⟩ = some ((Value.slice a87 m88 c89)) ∧ w'.cell? ⟨w107.heap.size, 0, none⟩ = some ((Value.slice a124 m125 c126)) ∧ w'.cell? ⟨w107.heap.size, 1, none⟩ = some ((Value.slice a127 m128 c129)))
    (first | exact ⟨(Below.refl _ _).drew, Nat.le_refl _, k183, k184, k185, k186, k187, k188, k189, k190⟩ | exact keepBox8 (by omega) ‹_› ‹_›)
    (first
    | (go_at_call 12; refine (toStore_o d_aS (Value.slice a_aS0 d_aS.heads_.length c_aS0) (Value.slice a_aS1 d_aS.descs_.length c_aS1) _ (rdsL.below (rdsL.below h_aS0 t153) ((Below.refl _ _).drew : Below w151.heap.size w151 w151.drew)) (rdsL.below (rdsL.below h_aS1 t153) ((Below.refl _ _).drew : Below w151.heap.size w151 w151.drew)) hb_aS).mono ?_; rintro e w164 ⟨u166, u171, S167, S172, rfl, o168, o173, r169, r174, dj176, b165⟩; have hq_w164 : Below w151.heap.size w151 w164 := Below.trans ((Below.refl _ _).drew : Below w151.heap.size w151 w151.drew) (Below.mono b165 (Below.size ((Below.refl _ _).drew : Below w151.heap.size w151 w151.drew))))
    | (go_at_call 15; refine (eqStore_o _ _ _ _ _ _ (rdsL.below (rdsL.below (ownL.rds o72) ((Below.refl _ _).drew : Below w151.heap.size w151 w151.drew)) b165) (rdsL.below (rdsL.below (ownL.rds o77) ((Below.refl _ _).drew : Below w151.heap.size w151 w151.drew)) b165) (ownL.rds o168) (ownL.rds o173)).mono ?_; rintro e w177 ⟨rfl, b178⟩))
  clear k183 k184 k185 k186 k187 k188 k189 k190
  have d191 : Below w151.heap.size w151 w151.drew := (Below.refl _ _).drew
  have t192 := Below.trans t153 (Below.mono d191 zb0)
  have s193 := Below.trans s154 (Below.mono d191 za0)
  replace o72 := ownL.keep o72 (fun q hq => Below.block d191 q (hs74 q hq))
  replace hs74 := fun q hq => Nat.lt_of_lt_of_le (hs74 q hq) (Below.size d191)
  replace o77 := ownL.keep o77 (fun q hq => Below.block d191 q (hs79 q hq))
  replace hs79 := fun q hq => Nat.lt_of_lt_of_le (hs79 q hq) (Below.size d191)
  replace o111 := ownL.keep o111 (fun q hq => Below.block d191 q (hs113 q hq))
  replace hs113 := fun q hq => Nat.lt_of_lt_of_le (hs113 q hq) (Below.size d191)
  replace o116 := ownL.keep o116 (fun q hq => Below.block d191 q (hs118 q hq))
  replace hs118 := fun q hq => Nat.lt_of_lt_of_le (hs118 q hq) (Below.size d191)
  replace bx_aS := Box.below bx_aS d191
  replace bx63 := Box.below bx63 d191
  replace bx100 := Box.below bx100 d191
  replace bx142 := Box.below bx142 d191
  have z194 := Below.size d191
  replace zb0 : W1.heap.size ≤ w151.drew.heap.size := by omega
  replace za0 : w32.heap.size ≤ w151.drew.heap.size := by omega
  have t195 := Below.trans t192 (Below.mono b165 zb0)
  have s196 := Below.trans s193 (Below.mono b165 za0)
  replace o72 := ownL.keep o72 (fun q hq => Below.block b165 q (hs74 q hq))
  replace hs74 := fun q hq => Nat.lt_of_lt_of_le (hs74 q hq) (Below.size b165)
  replace o77 := ownL.keep o77 (fun q hq => Below.block b165 q (hs79 q hq))
  replace hs79 := fun q hq => Nat.lt_of_lt_of_le (hs79 q hq) (Below.size b165)
  replace o111 := ownL.keep o111 (fun q hq => Below.block b165 q (hs113 q hq))
  replace hs113 := fun q hq => Nat.lt_of_lt_of_le (hs113 q hq) (Below.size b165)
  replace o116 := ownL.keep o116 (fun q hq => Below.block b165 q (hs118 q hq))
  replace hs118 := fun q hq => Nat.lt_of_lt_of_le (hs118 q hq) (Below.size b165)
  replace bx_aS := Box.below bx_aS b165
  replace bx63 := Box.below bx63 b165
  replace bx100 := Box.below bx100 b165
  replace bx142 := Box.below bx142 b165
  have z197 := Below.size b165
  replace zb0 : W1.heap.size ≤ w164.heap.size := by omega
  replace za0 : w32.heap.size ≤ w164.heap.size := by omega
  have t198 := Below.trans t195 (Below.mono b178 zb0)
  have s199 := Below.trans s196 (Below.mono b178 za0)
  replace o72 := ownL.keep o72 (fun q hq => Below.block b178 q (hs74 q hq))
  replace hs74 := fun q hq => Nat.lt_of_lt_of_le (hs74 q hq) (Below.size b178)
  replace o77 := ownL.keep o77 (fun q hq => Below.block b178 q (hs79 q hq))
  replace hs79 := fun q hq => Nat.lt_of_lt_of_le (hs79 q hq) (Below.size b178)
  replace o111 := ownL.keep o111 (fun q hq => Below.block b178 q (hs113 q hq))
  replace hs113 := fun q hq => Nat.lt_of_lt_of_le (hs113 q hq) (Below.size b178)
  replace o116 := ownL.keep o116 (fun q hq => Below.block b178 q (hs118 q hq))
  replace hs118 := fun q hq => Nat.lt_of_lt_of_le (hs118 q hq) (Below.size b178)
  replace bx_aS := Box.below bx_aS b178
  replace bx63 := Box.below bx63 b178
  replace bx100 := Box.below bx100 b178
  replace bx142 := Box.below bx142 b178
  have z200 := Below.size b178
  replace zb0 : W1.heap.size ≤ w177.heap.size := by omega
  replace za0 : w32.heap.size ≤ w177.heap.size := by omega
  have k201 : w177.cell? ⟨w.heap.size, 0, none⟩ = some ((Value.slice a_aS0 d_aS.heads_.length c_aS0)) := bx_aS.2 0 (by simp)
  have k202 : w177.cell? ⟨w.heap.size, 1, none⟩ = some ((Value.slice a_aS1 d_aS.descs_.length c_aS1)) := bx_aS.2 1 (by simp)
  have k203 : w177.cell? ⟨w32.heap.size, 0, none⟩ = some ((Value.slice a48 m49 c50)) := bx63.2 0 (by simp)
  have k204 : w177.cell? ⟨w32.heap.size, 1, none⟩ = some ((Value.slice a51 m52 c53)) := bx63.2 1 (by simp)
  have k205 : w177.cell? ⟨w68.heap.size, 0, none⟩ = some ((Value.slice a84 m85 c86)) := bx100.2 0 (by simp)
  have k206 : w177.cell? ⟨w68.heap.size, 1, none⟩ = some ((Value.slice a87 m88 c89)) := bx100.2 1 (by simp)
  have k207 : w177.cell? ⟨w107.heap.size, 0, none⟩ = some ((Value.slice a124 m125 c126)) := bx142.2 0 (by simp)
  have k208 : w177.cell? ⟨w107.heap.size, 1, none⟩ = some ((Value.slice a127 m128 c129)) := bx142.2 1 (by simp)
  go_wp2_with fail
  clear k201 k202 k203 k204 k205 k206 k207 k208
  have le213 := cntS_le hb_aS
  refine (markStore_o S71 S76 _ _ _ _ _ hs74 hs79 dj80 hb_aS (by omega) (by omega) o72 o77).mono ?_
  rintro e w209 ⟨rfl, o211, o212, C210⟩
  have t214 := below_chg t198 C210 zb0 (by intro q hx; rcases hx with hx | hx; (have y := r73 q hx; have y1 := y.1; have y2 := y.2; omega); (have y := r78 q hx; have y1 := y.1; have y2 := y.2; omega))
  have s215 := below_chg s199 C210 za0 (by intro q hx; rcases hx with hx | hx; (have y := r73 q hx; have y1 := y.1; have y2 := y.2; omega); (have y := r78 q hx; have y1 := y.1; have y2 := y.2; omega))
  replace hs74 := fun q hq => Nat.lt_of_lt_of_le (hs74 q hq) (ChgS.size C210)
  replace hs79 := fun q hq => Nat.lt_of_lt_of_le (hs79 q hq) (ChgS.size C210)
  replace o111 := ownL.keep o111 (fun q hq => ChgS.block C210 q (hs113 q hq) (by intro hx; have x0 := r112 q hq; have x1 := x0.1; have x2 := x0.2; rcases hx with hx | hx; (have y := r73 q hx; have y1 := y.1; have y2 := y.2; omega); (have y := r78 q hx; have y1 := y.1; have y2 := y.2; omega)))
  replace hs113 := fun q hq => Nat.lt_of_lt_of_le (hs113 q hq) (ChgS.size C210)
  replace o116 := ownL.keep o116 (fun q hq => ChgS.block C210 q (hs118 q hq) (by intro hx; have x0 := r117 q hq; have x1 := x0.1; have x2 := x0.2; rcases hx with hx | hx; (have y := r73 q hx; have y1 := y.1; have y2 := y.2; omega); (have y := r78 q hx; have y1 := y.1; have y2 := y.2; omega)))
  replace hs118 := fun q hq => Nat.lt_of_lt_of_le (hs118 q hq) (ChgS.size C210)
  replace bx_aS := Box.chg bx_aS C210 (by intro hx; rcases hx with hx | hx; (have y := r73 _ hx; have y1 := y.1; have y2 := y.2; omega); (have y := r78 _ hx; have y1 := y.1; have y2 := y.2; omega))
  replace bx63 := Box.chg bx63 C210 (by intro hx; rcases hx with hx | hx; (have y := r73 _ hx; have y1 := y.1; have y2 := y.2; omega); (have y := r78 _ hx; have y1 := y.1; have y2 := y.2; omega))
  replace bx100 := Box.chg bx100 C210 (by intro hx; rcases hx with hx | hx; (have y := r73 _ hx; have y1 := y.1; have y2 := y.2; omega); (have y := r78 _ hx; have y1 := y.1; have y2 := y.2; omega))
  replace bx142 := Box.chg bx142 C210 (by intro hx; rcases hx with hx | hx; (have y := r73 _ hx; have y1 := y.1; have y2 := y.2; omega); (have y := r78 _ hx; have y1 := y.1; have y2 := y.2; omega))
  have z216 := ChgS.size C210
  replace zb0 : W1.heap.size ≤ w209.heap.size := by omega
  replace za0 : w32.heap.size ≤ w209.heap.size := by omega
  have k217 : w209.cell? ⟨w.heap.size, 0, none⟩ = some ((Value.slice a_aS0 d_aS.heads_.length c_aS0)) := bx_aS.2 0 (by simp)
  have k218 : w209.cell? ⟨w.heap.size, 1, none⟩ = some ((Value.slice a_aS1 d_aS.descs_.length c_aS1)) := bx_aS.2 1 (by simp)
  have k219 : w209.cell? ⟨w32.heap.size, 0, none⟩ = some ((Value.slice a48 m49 c50)) := bx63.2 0 (by simp)
  have k220 : w209.cell? ⟨w32.heap.size, 1, none⟩ = some ((Value.slice a51 m52 c53)) := bx63.2 1 (by simp)
  have k221 : w209.cell? ⟨w68.heap.size, 0, none⟩ = some ((Value.slice a84 m85 c86)) := bx100.2 0 (by simp)
  have k222 : w209.cell? ⟨w68.heap.size, 1, none⟩ = some ((Value.slice a87 m88 c89)) := bx100.2 1 (by simp)
  have k223 : w209.cell? ⟨w107.heap.size, 0, none⟩ = some ((Value.slice a124 m125 c126)) := bx142.2 0 (by simp)
  have k224 : w209.cell? ⟨w107.heap.size, 1, none⟩ = some ((Value.slice a127 m128 c129)) := bx142.2 1 (by simp)
  go_wp2_with fail
  clear k217 k218 k219 k220 k221 k222 k223 k224
  refine (eqStore_o _ _ _ _ _ _ (ownL.rds o111) (ownL.rds o116) (rdsL.below o36 s215) (rdsL.below o41 s215)).mono ?_
  rintro e w225 ⟨rfl, b226⟩
  have t227 := Below.trans t214 (Below.mono b226 zb0)
  have s228 := Below.trans s215 (Below.mono b226 za0)
  replace o211 := ownL.keep o211 (fun q hq => Below.block b226 q (hs74 q hq))
  replace hs74 := fun q hq => Nat.lt_of_lt_of_le (hs74 q hq) (Below.size b226)
  replace o212 := ownL.keep o212 (fun q hq => Below.block b226 q (hs79 q hq))
  replace hs79 := fun q hq => Nat.lt_of_lt_of_le (hs79 q hq) (Below.size b226)
  replace o111 := ownL.keep o111 (fun q hq => Below.block b226 q (hs113 q hq))
  replace hs113 := fun q hq => Nat.lt_of_lt_of_le (hs113 q hq) (Below.size b226)
  replace o116 := ownL.keep o116 (fun q hq => Below.block b226 q (hs118 q hq))
  replace hs118 := fun q hq => Nat.lt_of_lt_of_le (hs118 q hq) (Below.size b226)
  replace bx_aS := Box.below bx_aS b226
  replace bx63 := Box.below bx63 b226
  replace bx100 := Box.below bx100 b226
  replace bx142 := Box.below bx142 b226
  have z229 := Below.size b226
  replace zb0 : W1.heap.size ≤ w225.heap.size := by omega
  replace za0 : w32.heap.size ≤ w225.heap.size := by omega
  have k230 : w225.cell? ⟨w.heap.size, 0, none⟩ = some ((Value.slice a_aS0 d_aS.heads_.length c_aS0)) := bx_aS.2 0 (by simp)
  have k231 : w225.cell? ⟨w.heap.size, 1, none⟩ = some ((Value.slice a_aS1 d_aS.descs_.length c_aS1)) := bx_aS.2 1 (by simp)
  have k232 : w225.cell? ⟨w32.heap.size, 0, none⟩ = some ((Value.slice a48 m49 c50)) := bx63.2 0 (by simp)
  have k233 : w225.cell? ⟨w32.heap.size, 1, none⟩ = some ((Value.slice a51 m52 c53)) := bx63.2 1 (by simp)
  have k234 : w225.cell? ⟨w68.heap.size, 0, none⟩ = some ((Value.slice a84 m85 c86)) := bx100.2 0 (by simp)
  have k235 : w225.cell? ⟨w68.heap.size, 1, none⟩ = some ((Value.slice a87 m88 c89)) := bx100.2 1 (by simp)
  have k236 : w225.cell? ⟨w107.heap.size, 0, none⟩ = some ((Value.slice a124 m125 c126)) := bx142.2 0 (by simp)
  have k237 : w225.cell? ⟨w107.heap.size, 1, none⟩ = some ((Value.slice a127 m128 c129)) := bx142.2 1 (by simp)
  go_wp2_with fail
  clear k230 k231 k232 k233 k234 k235 k236 k237
  have le242 := cntS_le hb119
  refine (markStore_o S110 S115 _ _ _ _ _ hs113 hs118 dj120 hb119 (by omega) (by omega) o111 o116).mono ?_
  rintro e w238 ⟨rfl, o240, o241, C239⟩
  have t243 := below_chg t227 C239 zb0 (by intro q hx; rcases hx with hx | hx; (have y := r112 q hx; have y1 := y.1; have y2 := y.2; omega); (have y := r117 q hx; have y1 := y.1; have y2 := y.2; omega))
  have s244 := below_chg s228 C239 za0 (by intro q hx; rcases hx with hx | hx; (have y := r112 q hx; have y1 := y.1; have y2 := y.2; omega); (have y := r117 q hx; have y1 := y.1; have y2 := y.2; omega))
  replace o211 := ownL.keep o211 (fun q hq => ChgS.block C239 q (hs74 q hq) (by intro hx; have x0 := r73 q hq; have x1 := x0.1; have x2 := x0.2; rcases hx with hx | hx; (have y := r112 q hx; have y1 := y.1; have y2 := y.2; omega); (have y := r117 q hx; have y1 := y.1; have y2 := y.2; omega)))
  replace hs74 := fun q hq => Nat.lt_of_lt_of_le (hs74 q hq) (ChgS.size C239)
  replace o212 := ownL.keep o212 (fun q hq => ChgS.block C239 q (hs79 q hq) (by intro hx; have x0 := r78 q hq; have x1 := x0.1; have x2 := x0.2; rcases hx with hx | hx; (have y := r112 q hx; have y1 := y.1; have y2 := y.2; omega); (have y := r117 q hx; have y1 := y.1; have y2 := y.2; omega)))
  replace hs79 := fun q hq => Nat.lt_of_lt_of_le (hs79 q hq) (ChgS.size C239)
  replace hs113 := fun q hq => Nat.lt_of_lt_of_le (hs113 q hq) (ChgS.size C239)
  replace hs118 := fun q hq => Nat.lt_of_lt_of_le (hs118 q hq) (ChgS.size C239)
  replace bx_aS := Box.chg bx_aS C239 (by intro hx; rcases hx with hx | hx; (have y := r112 _ hx; have y1 := y.1; have y2 := y.2; omega); (have y := r117 _ hx; have y1 := y.1; have y2 := y.2; omega))
  replace bx63 := Box.chg bx63 C239 (by intro hx; rcases hx with hx | hx; (have y := r112 _ hx; have y1 := y.1; have y2 := y.2; omega); (have y := r117 _ hx; have y1 := y.1; have y2 := y.2; omega))
  replace bx100 := Box.chg bx100 C239 (by intro hx; rcases hx with hx | hx; (have y := r112 _ hx; have y1 := y.1; have y2 := y.2; omega); (have y := r117 _ hx; have y1 := y.1; have y2 := y.2; omega))
  replace bx142 := Box.chg bx142 C239 (by intro hx; rcases hx with hx | hx; (have y := r112 _ hx; have y1 := y.1; have y2 := y.2; omega); (have y := r117 _ hx; have y1 := y.1; have y2 := y.2; omega))
  have z245 := ChgS.size C239
  replace zb0 : W1.heap.size ≤ w238.heap.size := by omega
  replace za0 : w32.heap.size ≤ w238.heap.size := by omega
  have k246 : w238.cell? ⟨w.heap.size, 0, none⟩ = some ((Value.slice a_aS0 d_aS.heads_.length c_aS0)) := bx_aS.2 0 (by simp)
  have k247 : w238.cell? ⟨w.heap.size, 1, none⟩ = some ((Value.slice a_aS1 d_aS.descs_.length c_aS1)) := bx_aS.2 1 (by simp)
  have k248 : w238.cell? ⟨w32.heap.size, 0, none⟩ = some ((Value.slice a48 m49 c50)) := bx63.2 0 (by simp)
  have k249 : w238.cell? ⟨w32.heap.size, 1, none⟩ = some ((Value.slice a51 m52 c53)) := bx63.2 1 (by simp)
  have k250 : w238.cell? ⟨w68.heap.size, 0, none⟩ = some ((Value.slice a84 m85 c86)) := bx100.2 0 (by simp)
  have k251 : w238.cell? ⟨w68.heap.size, 1, none⟩ = some ((Value.slice a87 m88 c89)) := bx100.2 1 (by simp)
  have k252 : w238.cell? ⟨w107.heap.size, 0, none⟩ = some ((Value.slice a124 m125 c126)) := bx142.2 0 (by simp)
  have k253 : w238.cell? ⟨w107.heap.size, 1, none⟩ = some ((Value.slice a127 m128 c129)) := bx142.2 1 (by simp)
  go_wp2_with fail
  clear k246 k247 k248 k249 k250 k251 k252 k253
  refine (heldStore_o _ _ _ _ _ hb119 (by omega) (by omega) (ownL.rds o240) (ownL.rds o241)).mono ?_
  rintro e w254 ⟨rfl, b255⟩
  have t256 := Below.trans t243 (Below.mono b255 zb0)
  have s257 := Below.trans s244 (Below.mono b255 za0)
  replace o211 := ownL.keep o211 (fun q hq => Below.block b255 q (hs74 q hq))
  replace hs74 := fun q hq => Nat.lt_of_lt_of_le (hs74 q hq) (Below.size b255)
  replace o212 := ownL.keep o212 (fun q hq => Below.block b255 q (hs79 q hq))
  replace hs79 := fun q hq => Nat.lt_of_lt_of_le (hs79 q hq) (Below.size b255)
  replace o240 := ownL.keep o240 (fun q hq => Below.block b255 q (hs113 q hq))
  replace hs113 := fun q hq => Nat.lt_of_lt_of_le (hs113 q hq) (Below.size b255)
  replace o241 := ownL.keep o241 (fun q hq => Below.block b255 q (hs118 q hq))
  replace hs118 := fun q hq => Nat.lt_of_lt_of_le (hs118 q hq) (Below.size b255)
  replace bx_aS := Box.below bx_aS b255
  replace bx63 := Box.below bx63 b255
  replace bx100 := Box.below bx100 b255
  replace bx142 := Box.below bx142 b255
  have z258 := Below.size b255
  replace zb0 : W1.heap.size ≤ w254.heap.size := by omega
  replace za0 : w32.heap.size ≤ w254.heap.size := by omega
  have k259 : w254.cell? ⟨w.heap.size, 0, none⟩ = some ((Value.slice a_aS0 d_aS.heads_.length c_aS0)) := bx_aS.2 0 (by simp)
  have k260 : w254.cell? ⟨w.heap.size, 1, none⟩ = some ((Value.slice a_aS1 d_aS.descs_.length c_aS1)) := bx_aS.2 1 (by simp)
  have k261 : w254.cell? ⟨w32.heap.size, 0, none⟩ = some ((Value.slice a48 m49 c50)) := bx63.2 0 (by simp)
  have k262 : w254.cell? ⟨w32.heap.size, 1, none⟩ = some ((Value.slice a51 m52 c53)) := bx63.2 1 (by simp)
  have k263 : w254.cell? ⟨w68.heap.size, 0, none⟩ = some ((Value.slice a84 m85 c86)) := bx100.2 0 (by simp)
  have k264 : w254.cell? ⟨w68.heap.size, 1, none⟩ = some ((Value.slice a87 m88 c89)) := bx100.2 1 (by simp)
  have k265 : w254.cell? ⟨w107.heap.size, 0, none⟩ = some ((Value.slice a124 m125 c126)) := bx142.2 0 (by simp)
  have k266 : w254.cell? ⟨w107.heap.size, 1, none⟩ = some ((Value.slice a127 m128 c129)) := bx142.2 1 (by simp)
  go_wp2_with fail
  clear k259 k260 k261 k262 k263 k264 k265 k266
  refine (toStore_o d_aS (Value.slice a_aS0 d_aS.heads_.length c_aS0) (Value.slice a_aS1 d_aS.descs_.length c_aS1) _ (rdsL.below h_aS0 t256) (rdsL.below h_aS1 t256) hb_aS).mono ?_
  rintro e w267 ⟨u269, u274, S270, S275, rfl, o271, o276, r272, r277, dj279, b268⟩
  have t280 := Below.trans t256 (Below.mono b268 zb0)
  have s281 := Below.trans s257 (Below.mono b268 za0)
  replace o211 := ownL.keep o211 (fun q hq => Below.block b268 q (hs74 q hq))
  replace hs74 := fun q hq => Nat.lt_of_lt_of_le (hs74 q hq) (Below.size b268)
  replace o212 := ownL.keep o212 (fun q hq => Below.block b268 q (hs79 q hq))
  replace hs79 := fun q hq => Nat.lt_of_lt_of_le (hs79 q hq) (Below.size b268)
  replace o240 := ownL.keep o240 (fun q hq => Below.block b268 q (hs113 q hq))
  replace hs113 := fun q hq => Nat.lt_of_lt_of_le (hs113 q hq) (Below.size b268)
  replace o241 := ownL.keep o241 (fun q hq => Below.block b268 q (hs118 q hq))
  replace hs118 := fun q hq => Nat.lt_of_lt_of_le (hs118 q hq) (Below.size b268)
  replace bx_aS := Box.below bx_aS b268
  replace bx63 := Box.below bx63 b268
  replace bx100 := Box.below bx100 b268
  replace bx142 := Box.below bx142 b268
  have z282 := Below.size b268
  replace zb0 : W1.heap.size ≤ w267.heap.size := by omega
  replace za0 : w32.heap.size ≤ w267.heap.size := by omega
  obtain ⟨a283, m284, c285, rfl⟩ := ownL_shape o271
  have hs273 := fun q hq => (r272 q hq).2
  obtain ⟨a286, m287, c288, rfl⟩ := ownL_shape o276
  have hs278 := fun q hq => (r277 q hq).2
  have k289 : w267.cell? ⟨w.heap.size, 0, none⟩ = some ((Value.slice a_aS0 d_aS.heads_.length c_aS0)) := bx_aS.2 0 (by simp)
  have k290 : w267.cell? ⟨w.heap.size, 1, none⟩ = some ((Value.slice a_aS1 d_aS.descs_.length c_aS1)) := bx_aS.2 1 (by simp)
  have k291 : w267.cell? ⟨w32.heap.size, 0, none⟩ = some ((Value.slice a48 m49 c50)) := bx63.2 0 (by simp)
  have k292 : w267.cell? ⟨w32.heap.size, 1, none⟩ = some ((Value.slice a51 m52 c53)) := bx63.2 1 (by simp)
  have k293 : w267.cell? ⟨w68.heap.size, 0, none⟩ = some ((Value.slice a84 m85 c86)) := bx100.2 0 (by simp)
  have k294 : w267.cell? ⟨w68.heap.size, 1, none⟩ = some ((Value.slice a87 m88 c89)) := bx100.2 1 (by simp)
  have k295 : w267.cell? ⟨w107.heap.size, 0, none⟩ = some ((Value.slice a124 m125 c126)) := bx142.2 0 (by simp)
  have k296 : w267.cell? ⟨w107.heap.size, 1, none⟩ = some ((Value.slice a127 m128 c129)) := bx142.2 1 (by simp)
  go_wp2_with fail
  clear k289 k290 k291 k292 k293 k294 k295 k296
  refine (impl_FinishAllW d_aS (Value.slice a283 m284 c285) (Value.slice a286 m287 c288) _ (ownL.rds o271) (ownL.rds o276) hb_aS).mono ?_
  rintro e w297 ⟨u299, u304, S300, S305, rfl, o301, o306, r302, r307, dj310, hb309, b298⟩
  have t311 := Below.trans t280 (Below.mono b298 zb0)
  have s312 := Below.trans s281 (Below.mono b298 za0)
  replace o211 := ownL.keep o211 (fun q hq => Below.block b298 q (hs74 q hq))
  replace hs74 := fun q hq => Nat.lt_of_lt_of_le (hs74 q hq) (Below.size b298)
  replace o212 := ownL.keep o212 (fun q hq => Below.block b298 q (hs79 q hq))
  replace hs79 := fun q hq => Nat.lt_of_lt_of_le (hs79 q hq) (Below.size b298)
  replace o240 := ownL.keep o240 (fun q hq => Below.block b298 q (hs113 q hq))
  replace hs113 := fun q hq => Nat.lt_of_lt_of_le (hs113 q hq) (Below.size b298)
  replace o241 := ownL.keep o241 (fun q hq => Below.block b298 q (hs118 q hq))
  replace hs118 := fun q hq => Nat.lt_of_lt_of_le (hs118 q hq) (Below.size b298)
  replace bx_aS := Box.below bx_aS b298
  replace bx63 := Box.below bx63 b298
  replace bx100 := Box.below bx100 b298
  replace bx142 := Box.below bx142 b298
  have z313 := Below.size b298
  replace zb0 : W1.heap.size ≤ w297.heap.size := by omega
  replace za0 : w32.heap.size ≤ w297.heap.size := by omega
  obtain ⟨a314, m315, c316, rfl⟩ := ownL_shape o301
  have hs303 := fun q hq => (r302 q hq).2
  obtain ⟨a317, m318, c319, rfl⟩ := ownL_shape o306
  have hs308 := fun q hq => (r307 q hq).2
  have k320 : w297.cell? ⟨w.heap.size, 0, none⟩ = some ((Value.slice a_aS0 d_aS.heads_.length c_aS0)) := bx_aS.2 0 (by simp)
  have k321 : w297.cell? ⟨w.heap.size, 1, none⟩ = some ((Value.slice a_aS1 d_aS.descs_.length c_aS1)) := bx_aS.2 1 (by simp)
  have k322 : w297.cell? ⟨w32.heap.size, 0, none⟩ = some ((Value.slice a48 m49 c50)) := bx63.2 0 (by simp)
  have k323 : w297.cell? ⟨w32.heap.size, 1, none⟩ = some ((Value.slice a51 m52 c53)) := bx63.2 1 (by simp)
  have k324 : w297.cell? ⟨w68.heap.size, 0, none⟩ = some ((Value.slice a84 m85 c86)) := bx100.2 0 (by simp)
  have k325 : w297.cell? ⟨w68.heap.size, 1, none⟩ = some ((Value.slice a87 m88 c89)) := bx100.2 1 (by simp)
  have k326 : w297.cell? ⟨w107.heap.size, 0, none⟩ = some ((Value.slice a124 m125 c126)) := bx142.2 0 (by simp)
  have k327 : w297.cell? ⟨w107.heap.size, 1, none⟩ = some ((Value.slice a127 m128 c129)) := bx142.2 1 (by simp)
  obtain ⟨X328, hX329⟩ : ∃ X, w297.alloc (.cells #[(Value.slice a314 m315 c316), (Value.slice a317 m318 c319)] 32) = X := ⟨_, rfl⟩
  have bX330 : Below w297.heap.size w297 X328 := by rw [← hX329]; exact (Below.refl _ _).alloc (Nat.le_refl _) _
  have zX328 : X328.heap.size = w297.heap.size + 1 := by rw [← hX329]; simp
  have t331 := Below.trans t311 (Below.mono bX330 zb0)
  have s332 := Below.trans s312 (Below.mono bX330 za0)
  replace o211 := ownL.keep o211 (fun q hq => Below.block bX330 q (hs74 q hq))
  replace hs74 := fun q hq => Nat.lt_of_lt_of_le (hs74 q hq) (Below.size bX330)
  replace o212 := ownL.keep o212 (fun q hq => Below.block bX330 q (hs79 q hq))
  replace hs79 := fun q hq => Nat.lt_of_lt_of_le (hs79 q hq) (Below.size bX330)
  replace o240 := ownL.keep o240 (fun q hq => Below.block bX330 q (hs113 q hq))
  replace hs113 := fun q hq => Nat.lt_of_lt_of_le (hs113 q hq) (Below.size bX330)
  replace o241 := ownL.keep o241 (fun q hq => Below.block bX330 q (hs118 q hq))
  replace hs118 := fun q hq => Nat.lt_of_lt_of_le (hs118 q hq) (Below.size bX330)
  replace o301 := ownL.keep o301 (fun q hq => Below.block bX330 q (hs303 q hq))
  replace hs303 := fun q hq => Nat.lt_of_lt_of_le (hs303 q hq) (Below.size bX330)
  replace o306 := ownL.keep o306 (fun q hq => Below.block bX330 q (hs308 q hq))
  replace hs308 := fun q hq => Nat.lt_of_lt_of_le (hs308 q hq) (Below.size bX330)
  replace bx_aS := Box.below bx_aS bX330
  replace bx63 := Box.below bx63 bX330
  replace bx100 := Box.below bx100 bX330
  replace bx142 := Box.below bx142 bX330
  have z333 := Below.size bX330
  replace zb0 : W1.heap.size ≤ X328.heap.size := by omega
  replace za0 : w32.heap.size ≤ X328.heap.size := by omega
  have bx334 : Box X328 (w297.heap.size) [(Value.slice a314 m315 c316), (Value.slice a317 m318 c319)] := by rw [← hX329]; exact Box.alloc _ _ _
  have k335 : X328.cell? ⟨w.heap.size, 0, none⟩ = some ((Value.slice a_aS0 d_aS.heads_.length c_aS0)) := bx_aS.2 0 (by simp)
  have k336 : X328.cell? ⟨w.heap.size, 1, none⟩ = some ((Value.slice a_aS1 d_aS.descs_.length c_aS1)) := bx_aS.2 1 (by simp)
  have k337 : X328.cell? ⟨w32.heap.size, 0, none⟩ = some ((Value.slice a48 m49 c50)) := bx63.2 0 (by simp)
  have k338 : X328.cell? ⟨w32.heap.size, 1, none⟩ = some ((Value.slice a51 m52 c53)) := bx63.2 1 (by simp)
  have k339 : X328.cell? ⟨w68.heap.size, 0, none⟩ = some ((Value.slice a84 m85 c86)) := bx100.2 0 (by simp)
  have k340 : X328.cell? ⟨w68.heap.size, 1, none⟩ = some ((Value.slice a87 m88 c89)) := bx100.2 1 (by simp)
  have k341 : X328.cell? ⟨w107.heap.size, 0, none⟩ = some ((Value.slice a124 m125 c126)) := bx142.2 0 (by simp)
  have k342 : X328.cell? ⟨w107.heap.size, 1, none⟩ = some ((Value.slice a127 m128 c129)) := bx142.2 1 (by simp)
  have k343 : X328.cell? ⟨w297.heap.size, 0, none⟩ = some ((Value.slice a314 m315 c316)) := bx334.2 0 (by simp)
  have k344 : X328.cell? ⟨w297.heap.size, 1, none⟩ = some ((Value.slice a317 m318 c319)) := bx334.2 1 (by simp)
  go_wp2_with fail
  clear k320 k321 k322 k323 k324 k325 k326 k327 k335 k336 k337 k338 k339 k340 k341 k342 k343 k344 hX329
  refine (eqStore_o _ _ _ _ _ _ (ownL.rds o301) (ownL.rds o306) (rdsL.below o36 s332) (rdsL.below o41 s332)).mono ?_
  rintro e w345 ⟨rfl, b346⟩
  have t347 := Below.trans t331 (Below.mono b346 zb0)
  have s348 := Below.trans s332 (Below.mono b346 za0)
  replace o211 := ownL.keep o211 (fun q hq => Below.block b346 q (hs74 q hq))
  replace hs74 := fun q hq => Nat.lt_of_lt_of_le (hs74 q hq) (Below.size b346)
  replace o212 := ownL.keep o212 (fun q hq => Below.block b346 q (hs79 q hq))
  replace hs79 := fun q hq => Nat.lt_of_lt_of_le (hs79 q hq) (Below.size b346)
  replace o240 := ownL.keep o240 (fun q hq => Below.block b346 q (hs113 q hq))
  replace hs113 := fun q hq => Nat.lt_of_lt_of_le (hs113 q hq) (Below.size b346)
  replace o241 := ownL.keep o241 (fun q hq => Below.block b346 q (hs118 q hq))
  replace hs118 := fun q hq => Nat.lt_of_lt_of_le (hs118 q hq) (Below.size b346)
  replace o301 := ownL.keep o301 (fun q hq => Below.block b346 q (hs303 q hq))
  replace hs303 := fun q hq => Nat.lt_of_lt_of_le (hs303 q hq) (Below.size b346)
  replace o306 := ownL.keep o306 (fun q hq => Below.block b346 q (hs308 q hq))
  replace hs308 := fun q hq => Nat.lt_of_lt_of_le (hs308 q hq) (Below.size b346)
  replace bx_aS := Box.below bx_aS b346
  replace bx63 := Box.below bx63 b346
  replace bx100 := Box.below bx100 b346
  replace bx142 := Box.below bx142 b346
  replace bx334 := Box.below bx334 b346
  have z349 := Below.size b346
  replace zb0 : W1.heap.size ≤ w345.heap.size := by omega
  replace za0 : w32.heap.size ≤ w345.heap.size := by omega
  have k350 : w345.cell? ⟨w.heap.size, 0, none⟩ = some ((Value.slice a_aS0 d_aS.heads_.length c_aS0)) := bx_aS.2 0 (by simp)
  have k351 : w345.cell? ⟨w.heap.size, 1, none⟩ = some ((Value.slice a_aS1 d_aS.descs_.length c_aS1)) := bx_aS.2 1 (by simp)
  have k352 : w345.cell? ⟨w32.heap.size, 0, none⟩ = some ((Value.slice a48 m49 c50)) := bx63.2 0 (by simp)
  have k353 : w345.cell? ⟨w32.heap.size, 1, none⟩ = some ((Value.slice a51 m52 c53)) := bx63.2 1 (by simp)
  have k354 : w345.cell? ⟨w68.heap.size, 0, none⟩ = some ((Value.slice a84 m85 c86)) := bx100.2 0 (by simp)
  have k355 : w345.cell? ⟨w68.heap.size, 1, none⟩ = some ((Value.slice a87 m88 c89)) := bx100.2 1 (by simp)
  have k356 : w345.cell? ⟨w107.heap.size, 0, none⟩ = some ((Value.slice a124 m125 c126)) := bx142.2 0 (by simp)
  have k357 : w345.cell? ⟨w107.heap.size, 1, none⟩ = some ((Value.slice a127 m128 c129)) := bx142.2 1 (by simp)
  have k358 : w345.cell? ⟨w297.heap.size, 0, none⟩ = some ((Value.slice a314 m315 c316)) := bx334.2 0 (by simp)
  have k359 : w345.cell? ⟨w297.heap.size, 1, none⟩ = some ((Value.slice a317 m318 c319)) := bx334.2 1 (by simp)
  go_wp2_with fail
  clear k350 k351 k352 k353 k354 k355 k356 k357 k358 k359
  refine (heldStore_o _ _ _ _ _ hb119 (by omega) (by omega) (ownL.rds o240) (ownL.rds o241)).mono ?_
  rintro e w360 ⟨rfl, b361⟩
  have t362 := Below.trans t347 (Below.mono b361 zb0)
  have s363 := Below.trans s348 (Below.mono b361 za0)
  replace o211 := ownL.keep o211 (fun q hq => Below.block b361 q (hs74 q hq))
  replace hs74 := fun q hq => Nat.lt_of_lt_of_le (hs74 q hq) (Below.size b361)
  replace o212 := ownL.keep o212 (fun q hq => Below.block b361 q (hs79 q hq))
  replace hs79 := fun q hq => Nat.lt_of_lt_of_le (hs79 q hq) (Below.size b361)
  replace o240 := ownL.keep o240 (fun q hq => Below.block b361 q (hs113 q hq))
  replace hs113 := fun q hq => Nat.lt_of_lt_of_le (hs113 q hq) (Below.size b361)
  replace o241 := ownL.keep o241 (fun q hq => Below.block b361 q (hs118 q hq))
  replace hs118 := fun q hq => Nat.lt_of_lt_of_le (hs118 q hq) (Below.size b361)
  replace o301 := ownL.keep o301 (fun q hq => Below.block b361 q (hs303 q hq))
  replace hs303 := fun q hq => Nat.lt_of_lt_of_le (hs303 q hq) (Below.size b361)
  replace o306 := ownL.keep o306 (fun q hq => Below.block b361 q (hs308 q hq))
  replace hs308 := fun q hq => Nat.lt_of_lt_of_le (hs308 q hq) (Below.size b361)
  replace bx_aS := Box.below bx_aS b361
  replace bx63 := Box.below bx63 b361
  replace bx100 := Box.below bx100 b361
  replace bx142 := Box.below bx142 b361
  replace bx334 := Box.below bx334 b361
  have z364 := Below.size b361
  replace zb0 : W1.heap.size ≤ w360.heap.size := by omega
  replace za0 : w32.heap.size ≤ w360.heap.size := by omega
  have k365 : w360.cell? ⟨w.heap.size, 0, none⟩ = some ((Value.slice a_aS0 d_aS.heads_.length c_aS0)) := bx_aS.2 0 (by simp)
  have k366 : w360.cell? ⟨w.heap.size, 1, none⟩ = some ((Value.slice a_aS1 d_aS.descs_.length c_aS1)) := bx_aS.2 1 (by simp)
  have k367 : w360.cell? ⟨w32.heap.size, 0, none⟩ = some ((Value.slice a48 m49 c50)) := bx63.2 0 (by simp)
  have k368 : w360.cell? ⟨w32.heap.size, 1, none⟩ = some ((Value.slice a51 m52 c53)) := bx63.2 1 (by simp)
  have k369 : w360.cell? ⟨w68.heap.size, 0, none⟩ = some ((Value.slice a84 m85 c86)) := bx100.2 0 (by simp)
  have k370 : w360.cell? ⟨w68.heap.size, 1, none⟩ = some ((Value.slice a87 m88 c89)) := bx100.2 1 (by simp)
  have k371 : w360.cell? ⟨w107.heap.size, 0, none⟩ = some ((Value.slice a124 m125 c126)) := bx142.2 0 (by simp)
  have k372 : w360.cell? ⟨w107.heap.size, 1, none⟩ = some ((Value.slice a127 m128 c129)) := bx142.2 1 (by simp)
  have k373 : w360.cell? ⟨w297.heap.size, 0, none⟩ = some ((Value.slice a314 m315 c316)) := bx334.2 0 (by simp)
  have k374 : w360.cell? ⟨w297.heap.size, 1, none⟩ = some ((Value.slice a317 m318 c319)) := bx334.2 1 (by simp)
  go_wp2_with fail
  clear k365 k366 k367 k368 k369 k370 k371 k372 k373 k374
  try go_wp2
  go_ret
  exact ⟨rfl, hB0.trans (Below.mono t362 hB0.size)⟩

end Go.Proofs.Ytambpjjfndnadaa
