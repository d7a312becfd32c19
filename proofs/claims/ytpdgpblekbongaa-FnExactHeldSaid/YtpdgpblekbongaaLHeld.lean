/- FnExactHeld, walked. -/
import Derived.Test.YtpdgpblekbongaaW7
import Derived.Test.YtpdgpblekbongaaBx
import Derived.Test.YtpdgpblekbongaaEnc4
import Derived.Test.YtpdgpblekbongaaKeep
import Derived.Deep.RegionHeld3
import Derived.StillTailTactics
namespace Go.Proofs.Ytpdgpblekbongaa
set_option maxRecDepth 100000
open Go.RowKit Go.Proofs Go.Own
set_option linter.unusedVariables false

set_option maxRecDepth 100000 in
set_option maxHeartbeats 8000000 in
theorem law_Held (d_aS : StoreD) (v_aS0 v_aS1 : Value) (w : World) (h_aS0 : rdsL w v_aS0 d_aS.heads_) (h_aS1 : rdsL w v_aS1 d_aS.descs_) :
    Calls Try.prog 9 #[(.agg #[v_aS0, v_aS1])] w fun e w' => e = .returned (.bool true) ∧ Below w.heap.size w w' := by
  obtain ⟨a_aS0, c_aS0, rfl, -, -, -⟩ := rdsL_open h_aS0
  obtain ⟨a_aS1, c_aS1, rfl, -, -, -⟩ := rdsL_open h_aS1
  obtain ⟨W1, hW1⟩ : ∃ X, w.alloc (.cells #[(Value.slice a_aS0 d_aS.heads_.length c_aS0), (Value.slice a_aS1 d_aS.descs_.length c_aS1)] 25) = X := ⟨_, rfl⟩
  have hbx1 : Below w.heap.size w W1 := by rw [← hW1]; exact (Below.refl _ _).alloc (Nat.le_refl _) _
  have zw1 : W1.heap.size = w.heap.size + 1 := by rw [← hW1]; simp
  have bx_aS : Box W1 (w.heap.size) [(Value.slice a_aS0 d_aS.heads_.length c_aS0), (Value.slice a_aS1 d_aS.descs_.length c_aS1)] := by rw [← hW1]; exact Box.alloc _ _ _
  have hB0 : Below w.heap.size w W1 := hbx1
  replace h_aS0 := rdsL.below h_aS0 hB0
  replace h_aS1 := rdsL.below h_aS1 hB0
  have tt0 : Below W1.heap.size W1 W1 := Below.refl _ _
  have zb0 : W1.heap.size ≤ W1.heap.size := Nat.le_refl _
  go_enter Try.func9, Try.ntmps9
  have k1 : W1.cell? ⟨w.heap.size, 0, none⟩ = some ((Value.slice a_aS0 d_aS.heads_.length c_aS0)) := bx_aS.2 0 (by simp)
  have k2 : W1.cell? ⟨w.heap.size, 1, none⟩ = some ((Value.slice a_aS1 d_aS.descs_.length c_aS1)) := bx_aS.2 1 (by simp)
  go_wp2_with fail
  clear k1 k2 hW1
  have hl0_aS : 0 ≤ (1048576 : Int) := by omega
  refine (szStore_o d_aS (Value.slice a_aS0 d_aS.heads_.length c_aS0) (Value.slice a_aS1 d_aS.descs_.length c_aS1) _ _ (by omega) (by omega) (rdsL.below h_aS0 tt0) (rdsL.below h_aS1 tt0)).mono ?_
  rintro e w3 ⟨rfl, b4⟩
  have t5 := Below.trans tt0 (Below.mono b4 zb0)
  replace bx_aS := Box.below bx_aS b4
  have z6 := Below.size b4
  replace zb0 : W1.heap.size ≤ w3.heap.size := by omega
  by_cases big_aS : (1048576 : Int) < (szStoreD d_aS : Int)
  · rw [szR_of, if_pos big_aS]
    go_wp2
    go_ret
    exact ⟨rfl, hB0.trans (Below.mono t5 hB0.size)⟩
  rw [szR_of, if_neg big_aS]
  have k7 : w3.cell? ⟨w.heap.size, 0, none⟩ = some ((Value.slice a_aS0 d_aS.heads_.length c_aS0)) := bx_aS.2 0 (by simp)
  have k8 : w3.cell? ⟨w.heap.size, 1, none⟩ = some ((Value.slice a_aS1 d_aS.descs_.length c_aS1)) := bx_aS.2 1 (by simp)
  go_wp2_with fail
  clear k7 k8
  have hb_aS : StoreB d_aS := by show _ ≤ 1048576; have := big_aS; unfold szStoreD at *; omega
  refine (toStore_o d_aS (Value.slice a_aS0 d_aS.heads_.length c_aS0) (Value.slice a_aS1 d_aS.descs_.length c_aS1) _ (rdsL.below h_aS0 t5) (rdsL.below h_aS1 t5) hb_aS).mono ?_
  rintro e w9 ⟨u11, u16, S12, S17, rfl, o13, o18, r14, r19, dj21, b10⟩
  have t22 := Below.trans t5 (Below.mono b10 zb0)
  replace bx_aS := Box.below bx_aS b10
  have z23 := Below.size b10
  replace zb0 : W1.heap.size ≤ w9.heap.size := by omega
  obtain ⟨a24, m25, c26, rfl⟩ := ownL_shape o13
  have hs15 := fun q hq => (r14 q hq).2
  obtain ⟨a27, m28, c29, rfl⟩ := ownL_shape o18
  have hs20 := fun q hq => (r19 q hq).2
  have k30 : w9.cell? ⟨w.heap.size, 0, none⟩ = some ((Value.slice a_aS0 d_aS.heads_.length c_aS0)) := bx_aS.2 0 (by simp)
  have k31 : w9.cell? ⟨w.heap.size, 1, none⟩ = some ((Value.slice a_aS1 d_aS.descs_.length c_aS1)) := bx_aS.2 1 (by simp)
  go_wp2_with fail
  clear k30 k31
  refine (spec_HeldW d_aS (Value.slice a24 m25 c26) (Value.slice a27 m28 c29) _ (ownL.rds o13) (ownL.rds o18) hb_aS).mono ?_
  rintro e w32 ⟨u34, rfl, o36, b33⟩
  have t39 := Below.trans t22 (Below.mono b33 zb0)
  replace bx_aS := Box.below bx_aS b33
  have z40 := Below.size b33
  replace zb0 : W1.heap.size ≤ w32.heap.size := by omega
  obtain ⟨a41, m42, c43, rfl⟩ := rdsL_shape o36
  have s44 : Below w32.heap.size w32 w32 := Below.refl _ _
  have za0 : w32.heap.size ≤ w32.heap.size := Nat.le_refl _
  have k45 : w32.cell? ⟨w.heap.size, 0, none⟩ = some ((Value.slice a_aS0 d_aS.heads_.length c_aS0)) := bx_aS.2 0 (by simp)
  have k46 : w32.cell? ⟨w.heap.size, 1, none⟩ = some ((Value.slice a_aS1 d_aS.descs_.length c_aS1)) := bx_aS.2 1 (by simp)
  go_wp2_with fail
  clear k45 k46
  refine (toStore_o d_aS (Value.slice a_aS0 d_aS.heads_.length c_aS0) (Value.slice a_aS1 d_aS.descs_.length c_aS1) _ (rdsL.below h_aS0 t39) (rdsL.below h_aS1 t39) hb_aS).mono ?_
  rintro e w47 ⟨u49, u54, S50, S55, rfl, o51, o56, r52, r57, dj59, b48⟩
  have t60 := Below.trans t39 (Below.mono b48 zb0)
  have s61 := Below.trans s44 (Below.mono b48 za0)
  replace bx_aS := Box.below bx_aS b48
  have z62 := Below.size b48
  replace zb0 : W1.heap.size ≤ w47.heap.size := by omega
  replace za0 : w32.heap.size ≤ w47.heap.size := by omega
  obtain ⟨a63, m64, c65, rfl⟩ := ownL_shape o51
  have hs53 := fun q hq => (r52 q hq).2
  obtain ⟨a66, m67, c68, rfl⟩ := ownL_shape o56
  have hs58 := fun q hq => (r57 q hq).2
  have k69 : w47.cell? ⟨w.heap.size, 0, none⟩ = some ((Value.slice a_aS0 d_aS.heads_.length c_aS0)) := bx_aS.2 0 (by simp)
  have k70 : w47.cell? ⟨w.heap.size, 1, none⟩ = some ((Value.slice a_aS1 d_aS.descs_.length c_aS1)) := bx_aS.2 1 (by simp)
  obtain ⟨X71, hX72⟩ : ∃ X, w47.alloc (.cells #[(Value.slice a63 m64 c65), (Value.slice a66 m67 c68)] 31) = X := ⟨_, rfl⟩
  have bX73 : Below w47.heap.size w47 X71 := by rw [← hX72]; exact (Below.refl _ _).alloc (Nat.le_refl _) _
  have zX71 : X71.heap.size = w47.heap.size + 1 := by rw [← hX72]; simp
  have t74 := Below.trans t60 (Below.mono bX73 zb0)
  have s75 := Below.trans s61 (Below.mono bX73 za0)
  replace o51 := ownL.keep o51 (fun q hq => Below.block bX73 q (hs53 q hq))
  replace hs53 := fun q hq => Nat.lt_of_lt_of_le (hs53 q hq) (Below.size bX73)
  replace o56 := ownL.keep o56 (fun q hq => Below.block bX73 q (hs58 q hq))
  replace hs58 := fun q hq => Nat.lt_of_lt_of_le (hs58 q hq) (Below.size bX73)
  replace bx_aS := Box.below bx_aS bX73
  have z76 := Below.size bX73
  replace zb0 : W1.heap.size ≤ X71.heap.size := by omega
  replace za0 : w32.heap.size ≤ X71.heap.size := by omega
  have bx77 : Box X71 (w47.heap.size) [(Value.slice a63 m64 c65), (Value.slice a66 m67 c68)] := by rw [← hX72]; exact Box.alloc _ _ _
  have k78 : X71.cell? ⟨w.heap.size, 0, none⟩ = some ((Value.slice a_aS0 d_aS.heads_.length c_aS0)) := bx_aS.2 0 (by simp)
  have k79 : X71.cell? ⟨w.heap.size, 1, none⟩ = some ((Value.slice a_aS1 d_aS.descs_.length c_aS1)) := bx_aS.2 1 (by simp)
  have k80 : X71.cell? ⟨w47.heap.size, 0, none⟩ = some ((Value.slice a63 m64 c65)) := bx77.2 0 (by simp)
  have k81 : X71.cell? ⟨w47.heap.size, 1, none⟩ = some ((Value.slice a66 m67 c68)) := bx77.2 1 (by simp)
  go_wp2_with fail
  clear k69 k70 k78 k79 k80 k81 hX72
  refine (impl_HeldW d_aS (Value.slice a63 m64 c65) (Value.slice a66 m67 c68) _ (ownL.rds o51) (ownL.rds o56) hb_aS).mono ?_
  rintro e w82 ⟨u84, S85, rfl, o86, r87, hb89, b83⟩
  have t90 := Below.trans t74 (Below.mono b83 zb0)
  have s91 := Below.trans s75 (Below.mono b83 za0)
  replace o51 := ownL.keep o51 (fun q hq => Below.block b83 q (hs53 q hq))
  replace hs53 := fun q hq => Nat.lt_of_lt_of_le (hs53 q hq) (Below.size b83)
  replace o56 := ownL.keep o56 (fun q hq => Below.block b83 q (hs58 q hq))
  replace hs58 := fun q hq => Nat.lt_of_lt_of_le (hs58 q hq) (Below.size b83)
  replace bx_aS := Box.below bx_aS b83
  replace bx77 := Box.below bx77 b83
  have z92 := Below.size b83
  replace zb0 : W1.heap.size ≤ w82.heap.size := by omega
  replace za0 : w32.heap.size ≤ w82.heap.size := by omega
  obtain ⟨a93, m94, c95, rfl⟩ := ownL_shape o86
  have hs88 := fun q hq => (r87 q hq).2
  have k96 : w82.cell? ⟨w.heap.size, 0, none⟩ = some ((Value.slice a_aS0 d_aS.heads_.length c_aS0)) := bx_aS.2 0 (by simp)
  have k97 : w82.cell? ⟨w.heap.size, 1, none⟩ = some ((Value.slice a_aS1 d_aS.descs_.length c_aS1)) := bx_aS.2 1 (by simp)
  have k98 : w82.cell? ⟨w47.heap.size, 0, none⟩ = some ((Value.slice a63 m64 c65)) := bx77.2 0 (by simp)
  have k99 : w82.cell? ⟨w47.heap.size, 1, none⟩ = some ((Value.slice a66 m67 c68)) := bx77.2 1 (by simp)
  go_wp2_with fail
  clear k96 k97 k98 k99
  refine (eqIntS_o _ _ _ _ (ownL.rds o86) (rdsL.below o36 s91)).mono ?_
  rintro e w100 ⟨rfl, b101⟩
  have t102 := Below.trans t90 (Below.mono b101 zb0)
  have s103 := Below.trans s91 (Below.mono b101 za0)
  replace o51 := ownL.keep o51 (fun q hq => Below.block b101 q (hs53 q hq))
  replace hs53 := fun q hq => Nat.lt_of_lt_of_le (hs53 q hq) (Below.size b101)
  replace o56 := ownL.keep o56 (fun q hq => Below.block b101 q (hs58 q hq))
  replace hs58 := fun q hq => Nat.lt_of_lt_of_le (hs58 q hq) (Below.size b101)
  replace o86 := ownL.keep o86 (fun q hq => Below.block b101 q (hs88 q hq))
  replace hs88 := fun q hq => Nat.lt_of_lt_of_le (hs88 q hq) (Below.size b101)
  replace bx_aS := Box.below bx_aS b101
  replace bx77 := Box.below bx77 b101
  have z104 := Below.size b101
  replace zb0 : W1.heap.size ≤ w100.heap.size := by omega
  replace za0 : w32.heap.size ≤ w100.heap.size := by omega
  have k105 : w100.cell? ⟨w.heap.size, 0, none⟩ = some ((Value.slice a_aS0 d_aS.heads_.length c_aS0)) := bx_aS.2 0 (by simp)
  have k106 : w100.cell? ⟨w.heap.size, 1, none⟩ = some ((Value.slice a_aS1 d_aS.descs_.length c_aS1)) := bx_aS.2 1 (by simp)
  have k107 : w100.cell? ⟨w47.heap.size, 0, none⟩ = some ((Value.slice a63 m64 c65)) := bx77.2 0 (by simp)
  have k108 : w100.cell? ⟨w47.heap.size, 1, none⟩ = some ((Value.slice a66 m67 c68)) := bx77.2 1 (by simp)
  go_wp2_with fail
  clear k105 k106 k107 k108
  have lt124 := (bx_aS).1
  have lt125 := (bx77).1
  have k126 : w100.cell? ⟨w.heap.size, 0, none⟩ = some ((Value.slice a_aS0 d_aS.heads_.length c_aS0)) := bx_aS.2 0 (by simp)
  have k127 : w100.cell? ⟨w.heap.size, 1, none⟩ = some ((Value.slice a_aS1 d_aS.descs_.length c_aS1)) := bx_aS.2 1 (by simp)
  have k128 : w100.cell? ⟨w47.heap.size, 0, none⟩ = some ((Value.slice a63 m64 c65)) := bx77.2 0 (by simp)
  have k129 : w100.cell? ⟨w47.heap.size, 1, none⟩ = some ((Value.slice a66 m67 c68)) := bx77.2 1 (by simp)
  go_region_held3 (fun w' => Below w100.heap.size w100 w' ∧ w100.heap.size ≤ w'.heap.size ∧ w'.cell? ⟨w.heap.size, 0, none⟩ = some ((Value.slice a_aS0 d_aS.heads_.length c_aS0)) ∧ w'.cell? ⟨w.heap.size, 1, none⟩ = some ((Value.slice a_aS1 d_aS.descs_.length c_aS1)) ∧ w'.cell? ⟨w47.heap.size, 0, none⟩ = some ((Value.slice a63 m64 c65)) ∧ w'.cell? ⟨w47.heap.size, 1, none⟩ = some ((Value.slice a66 m67 c68)))
    (first | exact ⟨(Below.refl _ _).drew, Nat.le_refl _, k126, k127, k128, k129⟩ | exact keepBox4 (by omega) ‹_› ‹_›)
    (first
    | (go_at_call 12; refine (toStore_o d_aS (Value.slice a_aS0 d_aS.heads_.length c_aS0) (Value.slice a_aS1 d_aS.descs_.length c_aS1) _ (rdsL.below (rdsL.below h_aS0 t102) ((Below.refl _ _).drew : Below w100.heap.size w100 w100.drew)) (rdsL.below (rdsL.below h_aS1 t102) ((Below.refl _ _).drew : Below w100.heap.size w100 w100.drew)) hb_aS).mono ?_; rintro e w109 ⟨u111, u116, S112, S117, rfl, o113, o118, r114, r119, dj121, b110⟩; have hq_w109 : Below w100.heap.size w100 w109 := Below.trans ((Below.refl _ _).drew : Below w100.heap.size w100 w100.drew) (Below.mono b110 (Below.size ((Below.refl _ _).drew : Below w100.heap.size w100 w100.drew))))
    | (go_at_call 14; refine (eqStore_o _ _ _ _ _ _ (rdsL.below (rdsL.below (ownL.rds o51) ((Below.refl _ _).drew : Below w100.heap.size w100 w100.drew)) b110) (rdsL.below (rdsL.below (ownL.rds o56) ((Below.refl _ _).drew : Below w100.heap.size w100 w100.drew)) b110) (ownL.rds o113) (ownL.rds o118)).mono ?_; rintro e w122 ⟨rfl, b123⟩))
  clear k126 k127 k128 k129
  have d130 : Below w100.heap.size w100 w100.drew := (Below.refl _ _).drew
  have t131 := Below.trans t102 (Below.mono d130 zb0)
  have s132 := Below.trans s103 (Below.mono d130 za0)
  replace o51 := ownL.keep o51 (fun q hq => Below.block d130 q (hs53 q hq))
  replace hs53 := fun q hq => Nat.lt_of_lt_of_le (hs53 q hq) (Below.size d130)
  replace o56 := ownL.keep o56 (fun q hq => Below.block d130 q (hs58 q hq))
  replace hs58 := fun q hq => Nat.lt_of_lt_of_le (hs58 q hq) (Below.size d130)
  replace o86 := ownL.keep o86 (fun q hq => Below.block d130 q (hs88 q hq))
  replace hs88 := fun q hq => Nat.lt_of_lt_of_le (hs88 q hq) (Below.size d130)
  replace bx_aS := Box.below bx_aS d130
  replace bx77 := Box.below bx77 d130
  have z133 := Below.size d130
  replace zb0 : W1.heap.size ≤ w100.drew.heap.size := by omega
  replace za0 : w32.heap.size ≤ w100.drew.heap.size := by omega
  have t134 := Below.trans t131 (Below.mono b110 zb0)
  have s135 := Below.trans s132 (Below.mono b110 za0)
  replace o51 := ownL.keep o51 (fun q hq => Below.block b110 q (hs53 q hq))
  replace hs53 := fun q hq => Nat.lt_of_lt_of_le (hs53 q hq) (Below.size b110)
  replace o56 := ownL.keep o56 (fun q hq => Below.block b110 q (hs58 q hq))
  replace hs58 := fun q hq => Nat.lt_of_lt_of_le (hs58 q hq) (Below.size b110)
  replace o86 := ownL.keep o86 (fun q hq => Below.block b110 q (hs88 q hq))
  replace hs88 := fun q hq => Nat.lt_of_lt_of_le (hs88 q hq) (Below.size b110)
  replace bx_aS := Box.below bx_aS b110
  replace bx77 := Box.below bx77 b110
  have z136 := Below.size b110
  replace zb0 : W1.heap.size ≤ w109.heap.size := by omega
  replace za0 : w32.heap.size ≤ w109.heap.size := by omega
  have t137 := Below.trans t134 (Below.mono b123 zb0)
  have s138 := Below.trans s135 (Below.mono b123 za0)
  replace o51 := ownL.keep o51 (fun q hq => Below.block b123 q (hs53 q hq))
  replace hs53 := fun q hq => Nat.lt_of_lt_of_le (hs53 q hq) (Below.size b123)
  replace o56 := ownL.keep o56 (fun q hq => Below.block b123 q (hs58 q hq))
  replace hs58 := fun q hq => Nat.lt_of_lt_of_le (hs58 q hq) (Below.size b123)
  replace o86 := ownL.keep o86 (fun q hq => Below.block b123 q (hs88 q hq))
  replace hs88 := fun q hq => Nat.lt_of_lt_of_le (hs88 q hq) (Below.size b123)
  replace bx_aS := Box.below bx_aS b123
  replace bx77 := Box.below bx77 b123
  have z139 := Below.size b123
  replace zb0 : W1.heap.size ≤ w122.heap.size := by omega
  replace za0 : w32.heap.size ≤ w122.heap.size := by omega
  have k140 : w122.cell? ⟨w.heap.size, 0, none⟩ = some ((Value.slice a_aS0 d_aS.heads_.length c_aS0)) := bx_aS.2 0 (by simp)
  have k141 : w122.cell? ⟨w.heap.size, 1, none⟩ = some ((Value.slice a_aS1 d_aS.descs_.length c_aS1)) := bx_aS.2 1 (by simp)
  have k142 : w122.cell? ⟨w47.heap.size, 0, none⟩ = some ((Value.slice a63 m64 c65)) := bx77.2 0 (by simp)
  have k143 : w122.cell? ⟨w47.heap.size, 1, none⟩ = some ((Value.slice a66 m67 c68)) := bx77.2 1 (by simp)
  go_wp2_with fail
  clear k140 k141 k142 k143
  have le148 := cntStore_le hb_aS
  refine (markStore_o S50 S55 _ _ _ _ _ hs53 hs58 dj59 hb_aS (by omega) (by omega) o51 o56).mono ?_
  rintro e w144 ⟨rfl, o146, o147, C145⟩
  have t149 := below_chg t137 C145 zb0 (by intro q hx; rcases hx with hx | hx; (have y := r52 q hx; have y1 := y.1; have y2 := y.2; omega); (have y := r57 q hx; have y1 := y.1; have y2 := y.2; omega))
  have s150 := below_chg s138 C145 za0 (by intro q hx; rcases hx with hx | hx; (have y := r52 q hx; have y1 := y.1; have y2 := y.2; omega); (have y := r57 q hx; have y1 := y.1; have y2 := y.2; omega))
  replace hs53 := fun q hq => Nat.lt_of_lt_of_le (hs53 q hq) (ChgS.size C145)
  replace hs58 := fun q hq => Nat.lt_of_lt_of_le (hs58 q hq) (ChgS.size C145)
  replace o86 := ownL.keep o86 (fun q hq => ChgS.block C145 q (hs88 q hq) (by intro hx; have x0 := r87 q hq; have x1 := x0.1; have x2 := x0.2; rcases hx with hx | hx; (have y := r52 q hx; have y1 := y.1; have y2 := y.2; omega); (have y := r57 q hx; have y1 := y.1; have y2 := y.2; omega)))
  replace hs88 := fun q hq => Nat.lt_of_lt_of_le (hs88 q hq) (ChgS.size C145)
  replace bx_aS := Box.chg bx_aS C145 (by intro hx; rcases hx with hx | hx; (have y := r52 _ hx; have y1 := y.1; have y2 := y.2; omega); (have y := r57 _ hx; have y1 := y.1; have y2 := y.2; omega))
  replace bx77 := Box.chg bx77 C145 (by intro hx; rcases hx with hx | hx; (have y := r52 _ hx; have y1 := y.1; have y2 := y.2; omega); (have y := r57 _ hx; have y1 := y.1; have y2 := y.2; omega))
  have z151 := ChgS.size C145
  replace zb0 : W1.heap.size ≤ w144.heap.size := by omega
  replace za0 : w32.heap.size ≤ w144.heap.size := by omega
  have k152 : w144.cell? ⟨w.heap.size, 0, none⟩ = some ((Value.slice a_aS0 d_aS.heads_.length c_aS0)) := bx_aS.2 0 (by simp)
  have k153 : w144.cell? ⟨w.heap.size, 1, none⟩ = some ((Value.slice a_aS1 d_aS.descs_.length c_aS1)) := bx_aS.2 1 (by simp)
  have k154 : w144.cell? ⟨w47.heap.size, 0, none⟩ = some ((Value.slice a63 m64 c65)) := bx77.2 0 (by simp)
  have k155 : w144.cell? ⟨w47.heap.size, 1, none⟩ = some ((Value.slice a66 m67 c68)) := bx77.2 1 (by simp)
  go_wp2_with fail
  clear k152 k153 k154 k155
  refine (eqIntS_o _ _ _ _ (ownL.rds o86) (rdsL.below o36 s150)).mono ?_
  rintro e w156 ⟨rfl, b157⟩
  have t158 := Below.trans t149 (Below.mono b157 zb0)
  have s159 := Below.trans s150 (Below.mono b157 za0)
  replace o146 := ownL.keep o146 (fun q hq => Below.block b157 q (hs53 q hq))
  replace hs53 := fun q hq => Nat.lt_of_lt_of_le (hs53 q hq) (Below.size b157)
  replace o147 := ownL.keep o147 (fun q hq => Below.block b157 q (hs58 q hq))
  replace hs58 := fun q hq => Nat.lt_of_lt_of_le (hs58 q hq) (Below.size b157)
  replace o86 := ownL.keep o86 (fun q hq => Below.block b157 q (hs88 q hq))
  replace hs88 := fun q hq => Nat.lt_of_lt_of_le (hs88 q hq) (Below.size b157)
  replace bx_aS := Box.below bx_aS b157
  replace bx77 := Box.below bx77 b157
  have z160 := Below.size b157
  replace zb0 : W1.heap.size ≤ w156.heap.size := by omega
  replace za0 : w32.heap.size ≤ w156.heap.size := by omega
  have k161 : w156.cell? ⟨w.heap.size, 0, none⟩ = some ((Value.slice a_aS0 d_aS.heads_.length c_aS0)) := bx_aS.2 0 (by simp)
  have k162 : w156.cell? ⟨w.heap.size, 1, none⟩ = some ((Value.slice a_aS1 d_aS.descs_.length c_aS1)) := bx_aS.2 1 (by simp)
  have k163 : w156.cell? ⟨w47.heap.size, 0, none⟩ = some ((Value.slice a63 m64 c65)) := bx77.2 0 (by simp)
  have k164 : w156.cell? ⟨w47.heap.size, 1, none⟩ = some ((Value.slice a66 m67 c68)) := bx77.2 1 (by simp)
  go_wp2_with fail
  clear k161 k162 k163 k164
  have le168 := cntIntS_le hb89
  refine (markIntS_o S85 _ _ _ _ hs88  hb89 (by omega) (by omega) o86).mono ?_
  rintro e w165 ⟨rfl, o167, C166⟩
  have t169 := below_chg t158 C166 zb0 (by intro q hx; have y := r87 q hx; have y1 := y.1; have y2 := y.2; omega)
  have s170 := below_chg s159 C166 za0 (by intro q hx; have y := r87 q hx; have y1 := y.1; have y2 := y.2; omega)
  replace o146 := ownL.keep o146 (fun q hq => ChgS.block C166 q (hs53 q hq) (by intro hx; have x0 := r52 q hq; have x1 := x0.1; have x2 := x0.2; have y := r87 q hx; have y1 := y.1; have y2 := y.2; omega))
  replace hs53 := fun q hq => Nat.lt_of_lt_of_le (hs53 q hq) (ChgS.size C166)
  replace o147 := ownL.keep o147 (fun q hq => ChgS.block C166 q (hs58 q hq) (by intro hx; have x0 := r57 q hq; have x1 := x0.1; have x2 := x0.2; have y := r87 q hx; have y1 := y.1; have y2 := y.2; omega))
  replace hs58 := fun q hq => Nat.lt_of_lt_of_le (hs58 q hq) (ChgS.size C166)
  replace hs88 := fun q hq => Nat.lt_of_lt_of_le (hs88 q hq) (ChgS.size C166)
  replace bx_aS := Box.chg bx_aS C166 (by intro hx; have y := r87 _ hx; have y1 := y.1; have y2 := y.2; omega)
  replace bx77 := Box.chg bx77 C166 (by intro hx; have y := r87 _ hx; have y1 := y.1; have y2 := y.2; omega)
  have z171 := ChgS.size C166
  replace zb0 : W1.heap.size ≤ w165.heap.size := by omega
  replace za0 : w32.heap.size ≤ w165.heap.size := by omega
  have k172 : w165.cell? ⟨w.heap.size, 0, none⟩ = some ((Value.slice a_aS0 d_aS.heads_.length c_aS0)) := bx_aS.2 0 (by simp)
  have k173 : w165.cell? ⟨w.heap.size, 1, none⟩ = some ((Value.slice a_aS1 d_aS.descs_.length c_aS1)) := bx_aS.2 1 (by simp)
  have k174 : w165.cell? ⟨w47.heap.size, 0, none⟩ = some ((Value.slice a63 m64 c65)) := bx77.2 0 (by simp)
  have k175 : w165.cell? ⟨w47.heap.size, 1, none⟩ = some ((Value.slice a66 m67 c68)) := bx77.2 1 (by simp)
  go_wp2_with fail
  clear k172 k173 k174 k175
  refine (heldIntS_o _ _ _ _ hb89 (by omega) (by omega) (ownL.rds o167)).mono ?_
  rintro e w176 ⟨rfl, b177⟩
  have t178 := Below.trans t169 (Below.mono b177 zb0)
  have s179 := Below.trans s170 (Below.mono b177 za0)
  replace o146 := ownL.keep o146 (fun q hq => Below.block b177 q (hs53 q hq))
  replace hs53 := fun q hq => Nat.lt_of_lt_of_le (hs53 q hq) (Below.size b177)
  replace o147 := ownL.keep o147 (fun q hq => Below.block b177 q (hs58 q hq))
  replace hs58 := fun q hq => Nat.lt_of_lt_of_le (hs58 q hq) (Below.size b177)
  replace o167 := ownL.keep o167 (fun q hq => Below.block b177 q (hs88 q hq))
  replace hs88 := fun q hq => Nat.lt_of_lt_of_le (hs88 q hq) (Below.size b177)
  replace bx_aS := Box.below bx_aS b177
  replace bx77 := Box.below bx77 b177
  have z180 := Below.size b177
  replace zb0 : W1.heap.size ≤ w176.heap.size := by omega
  replace za0 : w32.heap.size ≤ w176.heap.size := by omega
  have k181 : w176.cell? ⟨w.heap.size, 0, none⟩ = some ((Value.slice a_aS0 d_aS.heads_.length c_aS0)) := bx_aS.2 0 (by simp)
  have k182 : w176.cell? ⟨w.heap.size, 1, none⟩ = some ((Value.slice a_aS1 d_aS.descs_.length c_aS1)) := bx_aS.2 1 (by simp)
  have k183 : w176.cell? ⟨w47.heap.size, 0, none⟩ = some ((Value.slice a63 m64 c65)) := bx77.2 0 (by simp)
  have k184 : w176.cell? ⟨w47.heap.size, 1, none⟩ = some ((Value.slice a66 m67 c68)) := bx77.2 1 (by simp)
  go_wp2_with fail
  clear k181 k182 k183 k184
  refine (toStore_o d_aS (Value.slice a_aS0 d_aS.heads_.length c_aS0) (Value.slice a_aS1 d_aS.descs_.length c_aS1) _ (rdsL.below h_aS0 t178) (rdsL.below h_aS1 t178) hb_aS).mono ?_
  rintro e w185 ⟨u187, u192, S188, S193, rfl, o189, o194, r190, r195, dj197, b186⟩
  have t198 := Below.trans t178 (Below.mono b186 zb0)
  have s199 := Below.trans s179 (Below.mono b186 za0)
  replace o146 := ownL.keep o146 (fun q hq => Below.block b186 q (hs53 q hq))
  replace hs53 := fun q hq => Nat.lt_of_lt_of_le (hs53 q hq) (Below.size b186)
  replace o147 := ownL.keep o147 (fun q hq => Below.block b186 q (hs58 q hq))
  replace hs58 := fun q hq => Nat.lt_of_lt_of_le (hs58 q hq) (Below.size b186)
  replace o167 := ownL.keep o167 (fun q hq => Below.block b186 q (hs88 q hq))
  replace hs88 := fun q hq => Nat.lt_of_lt_of_le (hs88 q hq) (Below.size b186)
  replace bx_aS := Box.below bx_aS b186
  replace bx77 := Box.below bx77 b186
  have z200 := Below.size b186
  replace zb0 : W1.heap.size ≤ w185.heap.size := by omega
  replace za0 : w32.heap.size ≤ w185.heap.size := by omega
  obtain ⟨a201, m202, c203, rfl⟩ := ownL_shape o189
  have hs191 := fun q hq => (r190 q hq).2
  obtain ⟨a204, m205, c206, rfl⟩ := ownL_shape o194
  have hs196 := fun q hq => (r195 q hq).2
  have k207 : w185.cell? ⟨w.heap.size, 0, none⟩ = some ((Value.slice a_aS0 d_aS.heads_.length c_aS0)) := bx_aS.2 0 (by simp)
  have k208 : w185.cell? ⟨w.heap.size, 1, none⟩ = some ((Value.slice a_aS1 d_aS.descs_.length c_aS1)) := bx_aS.2 1 (by simp)
  have k209 : w185.cell? ⟨w47.heap.size, 0, none⟩ = some ((Value.slice a63 m64 c65)) := bx77.2 0 (by simp)
  have k210 : w185.cell? ⟨w47.heap.size, 1, none⟩ = some ((Value.slice a66 m67 c68)) := bx77.2 1 (by simp)
  go_wp2_with fail
  clear k207 k208 k209 k210
  refine (impl_HeldW d_aS (Value.slice a201 m202 c203) (Value.slice a204 m205 c206) _ (ownL.rds o189) (ownL.rds o194) hb_aS).mono ?_
  rintro e w211 ⟨u213, S214, rfl, o215, r216, hb218, b212⟩
  have t219 := Below.trans t198 (Below.mono b212 zb0)
  have s220 := Below.trans s199 (Below.mono b212 za0)
  replace o146 := ownL.keep o146 (fun q hq => Below.block b212 q (hs53 q hq))
  replace hs53 := fun q hq => Nat.lt_of_lt_of_le (hs53 q hq) (Below.size b212)
  replace o147 := ownL.keep o147 (fun q hq => Below.block b212 q (hs58 q hq))
  replace hs58 := fun q hq => Nat.lt_of_lt_of_le (hs58 q hq) (Below.size b212)
  replace o167 := ownL.keep o167 (fun q hq => Below.block b212 q (hs88 q hq))
  replace hs88 := fun q hq => Nat.lt_of_lt_of_le (hs88 q hq) (Below.size b212)
  replace bx_aS := Box.below bx_aS b212
  replace bx77 := Box.below bx77 b212
  have z221 := Below.size b212
  replace zb0 : W1.heap.size ≤ w211.heap.size := by omega
  replace za0 : w32.heap.size ≤ w211.heap.size := by omega
  obtain ⟨a222, m223, c224, rfl⟩ := ownL_shape o215
  have hs217 := fun q hq => (r216 q hq).2
  have k225 : w211.cell? ⟨w.heap.size, 0, none⟩ = some ((Value.slice a_aS0 d_aS.heads_.length c_aS0)) := bx_aS.2 0 (by simp)
  have k226 : w211.cell? ⟨w.heap.size, 1, none⟩ = some ((Value.slice a_aS1 d_aS.descs_.length c_aS1)) := bx_aS.2 1 (by simp)
  have k227 : w211.cell? ⟨w47.heap.size, 0, none⟩ = some ((Value.slice a63 m64 c65)) := bx77.2 0 (by simp)
  have k228 : w211.cell? ⟨w47.heap.size, 1, none⟩ = some ((Value.slice a66 m67 c68)) := bx77.2 1 (by simp)
  go_wp2_with fail
  clear k225 k226 k227 k228
  refine (eqIntS_o _ _ _ _ (ownL.rds o215) (rdsL.below o36 s220)).mono ?_
  rintro e w229 ⟨rfl, b230⟩
  have t231 := Below.trans t219 (Below.mono b230 zb0)
  have s232 := Below.trans s220 (Below.mono b230 za0)
  replace o146 := ownL.keep o146 (fun q hq => Below.block b230 q (hs53 q hq))
  replace hs53 := fun q hq => Nat.lt_of_lt_of_le (hs53 q hq) (Below.size b230)
  replace o147 := ownL.keep o147 (fun q hq => Below.block b230 q (hs58 q hq))
  replace hs58 := fun q hq => Nat.lt_of_lt_of_le (hs58 q hq) (Below.size b230)
  replace o167 := ownL.keep o167 (fun q hq => Below.block b230 q (hs88 q hq))
  replace hs88 := fun q hq => Nat.lt_of_lt_of_le (hs88 q hq) (Below.size b230)
  replace o215 := ownL.keep o215 (fun q hq => Below.block b230 q (hs217 q hq))
  replace hs217 := fun q hq => Nat.lt_of_lt_of_le (hs217 q hq) (Below.size b230)
  replace bx_aS := Box.below bx_aS b230
  replace bx77 := Box.below bx77 b230
  have z233 := Below.size b230
  replace zb0 : W1.heap.size ≤ w229.heap.size := by omega
  replace za0 : w32.heap.size ≤ w229.heap.size := by omega
  have k234 : w229.cell? ⟨w.heap.size, 0, none⟩ = some ((Value.slice a_aS0 d_aS.heads_.length c_aS0)) := bx_aS.2 0 (by simp)
  have k235 : w229.cell? ⟨w.heap.size, 1, none⟩ = some ((Value.slice a_aS1 d_aS.descs_.length c_aS1)) := bx_aS.2 1 (by simp)
  have k236 : w229.cell? ⟨w47.heap.size, 0, none⟩ = some ((Value.slice a63 m64 c65)) := bx77.2 0 (by simp)
  have k237 : w229.cell? ⟨w47.heap.size, 1, none⟩ = some ((Value.slice a66 m67 c68)) := bx77.2 1 (by simp)
  go_wp2_with fail
  clear k234 k235 k236 k237
  refine (heldIntS_o _ _ _ _ hb89 (by omega) (by omega) (ownL.rds o167)).mono ?_
  rintro e w238 ⟨rfl, b239⟩
  have t240 := Below.trans t231 (Below.mono b239 zb0)
  have s241 := Below.trans s232 (Below.mono b239 za0)
  replace o146 := ownL.keep o146 (fun q hq => Below.block b239 q (hs53 q hq))
  replace hs53 := fun q hq => Nat.lt_of_lt_of_le (hs53 q hq) (Below.size b239)
  replace o147 := ownL.keep o147 (fun q hq => Below.block b239 q (hs58 q hq))
  replace hs58 := fun q hq => Nat.lt_of_lt_of_le (hs58 q hq) (Below.size b239)
  replace o167 := ownL.keep o167 (fun q hq => Below.block b239 q (hs88 q hq))
  replace hs88 := fun q hq => Nat.lt_of_lt_of_le (hs88 q hq) (Below.size b239)
  replace o215 := ownL.keep o215 (fun q hq => Below.block b239 q (hs217 q hq))
  replace hs217 := fun q hq => Nat.lt_of_lt_of_le (hs217 q hq) (Below.size b239)
  replace bx_aS := Box.below bx_aS b239
  replace bx77 := Box.below bx77 b239
  have z242 := Below.size b239
  replace zb0 : W1.heap.size ≤ w238.heap.size := by omega
  replace za0 : w32.heap.size ≤ w238.heap.size := by omega
  have k243 : w238.cell? ⟨w.heap.size, 0, none⟩ = some ((Value.slice a_aS0 d_aS.heads_.length c_aS0)) := bx_aS.2 0 (by simp)
  have k244 : w238.cell? ⟨w.heap.size, 1, none⟩ = some ((Value.slice a_aS1 d_aS.descs_.length c_aS1)) := bx_aS.2 1 (by simp)
  have k245 : w238.cell? ⟨w47.heap.size, 0, none⟩ = some ((Value.slice a63 m64 c65)) := bx77.2 0 (by simp)
  have k246 : w238.cell? ⟨w47.heap.size, 1, none⟩ = some ((Value.slice a66 m67 c68)) := bx77.2 1 (by simp)
  go_wp2_with fail
  clear k243 k244 k245 k246
  try go_wp2
  go_ret
  exact ⟨rfl, hB0.trans (Below.mono t240 hB0.size)⟩

end Go.Proofs.Ytpdgpblekbongaa
