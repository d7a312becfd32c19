/- FnExactFrameOk, walked. -/
import Derived.Test.YtpdgpblekbongaaW7
import Derived.Test.YtpdgpblekbongaaBx
import Derived.Test.YtpdgpblekbongaaEnc4
import Derived.Test.YtpdgpblekbongaaKeep
import Derived.Deep.RegionHeld3
import Derived.StillTailTactics
namespace Go.Proofs.Ytpdgpblekbongaa
set_option maxRecDepth 100000
open Go.RowKit Go.Proofs Go.Own
set_option linter.unusedVariables false

set_option maxRecDepth 100000 in
set_option maxHeartbeats 8000000 in
theorem law_FrameOk (d_aS : StoreD) (v_aS0 v_aS1 : Value) (d_aF : Frame) (w : World) (h_aS0 : rdsL w v_aS0 d_aS.heads_) (h_aS1 : rdsL w v_aS1 d_aS.descs_) :
    Calls Try.prog 7 #[(.agg #[v_aS0, v_aS1]), (.agg #[.int .i64 d_aF.desc_, .int .i64 d_aF.phase_, .int .i64 d_aF.at_])] w fun e w' => e = .returned (.bool true) ∧ Below w.heap.size w w' := by
  obtain ⟨a_aS0, c_aS0, rfl, -, -, -⟩ := rdsL_open h_aS0
  obtain ⟨a_aS1, c_aS1, rfl, -, -, -⟩ := rdsL_open h_aS1
  obtain ⟨W1, hW1⟩ : ∃ X, w.alloc (.cells #[(Value.slice a_aS0 d_aS.heads_.length c_aS0), (Value.slice a_aS1 d_aS.descs_.length c_aS1)] 25) = X := ⟨_, rfl⟩
  have hbx1 : Below w.heap.size w W1 := by rw [← hW1]; exact (Below.refl _ _).alloc (Nat.le_refl _) _
  have zw1 : W1.heap.size = w.heap.size + 1 := by rw [← hW1]; simp
  have bx_aS : Box W1 (w.heap.size) [(Value.slice a_aS0 d_aS.heads_.length c_aS0), (Value.slice a_aS1 d_aS.descs_.length c_aS1)] := by rw [← hW1]; exact Box.alloc _ _ _
  obtain ⟨W2, hW2⟩ : ∃ X, W1.alloc (.cells #[Value.int .i64 d_aF.desc_, Value.int .i64 d_aF.phase_, Value.int .i64 d_aF.at_] 63) = X := ⟨_, rfl⟩
  have hbx2 : Below W1.heap.size W1 W2 := by rw [← hW2]; exact (Below.refl _ _).alloc (Nat.le_refl _) _
  have zw2 : W2.heap.size = W1.heap.size + 1 := by rw [← hW2]; simp
  replace bx_aS := Box.below bx_aS hbx2
  have bx_aF : Box W2 (w.heap.size + 1) [Value.int .i64 d_aF.desc_, Value.int .i64 d_aF.phase_, Value.int .i64 d_aF.at_] := by rw [← hW2, ← zw1]; exact Box.alloc _ _ _
  have hB0 : Below w.heap.size w W2 := (hbx1.trans (hbx2.mono (by omega)))
  replace h_aS0 := rdsL.below h_aS0 hB0
  replace h_aS1 := rdsL.below h_aS1 hB0
  have tt0 : Below W2.heap.size W2 W2 := Below.refl _ _
  have zb0 : W2.heap.size ≤ W2.heap.size := Nat.le_refl _
  go_enter Try.func7, Try.ntmps7
  have k1 : W2.cell? ⟨w.heap.size, 0, none⟩ = some ((Value.slice a_aS0 d_aS.heads_.length c_aS0)) := bx_aS.2 0 (by simp)
  have k2 : W2.cell? ⟨w.heap.size, 1, none⟩ = some ((Value.slice a_aS1 d_aS.descs_.length c_aS1)) := bx_aS.2 1 (by simp)
  have k3 : W2.cell? ⟨w.heap.size + 1, 0, none⟩ = some (Value.int .i64 d_aF.desc_) := bx_aF.2 0 (by simp)
  have k4 : W2.cell? ⟨w.heap.size + 1, 1, none⟩ = some (Value.int .i64 d_aF.phase_) := bx_aF.2 1 (by simp)
  have k5 : W2.cell? ⟨w.heap.size + 1, 2, none⟩ = some (Value.int .i64 d_aF.at_) := bx_aF.2 2 (by simp)
  go_wp2_with fail
  clear k1 k2 k3 k4 k5 hW1 hW2
  have hl0_aS : 0 ≤ (1048576 : Int) := by omega
  refine (szStore_o d_aS (Value.slice a_aS0 d_aS.heads_.length c_aS0) (Value.slice a_aS1 d_aS.descs_.length c_aS1) _ _ (by omega) (by omega) (rdsL.below h_aS0 tt0) (rdsL.below h_aS1 tt0)).mono ?_
  rintro e w6 ⟨rfl, b7⟩
  have t8 := Below.trans tt0 (Below.mono b7 zb0)
  replace bx_aS := Box.below bx_aS b7
  replace bx_aF := Box.below bx_aF b7
  have z9 := Below.size b7
  replace zb0 : W2.heap.size ≤ w6.heap.size := by omega
  by_cases big_aS : (1048576 : Int) < (szStoreD d_aS : Int)
  · rw [szR_of, if_pos big_aS]
    go_wp2
    go_ret
    exact ⟨rfl, hB0.trans (Below.mono t8 hB0.size)⟩
  rw [szR_of, if_neg big_aS]
  have k10 : w6.cell? ⟨w.heap.size, 0, none⟩ = some ((Value.slice a_aS0 d_aS.heads_.length c_aS0)) := bx_aS.2 0 (by simp)
  have k11 : w6.cell? ⟨w.heap.size, 1, none⟩ = some ((Value.slice a_aS1 d_aS.descs_.length c_aS1)) := bx_aS.2 1 (by simp)
  have k12 : w6.cell? ⟨w.heap.size + 1, 0, none⟩ = some (Value.int .i64 d_aF.desc_) := bx_aF.2 0 (by simp)
  have k13 : w6.cell? ⟨w.heap.size + 1, 1, none⟩ = some (Value.int .i64 d_aF.phase_) := bx_aF.2 1 (by simp)
  have k14 : w6.cell? ⟨w.heap.size + 1, 2, none⟩ = some (Value.int .i64 d_aF.at_) := bx_aF.2 2 (by simp)
  go_wp2_with fail
  clear k10 k11 k12 k13 k14
  have hb_aS : StoreB d_aS := by show _ ≤ 1048576; have := big_aS; unfold szStoreD at *; omega
  have lt32 := (bx_aS).1
  have lt33 := (bx_aF).1
  have k34 : w6.cell? ⟨w.heap.size, 0, none⟩ = some ((Value.slice a_aS0 d_aS.heads_.length c_aS0)) := bx_aS.2 0 (by simp)
  have k35 : w6.cell? ⟨w.heap.size, 1, none⟩ = some ((Value.slice a_aS1 d_aS.descs_.length c_aS1)) := bx_aS.2 1 (by simp)
  have k36 : w6.cell? ⟨w.heap.size + 1, 0, none⟩ = some (Value.int .i64 d_aF.desc_) := bx_aF.2 0 (by simp)
  have k37 : w6.cell? ⟨w.heap.size + 1, 1, none⟩ = some (Value.int .i64 d_aF.phase_) := bx_aF.2 1 (by simp)
  have k38 : w6.cell? ⟨w.heap.size + 1, 2, none⟩ = some (Value.int .i64 d_aF.at_) := bx_aF.2 2 (by simp)
  go_region_held3 (fun w' => Below w6.heap.size w6 w' ∧ w6.heap.size ≤ w'.heap.size ∧ w'.cell? ⟨w.heap.size, 0, none⟩ = some ((Value.slice a_aS0 d_aS.heads_.length c_aS0)) ∧ w'.cell? ⟨w.heap.size, 1, none⟩ = some ((Value.slice a_aS1 d_aS.descs_.length c_aS1)) ∧ w'.cell? ⟨w.heap.size + 1, 0, none⟩ = some (Value.int .i64 d_aF.desc_) ∧ w'.cell? ⟨w.heap.size + 1, 1, none⟩ = some (Value.int .i64 d_aF.phase_) ∧ w'.cell? ⟨w.heap.size + 1, 2, none⟩ = some (Value.int .i64 d_aF.at_))
    (first | exact ⟨(Below.refl _ _).drew, Nat.le_refl _, k34, k35, k36, k37, k38⟩ | exact keepBox5 (by omega) ‹_› ‹_›)
    (first
    | (go_at_call 32; have hz_w28 := hq_w15; refine (toFrame_c d_aF _).mono ?_; rintro e w28 ⟨rfl, b29⟩; have hq_w28 : Below w6.heap.size w6 w28 := Below.trans (hq_w15) (Below.mono b29 (Below.size (hq_w15))))
    | (go_at_call 12; refine (toStore_o d_aS (Value.slice a_aS0 d_aS.heads_.length c_aS0) (Value.slice a_aS1 d_aS.descs_.length c_aS1) _ (rdsL.below (rdsL.below h_aS0 t8) ((Below.refl _ _).drew : Below w6.heap.size w6 w6.drew)) (rdsL.below (rdsL.below h_aS1 t8) ((Below.refl _ _).drew : Below w6.heap.size w6 w6.drew)) hb_aS).mono ?_; rintro e w15 ⟨u17, u22, S18, S23, rfl, o19, o24, r20, r25, dj27, b16⟩; have hq_w15 : Below w6.heap.size w6 w15 := Below.trans ((Below.refl _ _).drew : Below w6.heap.size w6 w6.drew) (Below.mono b16 (Below.size ((Below.refl _ _).drew : Below w6.heap.size w6 w6.drew))))
    | (go_at_call 31; refine (spec_FrameOkW d_aS _ _ d_aF _ (rdsL.below (ownL.rds o19) b29) (rdsL.below (ownL.rds o24) b29) hb_aS).mono ?_; rintro e w30 ⟨rfl, b31⟩))
  clear k34 k35 k36 k37 k38
  have d39 : Below w6.heap.size w6 w6.drew := (Below.refl _ _).drew
  have t40 := Below.trans t8 (Below.mono d39 zb0)
  replace bx_aS := Box.below bx_aS d39
  replace bx_aF := Box.below bx_aF d39
  have z41 := Below.size d39
  replace zb0 : W2.heap.size ≤ w6.drew.heap.size := by omega
  have t42 := Below.trans t40 (Below.mono b16 zb0)
  replace bx_aS := Box.below bx_aS b16
  replace bx_aF := Box.below bx_aF b16
  have z43 := Below.size b16
  replace zb0 : W2.heap.size ≤ w15.heap.size := by omega
  have t44 := Below.trans t42 (Below.mono b29 zb0)
  replace bx_aS := Box.below bx_aS b29
  replace bx_aF := Box.below bx_aF b29
  have z45 := Below.size b29
  replace zb0 : W2.heap.size ≤ w28.heap.size := by omega
  have t46 := Below.trans t44 (Below.mono b31 zb0)
  replace bx_aS := Box.below bx_aS b31
  replace bx_aF := Box.below bx_aF b31
  have z47 := Below.size b31
  replace zb0 : W2.heap.size ≤ w30.heap.size := by omega
  have s48 : Below w30.heap.size w30 w30 := Below.refl _ _
  have za0 : w30.heap.size ≤ w30.heap.size := Nat.le_refl _
  have k49 : w30.cell? ⟨w.heap.size, 0, none⟩ = some ((Value.slice a_aS0 d_aS.heads_.length c_aS0)) := bx_aS.2 0 (by simp)
  have k50 : w30.cell? ⟨w.heap.size, 1, none⟩ = some ((Value.slice a_aS1 d_aS.descs_.length c_aS1)) := bx_aS.2 1 (by simp)
  have k51 : w30.cell? ⟨w.heap.size + 1, 0, none⟩ = some (Value.int .i64 d_aF.desc_) := bx_aF.2 0 (by simp)
  have k52 : w30.cell? ⟨w.heap.size + 1, 1, none⟩ = some (Value.int .i64 d_aF.phase_) := bx_aF.2 1 (by simp)
  have k53 : w30.cell? ⟨w.heap.size + 1, 2, none⟩ = some (Value.int .i64 d_aF.at_) := bx_aF.2 2 (by simp)
  go_wp2_with fail
  clear k49 k50 k51 k52 k53
  refine (toStore_o d_aS (Value.slice a_aS0 d_aS.heads_.length c_aS0) (Value.slice a_aS1 d_aS.descs_.length c_aS1) _ (rdsL.below h_aS0 t46) (rdsL.below h_aS1 t46) hb_aS).mono ?_
  rintro e w54 ⟨u56, u61, S57, S62, rfl, o58, o63, r59, r64, dj66, b55⟩
  have t67 := Below.trans t46 (Below.mono b55 zb0)
  have s68 := Below.trans s48 (Below.mono b55 za0)
  replace bx_aS := Box.below bx_aS b55
  replace bx_aF := Box.below bx_aF b55
  have z69 := Below.size b55
  replace zb0 : W2.heap.size ≤ w54.heap.size := by omega
  replace za0 : w30.heap.size ≤ w54.heap.size := by omega
  obtain ⟨a70, m71, c72, rfl⟩ := ownL_shape o58
  have hs60 := fun q hq => (r59 q hq).2
  obtain ⟨a73, m74, c75, rfl⟩ := ownL_shape o63
  have hs65 := fun q hq => (r64 q hq).2
  have k76 : w54.cell? ⟨w.heap.size, 0, none⟩ = some ((Value.slice a_aS0 d_aS.heads_.length c_aS0)) := bx_aS.2 0 (by simp)
  have k77 : w54.cell? ⟨w.heap.size, 1, none⟩ = some ((Value.slice a_aS1 d_aS.descs_.length c_aS1)) := bx_aS.2 1 (by simp)
  have k78 : w54.cell? ⟨w.heap.size + 1, 0, none⟩ = some (Value.int .i64 d_aF.desc_) := bx_aF.2 0 (by simp)
  have k79 : w54.cell? ⟨w.heap.size + 1, 1, none⟩ = some (Value.int .i64 d_aF.phase_) := bx_aF.2 1 (by simp)
  have k80 : w54.cell? ⟨w.heap.size + 1, 2, none⟩ = some (Value.int .i64 d_aF.at_) := bx_aF.2 2 (by simp)
  obtain ⟨X81, hX82⟩ : ∃ X, w54.alloc (.cells #[(Value.slice a70 m71 c72), (Value.slice a73 m74 c75)] 31) = X := ⟨_, rfl⟩
  have bX83 : Below w54.heap.size w54 X81 := by rw [← hX82]; exact (Below.refl _ _).alloc (Nat.le_refl _) _
  have zX81 : X81.heap.size = w54.heap.size + 1 := by rw [← hX82]; simp
  have t84 := Below.trans t67 (Below.mono bX83 zb0)
  have s85 := Below.trans s68 (Below.mono bX83 za0)
  replace o58 := ownL.keep o58 (fun q hq => Below.block bX83 q (hs60 q hq))
  replace hs60 := fun q hq => Nat.lt_of_lt_of_le (hs60 q hq) (Below.size bX83)
  replace o63 := ownL.keep o63 (fun q hq => Below.block bX83 q (hs65 q hq))
  replace hs65 := fun q hq => Nat.lt_of_lt_of_le (hs65 q hq) (Below.size bX83)
  replace bx_aS := Box.below bx_aS bX83
  replace bx_aF := Box.below bx_aF bX83
  have z86 := Below.size bX83
  replace zb0 : W2.heap.size ≤ X81.heap.size := by omega
  replace za0 : w30.heap.size ≤ X81.heap.size := by omega
  have bx87 : Box X81 (w54.heap.size) [(Value.slice a70 m71 c72), (Value.slice a73 m74 c75)] := by rw [← hX82]; exact Box.alloc _ _ _
  have k88 : X81.cell? ⟨w.heap.size, 0, none⟩ = some ((Value.slice a_aS0 d_aS.heads_.length c_aS0)) := bx_aS.2 0 (by simp)
  have k89 : X81.cell? ⟨w.heap.size, 1, none⟩ = some ((Value.slice a_aS1 d_aS.descs_.length c_aS1)) := bx_aS.2 1 (by simp)
  have k90 : X81.cell? ⟨w.heap.size + 1, 0, none⟩ = some (Value.int .i64 d_aF.desc_) := bx_aF.2 0 (by simp)
  have k91 : X81.cell? ⟨w.heap.size + 1, 1, none⟩ = some (Value.int .i64 d_aF.phase_) := bx_aF.2 1 (by simp)
  have k92 : X81.cell? ⟨w.heap.size + 1, 2, none⟩ = some (Value.int .i64 d_aF.at_) := bx_aF.2 2 (by simp)
  have k93 : X81.cell? ⟨w54.heap.size, 0, none⟩ = some ((Value.slice a70 m71 c72)) := bx87.2 0 (by simp)
  have k94 : X81.cell? ⟨w54.heap.size, 1, none⟩ = some ((Value.slice a73 m74 c75)) := bx87.2 1 (by simp)
  go_wp2_with fail
  clear k76 k77 k78 k79 k80 k88 k89 k90 k91 k92 k93 k94 hX82
  have lt99 := (bx_aS).1
  have lt100 := (bx_aF).1
  have lt101 := (bx87).1
  have k102 : X81.cell? ⟨w.heap.size, 0, none⟩ = some ((Value.slice a_aS0 d_aS.heads_.length c_aS0)) := bx_aS.2 0 (by simp)
  have k103 : X81.cell? ⟨w.heap.size, 1, none⟩ = some ((Value.slice a_aS1 d_aS.descs_.length c_aS1)) := bx_aS.2 1 (by simp)
  have k104 : X81.cell? ⟨w.heap.size + 1, 0, none⟩ = some (Value.int .i64 d_aF.desc_) := bx_aF.2 0 (by simp)
  have k105 : X81.cell? ⟨w.heap.size + 1, 1, none⟩ = some (Value.int .i64 d_aF.phase_) := bx_aF.2 1 (by simp)
  have k106 : X81.cell? ⟨w.heap.size + 1, 2, none⟩ = some (Value.int .i64 d_aF.at_) := bx_aF.2 2 (by simp)
  have k107 : X81.cell? ⟨w54.heap.size, 0, none⟩ = some ((Value.slice a70 m71 c72)) := bx87.2 0 (by simp)
  have k108 : X81.cell? ⟨w54.heap.size, 1, none⟩ = some ((Value.slice a73 m74 c75)) := bx87.2 1 (by simp)
  go_region_held3 (fun w' => Below X81.heap.size X81 w' ∧ X81.heap.size ≤ w'.heap.size ∧ w'.cell? ⟨w.heap.size, 0, none⟩ = some ((Value.slice a_aS0 d_aS.heads_.length c_aS0)) ∧ w'.cell? ⟨w.heap.size, 1, none⟩ = some ((Value.slice a_aS1 d_aS.descs_.length c_aS1)) ∧ w'.cell? ⟨w.heap.size + 1, 0, none⟩ = some (Value.int .i64 d_aF.desc_) ∧ w'.cell? ⟨w.heap.size + 1, 1, none⟩ = some (Value.int .i64 d_aF.phase_) ∧ w'.cell? ⟨w.heap.size + 1, 2, none⟩ = some (Value.int .i64 d_aF.at_) ∧ w'.cell? ⟨w54.heap.size, 0, none⟩ = some ((Value.slice a70 m71 c72)) ∧ w'.cell? ⟨w54.heap.size, 1, none⟩ = some ((Value.slice a73 m74 c75)))
    (first | exact ⟨(Below.refl _ _).drew, Nat.le_refl _, k102, k103, k104, k105, k106, k107, k108⟩ | exact keepBox7 (by omega) ‹_› ‹_›)
    (first
    | (go_at_call 32; refine (toFrame_c d_aF _).mono ?_; rintro e w95 ⟨rfl, b96⟩; have hq_w95 : Below X81.heap.size X81 w95 := Below.trans ((Below.refl _ _).drew : Below X81.heap.size X81 X81.drew) (Below.mono b96 (Below.size ((Below.refl _ _).drew : Below X81.heap.size X81 X81.drew))))
    | (go_at_call 33; refine (impl_FrameOkW d_aS _ _ d_aF _ (rdsL.below (ownL.rds o58) (hq_w95)) (rdsL.below (ownL.rds o63) (hq_w95)) hb_aS).mono ?_; rintro e w97 ⟨rfl, b98⟩))
  clear k102 k103 k104 k105 k106 k107 k108
  have d109 : Below X81.heap.size X81 X81.drew := (Below.refl _ _).drew
  have t110 := Below.trans t84 (Below.mono d109 zb0)
  have s111 := Below.trans s85 (Below.mono d109 za0)
  replace o58 := ownL.keep o58 (fun q hq => Below.block d109 q (hs60 q hq))
  replace hs60 := fun q hq => Nat.lt_of_lt_of_le (hs60 q hq) (Below.size d109)
  replace o63 := ownL.keep o63 (fun q hq => Below.block d109 q (hs65 q hq))
  replace hs65 := fun q hq => Nat.lt_of_lt_of_le (hs65 q hq) (Below.size d109)
  replace bx_aS := Box.below bx_aS d109
  replace bx_aF := Box.below bx_aF d109
  replace bx87 := Box.below bx87 d109
  have z112 := Below.size d109
  replace zb0 : W2.heap.size ≤ X81.drew.heap.size := by omega
  replace za0 : w30.heap.size ≤ X81.drew.heap.size := by omega
  have t113 := Below.trans t110 (Below.mono b96 zb0)
  have s114 := Below.trans s111 (Below.mono b96 za0)
  replace o58 := ownL.keep o58 (fun q hq => Below.block b96 q (hs60 q hq))
  replace hs60 := fun q hq => Nat.lt_of_lt_of_le (hs60 q hq) (Below.size b96)
  replace o63 := ownL.keep o63 (fun q hq => Below.block b96 q (hs65 q hq))
  replace hs65 := fun q hq => Nat.lt_of_lt_of_le (hs65 q hq) (Below.size b96)
  replace bx_aS := Box.below bx_aS b96
  replace bx_aF := Box.below bx_aF b96
  replace bx87 := Box.below bx87 b96
  have z115 := Below.size b96
  replace zb0 : W2.heap.size ≤ w95.heap.size := by omega
  replace za0 : w30.heap.size ≤ w95.heap.size := by omega
  have t116 := Below.trans t113 (Below.mono b98 zb0)
  have s117 := Below.trans s114 (Below.mono b98 za0)
  replace o58 := ownL.keep o58 (fun q hq => Below.block b98 q (hs60 q hq))
  replace hs60 := fun q hq => Nat.lt_of_lt_of_le (hs60 q hq) (Below.size b98)
  replace o63 := ownL.keep o63 (fun q hq => Below.block b98 q (hs65 q hq))
  replace hs65 := fun q hq => Nat.lt_of_lt_of_le (hs65 q hq) (Below.size b98)
  replace bx_aS := Box.below bx_aS b98
  replace bx_aF := Box.below bx_aF b98
  replace bx87 := Box.below bx87 b98
  have z118 := Below.size b98
  replace zb0 : W2.heap.size ≤ w97.heap.size := by omega
  replace za0 : w30.heap.size ≤ w97.heap.size := by omega
  have k119 : w97.cell? ⟨w.heap.size, 0, none⟩ = some ((Value.slice a_aS0 d_aS.heads_.length c_aS0)) := bx_aS.2 0 (by simp)
  have k120 : w97.cell? ⟨w.heap.size, 1, none⟩ = some ((Value.slice a_aS1 d_aS.descs_.length c_aS1)) := bx_aS.2 1 (by simp)
  have k121 : w97.cell? ⟨w.heap.size + 1, 0, none⟩ = some (Value.int .i64 d_aF.desc_) := bx_aF.2 0 (by simp)
  have k122 : w97.cell? ⟨w.heap.size + 1, 1, none⟩ = some (Value.int .i64 d_aF.phase_) := bx_aF.2 1 (by simp)
  have k123 : w97.cell? ⟨w.heap.size + 1, 2, none⟩ = some (Value.int .i64 d_aF.at_) := bx_aF.2 2 (by simp)
  have k124 : w97.cell? ⟨w54.heap.size, 0, none⟩ = some ((Value.slice a70 m71 c72)) := bx87.2 0 (by simp)
  have k125 : w97.cell? ⟨w54.heap.size, 1, none⟩ = some ((Value.slice a73 m74 c75)) := bx87.2 1 (by simp)
  go_wp2_with fail
  clear k119 k120 k121 k122 k123 k124 k125
  have lt141 := (bx_aS).1
  have lt142 := (bx_aF).1
  have lt143 := (bx87).1
  have k144 : w97.cell? ⟨w.heap.size, 0, none⟩ = some ((Value.slice a_aS0 d_aS.heads_.length c_aS0)) := bx_aS.2 0 (by simp)
  have k145 : w97.cell? ⟨w.heap.size, 1, none⟩ = some ((Value.slice a_aS1 d_aS.descs_.length c_aS1)) := bx_aS.2 1 (by simp)
  have k146 : w97.cell? ⟨w.heap.size + 1, 0, none⟩ = some (Value.int .i64 d_aF.desc_) := bx_aF.2 0 (by simp)
  have k147 : w97.cell? ⟨w.heap.size + 1, 1, none⟩ = some (Value.int .i64 d_aF.phase_) := bx_aF.2 1 (by simp)
  have k148 : w97.cell? ⟨w.heap.size + 1, 2, none⟩ = some (Value.int .i64 d_aF.at_) := bx_aF.2 2 (by simp)
  have k149 : w97.cell? ⟨w54.heap.size, 0, none⟩ = some ((Value.slice a70 m71 c72)) := bx87.2 0 (by simp)
  have k150 : w97.cell? ⟨w54.heap.size, 1, none⟩ = some ((Value.slice a73 m74 c75)) := bx87.2 1 (by simp)
  go_region_held3 (fun w' => Below w97.heap.size w97 w' ∧ w97.heap.size ≤ w'.heap.size ∧ w'.cell? ⟨w.heap.size, 0, none⟩ = some ((Value.slice a_aS0 d_aS.heads_.length c_aS0)) ∧ w'.cell? ⟨w.heap.size, 1, none⟩ = some ((Value.slice a_aS1 d_aS.descs_.length c_aS1)) ∧ w'.cell? ⟨w.heap.size + 1, 0, none⟩ = some (Value.int .i64 d_aF.desc_) ∧ w'.cell? ⟨w.heap.size + 1, 1, none⟩ = some (Value.int .i64 d_aF.phase_) ∧ w'.cell? ⟨w.heap.size + 1, 2, none⟩ = some (Value.int .i64 d_aF.at_) ∧ w'.cell? ⟨w54.heap.size, 0, none⟩ = some ((Value.slice a70 m71 c72)) ∧ w'.cell? ⟨w54.heap.size, 1, none⟩ = some ((Value.slice a73 m74 c75)))
    (first | exact ⟨(Below.refl _ _).drew, Nat.le_refl _, k144, k145, k146, k147, k148, k149, k150⟩ | exact keepBox7 (by omega) ‹_› ‹_›)
    (first
    | (go_at_call 12; refine (toStore_o d_aS (Value.slice a_aS0 d_aS.heads_.length c_aS0) (Value.slice a_aS1 d_aS.descs_.length c_aS1) _ (rdsL.below (rdsL.below h_aS0 t116) ((Below.refl _ _).drew : Below w97.heap.size w97 w97.drew)) (rdsL.below (rdsL.below h_aS1 t116) ((Below.refl _ _).drew : Below w97.heap.size w97 w97.drew)) hb_aS).mono ?_; rintro e w126 ⟨u128, u133, S129, S134, rfl, o130, o135, r131, r136, dj138, b127⟩; have hq_w126 : Below w97.heap.size w97 w126 := Below.trans ((Below.refl _ _).drew : Below w97.heap.size w97 w97.drew) (Below.mono b127 (Below.size ((Below.refl _ _).drew : Below w97.heap.size w97 w97.drew))))
    | (go_at_call 14; refine (eqStore_o _ _ _ _ _ _ (rdsL.below (rdsL.below (ownL.rds o58) ((Below.refl _ _).drew : Below w97.heap.size w97 w97.drew)) b127) (rdsL.below (rdsL.below (ownL.rds o63) ((Below.refl _ _).drew : Below w97.heap.size w97 w97.drew)) b127) (ownL.rds o130) (ownL.rds o135)).mono ?_; rintro e w139 ⟨rfl, b140⟩))
  clear k144 k145 k146 k147 k148 k149 k150
  have d151 : Below w97.heap.size w97 w97.drew := (Below.refl _ _).drew
  have t152 := Below.trans t116 (Below.mono d151 zb0)
  have s153 := Below.trans s117 (Below.mono d151 za0)
  replace o58 := ownL.keep o58 (fun q hq => Below.block d151 q (hs60 q hq))
  replace hs60 := fun q hq => Nat.lt_of_lt_of_le (hs60 q hq) (Below.size d151)
  replace o63 := ownL.keep o63 (fun q hq => Below.block d151 q (hs65 q hq))
  replace hs65 := fun q hq => Nat.lt_of_lt_of_le (hs65 q hq) (Below.size d151)
  replace bx_aS := Box.below bx_aS d151
  replace bx_aF := Box.below bx_aF d151
  replace bx87 := Box.below bx87 d151
  have z154 := Below.size d151
  replace zb0 : W2.heap.size ≤ w97.drew.heap.size := by omega
  replace za0 : w30.heap.size ≤ w97.drew.heap.size := by omega
  have t155 := Below.trans t152 (Below.mono b127 zb0)
  have s156 := Below.trans s153 (Below.mono b127 za0)
  replace o58 := ownL.keep o58 (fun q hq => Below.block b127 q (hs60 q hq))
  replace hs60 := fun q hq => Nat.lt_of_lt_of_le (hs60 q hq) (Below.size b127)
  replace o63 := ownL.keep o63 (fun q hq => Below.block b127 q (hs65 q hq))
  replace hs65 := fun q hq => Nat.lt_of_lt_of_le (hs65 q hq) (Below.size b127)
  replace bx_aS := Box.below bx_aS b127
  replace bx_aF := Box.below bx_aF b127
  replace bx87 := Box.below bx87 b127
  have z157 := Below.size b127
  replace zb0 : W2.heap.size ≤ w126.heap.size := by omega
  replace za0 : w30.heap.size ≤ w126.heap.size := by omega
  have t158 := Below.trans t155 (Below.mono b140 zb0)
  have s159 := Below.trans s156 (Below.mono b140 za0)
  replace o58 := ownL.keep o58 (fun q hq => Below.block b140 q (hs60 q hq))
  replace hs60 := fun q hq => Nat.lt_of_lt_of_le (hs60 q hq) (Below.size b140)
  replace o63 := ownL.keep o63 (fun q hq => Below.block b140 q (hs65 q hq))
  replace hs65 := fun q hq => Nat.lt_of_lt_of_le (hs65 q hq) (Below.size b140)
  replace bx_aS := Box.below bx_aS b140
  replace bx_aF := Box.below bx_aF b140
  replace bx87 := Box.below bx87 b140
  have z160 := Below.size b140
  replace zb0 : W2.heap.size ≤ w139.heap.size := by omega
  replace za0 : w30.heap.size ≤ w139.heap.size := by omega
  have k161 : w139.cell? ⟨w.heap.size, 0, none⟩ = some ((Value.slice a_aS0 d_aS.heads_.length c_aS0)) := bx_aS.2 0 (by simp)
  have k162 : w139.cell? ⟨w.heap.size, 1, none⟩ = some ((Value.slice a_aS1 d_aS.descs_.length c_aS1)) := bx_aS.2 1 (by simp)
  have k163 : w139.cell? ⟨w.heap.size + 1, 0, none⟩ = some (Value.int .i64 d_aF.desc_) := bx_aF.2 0 (by simp)
  have k164 : w139.cell? ⟨w.heap.size + 1, 1, none⟩ = some (Value.int .i64 d_aF.phase_) := bx_aF.2 1 (by simp)
  have k165 : w139.cell? ⟨w.heap.size + 1, 2, none⟩ = some (Value.int .i64 d_aF.at_) := bx_aF.2 2 (by simp)
  have k166 : w139.cell? ⟨w54.heap.size, 0, none⟩ = some ((Value.slice a70 m71 c72)) := bx87.2 0 (by simp)
  have k167 : w139.cell? ⟨w54.heap.size, 1, none⟩ = some ((Value.slice a73 m74 c75)) := bx87.2 1 (by simp)
  go_wp2_with fail
  clear k161 k162 k163 k164 k165 k166 k167
  try go_wp2
  go_ret
  exact ⟨rfl, hB0.trans (Below.mono t158 hB0.size)⟩

end Go.Proofs.Ytpdgpblekbongaa
