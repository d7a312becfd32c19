/- FnExactNewThread, walked. -/
import Derived.Test.YtikiaffgjpddeaaM7
import Derived.Test.YtikiaffgjpddeaaBx
import Derived.Test.YtikiaffgjpddeaaEnc4
import Derived.Test.YtikiaffgjpddeaaHop
import Derived.Test.YtikiaffgjpddeaaWr3
import Derived.Test.YtikiaffgjpddeaaKeep2
import Derived.Deep.RegionHeld3
import Derived.Deep.Cut
import Derived.StillTailTactics
namespace Go.Proofs.Ytikiaffgjpddeaa
set_option maxRecDepth 100000
open Go.RowKit Go.Proofs Go.Own
set_option linter.unusedVariables false

set_option maxRecDepth 100000 in
set_option maxHeartbeats 8000000 in
theorem law_NewThread (s_aId : Int) (d_aProg : List Instr) (v_aProg0 : Value) (w : World) (hi_aId : InI s_aId) (h_aProg0 : rdsL w v_aProg0 d_aProg) :
    Calls Try.prog 4 #[(.int .i64 s_aId), v_aProg0] w fun e w' => e = .returned (.bool true) ∧ Below w.heap.size w w' := by
  obtain ⟨a_aProg0, c_aProg0, rfl, -, -, -⟩ := rdsL_open h_aProg0
  have hB0 : Below w.heap.size w w := Below.refl _ _
  have tt0 : Below w.heap.size w w := Below.refl _ _
  have zb0 : w.heap.size ≤ w.heap.size := Nat.le_refl _
  go_enter Try.func4, Try.ntmps4
  go_wp2_with fail
  have hl0_aProg : 0 ≤ (1048576 : Int) := by omega
  refine (szInstrS_o d_aProg (Value.slice a_aProg0 d_aProg.length c_aProg0) _ _ (by omega) (by omega) (rdsL.below h_aProg0 tt0)).mono ?_
  rintro e w1 ⟨rfl, b2⟩
  have t3 := Below.trans tt0 (Below.mono b2 zb0)
  have z4 := Below.size b2
  replace zb0 : w.heap.size ≤ w1.heap.size := by omega
  by_cases big_aProg : (1048576 : Int) < (szInstrSD d_aProg : Int)
  · rw [szR_of, if_pos big_aProg]
    go_wp2
    go_ret
    exact ⟨rfl, hB0.trans (Below.mono t3 hB0.size)⟩
  rw [szR_of, if_neg big_aProg]
  go_wp2_with fail
  have hb_aProg : InstrSB d_aProg := by show _ ≤ 1048576; have := big_aProg; unfold szInstrSD at *; omega
  refine (toInstrS_o d_aProg (Value.slice a_aProg0 d_aProg.length c_aProg0) _ (rdsL.below h_aProg0 t3) hb_aProg).mono ?_
  rintro e w5 ⟨u7, S8, rfl, o9, r10, b6⟩
  have t12 := Below.trans t3 (Below.mono b6 zb0)
  have z13 := Below.size b6
  replace zb0 : w.heap.size ≤ w5.heap.size := by omega
  obtain ⟨a14, m15, c16, rfl⟩ := ownL_shape o9
  have hs11 := fun q hq => (r10 q hq).2
  go_wp2_with fail
  refine (spec_NewThreadW s_aId d_aProg (Value.slice a14 m15 c16) _ (ownL.rds o9) hb_aProg).mono ?_
  rintro e w17 ⟨u19, u24, u29, rfl, o21, o26, o31, b18⟩
  have t34 := Below.trans t12 (Below.mono b18 zb0)
  have z35 := Below.size b18
  replace zb0 : w.heap.size ≤ w17.heap.size := by omega
  obtain ⟨a36, m37, c38, rfl⟩ := rdsL_shape o21
  obtain ⟨a39, m40, c41, rfl⟩ := rdsL_shape o26
  obtain ⟨a42, m43, c44, rfl⟩ := rdsL_shape o31
  have s45 : Below w17.heap.size w17 w17 := Below.refl _ _
  have za0 : w17.heap.size ≤ w17.heap.size := Nat.le_refl _
  obtain ⟨X46, hX47⟩ : ∃ X, w17.alloc (.cells #[Value.int .i64 (newThread s_aId d_aProg).id_, (Value.slice a36 m37 c38), Value.int .i64 (newThread s_aId d_aProg).at_, Value.int .i64 (newThread s_aId d_aProg).reg0_, Value.int .i64 (newThread s_aId d_aProg).reg1_, Value.int .i64 (newThread s_aId d_aProg).reg2_, Value.int .i64 (newThread s_aId d_aProg).reg3_, (Value.slice a39 m40 c41), Value.int .i64 (newThread s_aId d_aProg).check_, (Value.slice a42 m43 c44), Value.int .i64 (newThread s_aId d_aProg).mine_, Value.int .i64 (newThread s_aId d_aProg).state_, Value.int .i64 (newThread s_aId d_aProg).commits_, Value.int .i64 (newThread s_aId d_aProg).fails_] 44) = X := ⟨_, rfl⟩
  have bX48 : Below w17.heap.size w17 X46 := by rw [← hX47]; exact (Below.refl _ _).alloc (Nat.le_refl _) _
  have zX46 : X46.heap.size = w17.heap.size + 1 := by rw [← hX47]; simp
  have t49 := Below.trans t34 (Below.mono bX48 zb0)
  have s50 := Below.trans s45 (Below.mono bX48 za0)
  have z51 := Below.size bX48
  replace zb0 : w.heap.size ≤ X46.heap.size := by omega
  replace za0 : w17.heap.size ≤ X46.heap.size := by omega
  have bx52 : Box X46 (w17.heap.size) [Value.int .i64 (newThread s_aId d_aProg).id_, (Value.slice a36 m37 c38), Value.int .i64 (newThread s_aId d_aProg).at_, Value.int .i64 (newThread s_aId d_aProg).reg0_, Value.int .i64 (newThread s_aId d_aProg).reg1_, Value.int .i64 (newThread s_aId d_aProg).reg2_, Value.int .i64 (newThread s_aId d_aProg).reg3_, (Value.slice a39 m40 c41), Value.int .i64 (newThread s_aId d_aProg).check_, (Value.slice a42 m43 c44), Value.int .i64 (newThread s_aId d_aProg).mine_, Value.int .i64 (newThread s_aId d_aProg).state_, Value.int .i64 (newThread s_aId d_aProg).commits_, Value.int .i64 (newThread s_aId d_aProg).fails_] := by rw [← hX47]; exact Box.alloc _ _ _
  have k53 : X46.cell? ⟨w17.heap.size, 0, none⟩ = some (Value.int .i64 (newThread s_aId d_aProg).id_) := bx52.2 0 (by simp)
  have k54 : X46.cell? ⟨w17.heap.size, 1, none⟩ = some ((Value.slice a36 m37 c38)) := bx52.2 1 (by simp)
  have k55 : X46.cell? ⟨w17.heap.size, 2, none⟩ = some (Value.int .i64 (newThread s_aId d_aProg).at_) := bx52.2 2 (by simp)
  have k56 : X46.cell? ⟨w17.heap.size, 3, none⟩ = some (Value.int .i64 (newThread s_aId d_aProg).reg0_) := bx52.2 3 (by simp)
  have k57 : X46.cell? ⟨w17.heap.size, 4, none⟩ = some (Value.int .i64 (newThread s_aId d_aProg).reg1_) := bx52.2 4 (by simp)
  have k58 : X46.cell? ⟨w17.heap.size, 5, none⟩ = some (Value.int .i64 (newThread s_aId d_aProg).reg2_) := bx52.2 5 (by simp)
  have k59 : X46.cell? ⟨w17.heap.size, 6, none⟩ = some (Value.int .i64 (newThread s_aId d_aProg).reg3_) := bx52.2 6 (by simp)
  have k60 : X46.cell? ⟨w17.heap.size, 7, none⟩ = some ((Value.slice a39 m40 c41)) := bx52.2 7 (by simp)
  have k61 : X46.cell? ⟨w17.heap.size, 8, none⟩ = some (Value.int .i64 (newThread s_aId d_aProg).check_) := bx52.2 8 (by simp)
  have k62 : X46.cell? ⟨w17.heap.size, 9, none⟩ = some ((Value.slice a42 m43 c44)) := bx52.2 9 (by simp)
  have k63 : X46.cell? ⟨w17.heap.size, 10, none⟩ = some (Value.int .i64 (newThread s_aId d_aProg).mine_) := bx52.2 10 (by simp)
  have k64 : X46.cell? ⟨w17.heap.size, 11, none⟩ = some (Value.int .i64 (newThread s_aId d_aProg).state_) := bx52.2 11 (by simp)
  have k65 : X46.cell? ⟨w17.heap.size, 12, none⟩ = some (Value.int .i64 (newThread s_aId d_aProg).commits_) := bx52.2 12 (by simp)
  have k66 : X46.cell? ⟨w17.heap.size, 13, none⟩ = some (Value.int .i64 (newThread s_aId d_aProg).fails_) := bx52.2 13 (by simp)
  go_wp2_with fail
  clear k53 k54 k55 k56 k57 k58 k59 k60 k61 k62 k63 k64 k65 k66 hX47
  refine (toInstrS_o d_aProg (Value.slice a_aProg0 d_aProg.length c_aProg0) _ (rdsL.below h_aProg0 t49) hb_aProg).mono ?_
  rintro e w67 ⟨u69, S70, rfl, o71, r72, b68⟩
  have t74 := Below.trans t49 (Below.mono b68 zb0)
  have s75 := Below.trans s50 (Below.mono b68 za0)
  replace bx52 := Box.below bx52 b68
  have z76 := Below.size b68
  replace zb0 : w.heap.size ≤ w67.heap.size := by omega
  replace za0 : w17.heap.size ≤ w67.heap.size := by omega
  obtain ⟨a77, m78, c79, rfl⟩ := ownL_shape o71
  have hs73 := fun q hq => (r72 q hq).2
  have k80 : w67.cell? ⟨w17.heap.size, 0, none⟩ = some (Value.int .i64 (newThread s_aId d_aProg).id_) := bx52.2 0 (by simp)
  have k81 : w67.cell? ⟨w17.heap.size, 1, none⟩ = some ((Value.slice a36 m37 c38)) := bx52.2 1 (by simp)
  have k82 : w67.cell? ⟨w17.heap.size, 2, none⟩ = some (Value.int .i64 (newThread s_aId d_aProg).at_) := bx52.2 2 (by simp)
  have k83 : w67.cell? ⟨w17.heap.size, 3, none⟩ = some (Value.int .i64 (newThread s_aId d_aProg).reg0_) := bx52.2 3 (by simp)
  have k84 : w67.cell? ⟨w17.heap.size, 4, none⟩ = some (Value.int .i64 (newThread s_aId d_aProg).reg1_) := bx52.2 4 (by simp)
  have k85 : w67.cell? ⟨w17.heap.size, 5, none⟩ = some (Value.int .i64 (newThread s_aId d_aProg).reg2_) := bx52.2 5 (by simp)
  have k86 : w67.cell? ⟨w17.heap.size, 6, none⟩ = some (Value.int .i64 (newThread s_aId d_aProg).reg3_) := bx52.2 6 (by simp)
  have k87 : w67.cell? ⟨w17.heap.size, 7, none⟩ = some ((Value.slice a39 m40 c41)) := bx52.2 7 (by simp)
  have k88 : w67.cell? ⟨w17.heap.size, 8, none⟩ = some (Value.int .i64 (newThread s_aId d_aProg).check_) := bx52.2 8 (by simp)
  have k89 : w67.cell? ⟨w17.heap.size, 9, none⟩ = some ((Value.slice a42 m43 c44)) := bx52.2 9 (by simp)
  have k90 : w67.cell? ⟨w17.heap.size, 10, none⟩ = some (Value.int .i64 (newThread s_aId d_aProg).mine_) := bx52.2 10 (by simp)
  have k91 : w67.cell? ⟨w17.heap.size, 11, none⟩ = some (Value.int .i64 (newThread s_aId d_aProg).state_) := bx52.2 11 (by simp)
  have k92 : w67.cell? ⟨w17.heap.size, 12, none⟩ = some (Value.int .i64 (newThread s_aId d_aProg).commits_) := bx52.2 12 (by simp)
  have k93 : w67.cell? ⟨w17.heap.size, 13, none⟩ = some (Value.int .i64 (newThread s_aId d_aProg).fails_) := bx52.2 13 (by simp)
  go_wp2_with fail
  clear k80 k81 k82 k83 k84 k85 k86 k87 k88 k89 k90 k91 k92 k93
  refine (impl_NewThreadW s_aId d_aProg (Value.slice a77 m78 c79) _ (ownL.rds o71) hb_aProg).mono ?_
  rintro e w94 ⟨u96, u101, u106, S97, S102, S107, rfl, o98, o103, o108, r99, r104, r109, dj112, dj113, dj114, hb111, b95⟩
  have t115 := Below.trans t74 (Below.mono b95 zb0)
  have s116 := Below.trans s75 (Below.mono b95 za0)
  replace o71 := ownL.keep o71 (fun q hq => Below.block b95 q (hs73 q hq))
  replace hs73 := fun q hq => Nat.lt_of_lt_of_le (hs73 q hq) (Below.size b95)
  replace bx52 := Box.below bx52 b95
  have z117 := Below.size b95
  replace zb0 : w.heap.size ≤ w94.heap.size := by omega
  replace za0 : w17.heap.size ≤ w94.heap.size := by omega
  obtain ⟨a118, m119, c120, rfl⟩ := ownL_shape o98
  have hs100 := fun q hq => (r99 q hq).2
  obtain ⟨a121, m122, c123, rfl⟩ := ownL_shape o103
  have hs105 := fun q hq => (r104 q hq).2
  obtain ⟨a124, m125, c126, rfl⟩ := ownL_shape o108
  have hs110 := fun q hq => (r109 q hq).2
  have k127 : w94.cell? ⟨w17.heap.size, 0, none⟩ = some (Value.int .i64 (newThread s_aId d_aProg).id_) := bx52.2 0 (by simp)
  have k128 : w94.cell? ⟨w17.heap.size, 1, none⟩ = some ((Value.slice a36 m37 c38)) := bx52.2 1 (by simp)
  have k129 : w94.cell? ⟨w17.heap.size, 2, none⟩ = some (Value.int .i64 (newThread s_aId d_aProg).at_) := bx52.2 2 (by simp)
  have k130 : w94.cell? ⟨w17.heap.size, 3, none⟩ = some (Value.int .i64 (newThread s_aId d_aProg).reg0_) := bx52.2 3 (by simp)
  have k131 : w94.cell? ⟨w17.heap.size, 4, none⟩ = some (Value.int .i64 (newThread s_aId d_aProg).reg1_) := bx52.2 4 (by simp)
  have k132 : w94.cell? ⟨w17.heap.size, 5, none⟩ = some (Value.int .i64 (newThread s_aId d_aProg).reg2_) := bx52.2 5 (by simp)
  have k133 : w94.cell? ⟨w17.heap.size, 6, none⟩ = some (Value.int .i64 (newThread s_aId d_aProg).reg3_) := bx52.2 6 (by simp)
  have k134 : w94.cell? ⟨w17.heap.size, 7, none⟩ = some ((Value.slice a39 m40 c41)) := bx52.2 7 (by simp)
  have k135 : w94.cell? ⟨w17.heap.size, 8, none⟩ = some (Value.int .i64 (newThread s_aId d_aProg).check_) := bx52.2 8 (by simp)
  have k136 : w94.cell? ⟨w17.heap.size, 9, none⟩ = some ((Value.slice a42 m43 c44)) := bx52.2 9 (by simp)
  have k137 : w94.cell? ⟨w17.heap.size, 10, none⟩ = some (Value.int .i64 (newThread s_aId d_aProg).mine_) := bx52.2 10 (by simp)
  have k138 : w94.cell? ⟨w17.heap.size, 11, none⟩ = some (Value.int .i64 (newThread s_aId d_aProg).state_) := bx52.2 11 (by simp)
  have k139 : w94.cell? ⟨w17.heap.size, 12, none⟩ = some (Value.int .i64 (newThread s_aId d_aProg).commits_) := bx52.2 12 (by simp)
  have k140 : w94.cell? ⟨w17.heap.size, 13, none⟩ = some (Value.int .i64 (newThread s_aId d_aProg).fails_) := bx52.2 13 (by simp)
  obtain ⟨X141, hX142⟩ : ∃ X, w94.alloc (.cells #[Value.int .i64 (newThread s_aId d_aProg).id_, (Value.slice a118 m119 c120), Value.int .i64 (newThread s_aId d_aProg).at_, Value.int .i64 (newThread s_aId d_aProg).reg0_, Value.int .i64 (newThread s_aId d_aProg).reg1_, Value.int .i64 (newThread s_aId d_aProg).reg2_, Value.int .i64 (newThread s_aId d_aProg).reg3_, (Value.slice a121 m122 c123), Value.int .i64 (newThread s_aId d_aProg).check_, (Value.slice a124 m125 c126), Value.int .i64 (newThread s_aId d_aProg).mine_, Value.int .i64 (newThread s_aId d_aProg).state_, Value.int .i64 (newThread s_aId d_aProg).commits_, Value.int .i64 (newThread s_aId d_aProg).fails_] 44) = X := ⟨_, rfl⟩
  have bX143 : Below w94.heap.size w94 X141 := by rw [← hX142]; exact (Below.refl _ _).alloc (Nat.le_refl _) _
  have zX141 : X141.heap.size = w94.heap.size + 1 := by rw [← hX142]; simp
  have t144 := Below.trans t115 (Below.mono bX143 zb0)
  have s145 := Below.trans s116 (Below.mono bX143 za0)
  replace o71 := ownL.keep o71 (fun q hq => Below.block bX143 q (hs73 q hq))
  replace hs73 := fun q hq => Nat.lt_of_lt_of_le (hs73 q hq) (Below.size bX143)
  replace o98 := ownL.keep o98 (fun q hq => Below.block bX143 q (hs100 q hq))
  replace hs100 := fun q hq => Nat.lt_of_lt_of_le (hs100 q hq) (Below.size bX143)
  replace o103 := ownL.keep o103 (fun q hq => Below.block bX143 q (hs105 q hq))
  replace hs105 := fun q hq => Nat.lt_of_lt_of_le (hs105 q hq) (Below.size bX143)
  replace o108 := ownL.keep o108 (fun q hq => Below.block bX143 q (hs110 q hq))
  replace hs110 := fun q hq => Nat.lt_of_lt_of_le (hs110 q hq) (Below.size bX143)
  replace bx52 := Box.below bx52 bX143
  have z146 := Below.size bX143
  replace zb0 : w.heap.size ≤ X141.heap.size := by omega
  replace za0 : w17.heap.size ≤ X141.heap.size := by omega
  have bx147 : Box X141 (w94.heap.size) [Value.int .i64 (newThread s_aId d_aProg).id_, (Value.slice a118 m119 c120), Value.int .i64 (newThread s_aId d_aProg).at_, Value.int .i64 (newThread s_aId d_aProg).reg0_, Value.int .i64 (newThread s_aId d_aProg).reg1_, Value.int .i64 (newThread s_aId d_aProg).reg2_, Value.int .i64 (newThread s_aId d_aProg).reg3_, (Value.slice a121 m122 c123), Value.int .i64 (newThread s_aId d_aProg).check_, (Value.slice a124 m125 c126), Value.int .i64 (newThread s_aId d_aProg).mine_, Value.int .i64 (newThread s_aId d_aProg).state_, Value.int .i64 (newThread s_aId d_aProg).commits_, Value.int .i64 (newThread s_aId d_aProg).fails_] := by rw [← hX142]; exact Box.alloc _ _ _
  have k148 : X141.cell? ⟨w17.heap.size, 0, none⟩ = some (Value.int .i64 (newThread s_aId d_aProg).id_) := bx52.2 0 (by simp)
  have k149 : X141.cell? ⟨w17.heap.size, 1, none⟩ = some ((Value.slice a36 m37 c38)) := bx52.2 1 (by simp)
  have k150 : X141.cell? ⟨w17.heap.size, 2, none⟩ = some (Value.int .i64 (newThread s_aId d_aProg).at_) := bx52.2 2 (by simp)
  have k151 : X141.cell? ⟨w17.heap.size, 3, none⟩ = some (Value.int .i64 (newThread s_aId d_aProg).reg0_) := bx52.2 3 (by simp)
  have k152 : X141.cell? ⟨w17.heap.size, 4, none⟩ = some (Value.int .i64 (newThread s_aId d_aProg).reg1_) := bx52.2 4 (by simp)
  have k153 : X141.cell? ⟨w17.heap.size, 5, none⟩ = some (Value.int .i64 (newThread s_aId d_aProg).reg2_) := bx52.2 5 (by simp)
  have k154 : X141.cell? ⟨w17.heap.size, 6, none⟩ = some (Value.int .i64 (newThread s_aId d_aProg).reg3_) := bx52.2 6 (by simp)
  have k155 : X141.cell? ⟨w17.heap.size, 7, none⟩ = some ((Value.slice a39 m40 c41)) := bx52.2 7 (by simp)
  have k156 : X141.cell? ⟨w17.heap.size, 8, none⟩ = some (Value.int .i64 (newThread s_aId d_aProg).check_) := bx52.2 8 (by simp)
  have k157 : X141.cell? ⟨w17.heap.size, 9, none⟩ = some ((Value.slice a42 m43 c44)) := bx52.2 9 (by simp)
  have k158 : X141.cell? ⟨w17.heap.size, 10, none⟩ = some (Value.int .i64 (newThread s_aId d_aProg).mine_) := bx52.2 10 (by simp)
  have k159 : X141.cell? ⟨w17.heap.size, 11, none⟩ = some (Value.int .i64 (newThread s_aId d_aProg).state_) := bx52.2 11 (by simp)
  have k160 : X141.cell? ⟨w17.heap.size, 12, none⟩ = some (Value.int .i64 (newThread s_aId d_aProg).commits_) := bx52.2 12 (by simp)
  have k161 : X141.cell? ⟨w17.heap.size, 13, none⟩ = some (Value.int .i64 (newThread s_aId d_aProg).fails_) := bx52.2 13 (by simp)
  have k162 : X141.cell? ⟨w94.heap.size, 0, none⟩ = some (Value.int .i64 (newThread s_aId d_aProg).id_) := bx147.2 0 (by simp)
  have k163 : X141.cell? ⟨w94.heap.size, 1, none⟩ = some ((Value.slice a118 m119 c120)) := bx147.2 1 (by simp)
  have k164 : X141.cell? ⟨w94.heap.size, 2, none⟩ = some (Value.int .i64 (newThread s_aId d_aProg).at_) := bx147.2 2 (by simp)
  have k165 : X141.cell? ⟨w94.heap.size, 3, none⟩ = some (Value.int .i64 (newThread s_aId d_aProg).reg0_) := bx147.2 3 (by simp)
  have k166 : X141.cell? ⟨w94.heap.size, 4, none⟩ = some (Value.int .i64 (newThread s_aId d_aProg).reg1_) := bx147.2 4 (by simp)
  have k167 : X141.cell? ⟨w94.heap.size, 5, none⟩ = some (Value.int .i64 (newThread s_aId d_aProg).reg2_) := bx147.2 5 (by simp)
  have k168 : X141.cell? ⟨w94.heap.size, 6, none⟩ = some (Value.int .i64 (newThread s_aId d_aProg).reg3_) := bx147.2 6 (by simp)
  have k169 : X141.cell? ⟨w94.heap.size, 7, none⟩ = some ((Value.slice a121 m122 c123)) := bx147.2 7 (by simp)
  have k170 : X141.cell? ⟨w94.heap.size, 8, none⟩ = some (Value.int .i64 (newThread s_aId d_aProg).check_) := bx147.2 8 (by simp)
  have k171 : X141.cell? ⟨w94.heap.size, 9, none⟩ = some ((Value.slice a124 m125 c126)) := bx147.2 9 (by simp)
  have k172 : X141.cell? ⟨w94.heap.size, 10, none⟩ = some (Value.int .i64 (newThread s_aId d_aProg).mine_) := bx147.2 10 (by simp)
  have k173 : X141.cell? ⟨w94.heap.size, 11, none⟩ = some (Value.int .i64 (newThread s_aId d_aProg).state_) := bx147.2 11 (by simp)
  have k174 : X141.cell? ⟨w94.heap.size, 12, none⟩ = some (Value.int .i64 (newThread s_aId d_aProg).commits_) := bx147.2 12 (by simp)
  have k175 : X141.cell? ⟨w94.heap.size, 13, none⟩ = some (Value.int .i64 (newThread s_aId d_aProg).fails_) := bx147.2 13 (by simp)
  go_wp2_with fail
  clear k127 k128 k129 k130 k131 k132 k133 k134 k135 k136 k137 k138 k139 k140 k148 k149 k150 k151 k152 k153 k154 k155 k156 k157 k158 k159 k160 k161 k162 k163 k164 k165 k166 k167 k168 k169 k170 k171 k172 k173 k174 k175 hX142
  refine (eqThread_o _ _ _ _ _ _ _ _ (ownL.rds o98) (ownL.rds o103) (ownL.rds o108) (rdsL.below o21 s145) (rdsL.below o26 s145) (rdsL.below o31 s145)).mono ?_
  rintro e w176 ⟨rfl, b177⟩
  have t178 := Below.trans t144 (Below.mono b177 zb0)
  have s179 := Below.trans s145 (Below.mono b177 za0)
  replace o71 := ownL.keep o71 (fun q hq => Below.block b177 q (hs73 q hq))
  replace hs73 := fun q hq => Nat.lt_of_lt_of_le (hs73 q hq) (Below.size b177)
  replace o98 := ownL.keep o98 (fun q hq => Below.block b177 q (hs100 q hq))
  replace hs100 := fun q hq => Nat.lt_of_lt_of_le (hs100 q hq) (Below.size b177)
  replace o103 := ownL.keep o103 (fun q hq => Below.block b177 q (hs105 q hq))
  replace hs105 := fun q hq => Nat.lt_of_lt_of_le (hs105 q hq) (Below.size b177)
  replace o108 := ownL.keep o108 (fun q hq => Below.block b177 q (hs110 q hq))
  replace hs110 := fun q hq => Nat.lt_of_lt_of_le (hs110 q hq) (Below.size b177)
  replace bx52 := Box.below bx52 b177
  replace bx147 := Box.below bx147 b177
  have z180 := Below.size b177
  replace zb0 : w.heap.size ≤ w176.heap.size := by omega
  replace za0 : w17.heap.size ≤ w176.heap.size := by omega
  have k181 : w176.cell? ⟨w17.heap.size, 0, none⟩ = some (Value.int .i64 (newThread s_aId d_aProg).id_) := bx52.2 0 (by simp)
  have k182 : w176.cell? ⟨w17.heap.size, 1, none⟩ = some ((Value.slice a36 m37 c38)) := bx52.2 1 (by simp)
  have k183 : w176.cell? ⟨w17.heap.size, 2, none⟩ = some (Value.int .i64 (newThread s_aId d_aProg).at_) := bx52.2 2 (by simp)
  have k184 : w176.cell? ⟨w17.heap.size, 3, none⟩ = some (Value.int .i64 (newThread s_aId d_aProg).reg0_) := bx52.2 3 (by simp)
  have k185 : w176.cell? ⟨w17.heap.size, 4, none⟩ = some (Value.int .i64 (newThread s_aId d_aProg).reg1_) := bx52.2 4 (by simp)
  have k186 : w176.cell? ⟨w17.heap.size, 5, none⟩ = some (Value.int .i64 (newThread s_aId d_aProg).reg2_) := bx52.2 5 (by simp)
  have k187 : w176.cell? ⟨w17.heap.size, 6, none⟩ = some (Value.int .i64 (newThread s_aId d_aProg).reg3_) := bx52.2 6 (by simp)
  have k188 : w176.cell? ⟨w17.heap.size, 7, none⟩ = some ((Value.slice a39 m40 c41)) := bx52.2 7 (by simp)
  have k189 : w176.cell? ⟨w17.heap.size, 8, none⟩ = some (Value.int .i64 (newThread s_aId d_aProg).check_) := bx52.2 8 (by simp)
  have k190 : w176.cell? ⟨w17.heap.size, 9, none⟩ = some ((Value.slice a42 m43 c44)) := bx52.2 9 (by simp)
  have k191 : w176.cell? ⟨w17.heap.size, 10, none⟩ = some (Value.int .i64 (newThread s_aId d_aProg).mine_) := bx52.2 10 (by simp)
  have k192 : w176.cell? ⟨w17.heap.size, 11, none⟩ = some (Value.int .i64 (newThread s_aId d_aProg).state_) := bx52.2 11 (by simp)
  have k193 : w176.cell? ⟨w17.heap.size, 12, none⟩ = some (Value.int .i64 (newThread s_aId d_aProg).commits_) := bx52.2 12 (by simp)
  have k194 : w176.cell? ⟨w17.heap.size, 13, none⟩ = some (Value.int .i64 (newThread s_aId d_aProg).fails_) := bx52.2 13 (by simp)
  have k195 : w176.cell? ⟨w94.heap.size, 0, none⟩ = some (Value.int .i64 (newThread s_aId d_aProg).id_) := bx147.2 0 (by simp)
  have k196 : w176.cell? ⟨w94.heap.size, 1, none⟩ = some ((Value.slice a118 m119 c120)) := bx147.2 1 (by simp)
  have k197 : w176.cell? ⟨w94.heap.size, 2, none⟩ = some (Value.int .i64 (newThread s_aId d_aProg).at_) := bx147.2 2 (by simp)
  have k198 : w176.cell? ⟨w94.heap.size, 3, none⟩ = some (Value.int .i64 (newThread s_aId d_aProg).reg0_) := bx147.2 3 (by simp)
  have k199 : w176.cell? ⟨w94.heap.size, 4, none⟩ = some (Value.int .i64 (newThread s_aId d_aProg).reg1_) := bx147.2 4 (by simp)
  have k200 : w176.cell? ⟨w94.heap.size, 5, none⟩ = some (Value.int .i64 (newThread s_aId d_aProg).reg2_) := bx147.2 5 (by simp)
  have k201 : w176.cell? ⟨w94.heap.size, 6, none⟩ = some (Value.int .i64 (newThread s_aId d_aProg).reg3_) := bx147.2 6 (by simp)
  have k202 : w176.cell? ⟨w94.heap.size, 7, none⟩ = some ((Value.slice a121 m122 c123)) := bx147.2 7 (by simp)
  have k203 : w176.cell? ⟨w94.heap.size, 8, none⟩ = some (Value.int .i64 (newThread s_aId d_aProg).check_) := bx147.2 8 (by simp)
  have k204 : w176.cell? ⟨w94.heap.size, 9, none⟩ = some ((Value.slice a124 m125 c126)) := bx147.2 9 (by simp)
  have k205 : w176.cell? ⟨w94.heap.size, 10, none⟩ = some (Value.int .i64 (newThread s_aId d_aProg).mine_) := bx147.2 10 (by simp)
  have k206 : w176.cell? ⟨w94.heap.size, 11, none⟩ = some (Value.int .i64 (newThread s_aId d_aProg).state_) := bx147.2 11 (by simp)
  have k207 : w176.cell? ⟨w94.heap.size, 12, none⟩ = some (Value.int .i64 (newThread s_aId d_aProg).commits_) := bx147.2 12 (by simp)
  have k208 : w176.cell? ⟨w94.heap.size, 13, none⟩ = some (Value.int .i64 (newThread s_aId d_aProg).fails_) := bx147.2 13 (by simp)
  go_wp2_with fail
  clear k181 k182 k183 k184 k185 k186 k187 k188 k189 k190 k191 k192 k193 k194 k195 k196 k197 k198 k199 k200 k201 k202 k203 k204 k205 k206 k207 k208
  refine (toInstrS_o d_aProg (Value.slice a_aProg0 d_aProg.length c_aProg0) _ (rdsL.below h_aProg0 t178) hb_aProg).mono ?_
  rintro e w209 ⟨u211, S212, rfl, o213, r214, b210⟩
  have t216 := Below.trans t178 (Below.mono b210 zb0)
  have s217 := Below.trans s179 (Below.mono b210 za0)
  replace o71 := ownL.keep o71 (fun q hq => Below.block b210 q (hs73 q hq))
  replace hs73 := fun q hq => Nat.lt_of_lt_of_le (hs73 q hq) (Below.size b210)
  replace o98 := ownL.keep o98 (fun q hq => Below.block b210 q (hs100 q hq))
  replace hs100 := fun q hq => Nat.lt_of_lt_of_le (hs100 q hq) (Below.size b210)
  replace o103 := ownL.keep o103 (fun q hq => Below.block b210 q (hs105 q hq))
  replace hs105 := fun q hq => Nat.lt_of_lt_of_le (hs105 q hq) (Below.size b210)
  replace o108 := ownL.keep o108 (fun q hq => Below.block b210 q (hs110 q hq))
  replace hs110 := fun q hq => Nat.lt_of_lt_of_le (hs110 q hq) (Below.size b210)
  replace bx52 := Box.below bx52 b210
  replace bx147 := Box.below bx147 b210
  have z218 := Below.size b210
  replace zb0 : w.heap.size ≤ w209.heap.size := by omega
  replace za0 : w17.heap.size ≤ w209.heap.size := by omega
  obtain ⟨a219, m220, c221, rfl⟩ := ownL_shape o213
  have hs215 := fun q hq => (r214 q hq).2
  have k222 : w209.cell? ⟨w17.heap.size, 0, none⟩ = some (Value.int .i64 (newThread s_aId d_aProg).id_) := bx52.2 0 (by simp)
  have k223 : w209.cell? ⟨w17.heap.size, 1, none⟩ = some ((Value.slice a36 m37 c38)) := bx52.2 1 (by simp)
  have k224 : w209.cell? ⟨w17.heap.size, 2, none⟩ = some (Value.int .i64 (newThread s_aId d_aProg).at_) := bx52.2 2 (by simp)
  have k225 : w209.cell? ⟨w17.heap.size, 3, none⟩ = some (Value.int .i64 (newThread s_aId d_aProg).reg0_) := bx52.2 3 (by simp)
  have k226 : w209.cell? ⟨w17.heap.size, 4, none⟩ = some (Value.int .i64 (newThread s_aId d_aProg).reg1_) := bx52.2 4 (by simp)
  have k227 : w209.cell? ⟨w17.heap.size, 5, none⟩ = some (Value.int .i64 (newThread s_aId d_aProg).reg2_) := bx52.2 5 (by simp)
  have k228 : w209.cell? ⟨w17.heap.size, 6, none⟩ = some (Value.int .i64 (newThread s_aId d_aProg).reg3_) := bx52.2 6 (by simp)
  have k229 : w209.cell? ⟨w17.heap.size, 7, none⟩ = some ((Value.slice a39 m40 c41)) := bx52.2 7 (by simp)
  have k230 : w209.cell? ⟨w17.heap.size, 8, none⟩ = some (Value.int .i64 (newThread s_aId d_aProg).check_) := bx52.2 8 (by simp)
  have k231 : w209.cell? ⟨w17.heap.size, 9, none⟩ = some ((Value.slice a42 m43 c44)) := bx52.2 9 (by simp)
  have k232 : w209.cell? ⟨w17.heap.size, 10, none⟩ = some (Value.int .i64 (newThread s_aId d_aProg).mine_) := bx52.2 10 (by simp)
  have k233 : w209.cell? ⟨w17.heap.size, 11, none⟩ = some (Value.int .i64 (newThread s_aId d_aProg).state_) := bx52.2 11 (by simp)
  have k234 : w209.cell? ⟨w17.heap.size, 12, none⟩ = some (Value.int .i64 (newThread s_aId d_aProg).commits_) := bx52.2 12 (by simp)
  have k235 : w209.cell? ⟨w17.heap.size, 13, none⟩ = some (Value.int .i64 (newThread s_aId d_aProg).fails_) := bx52.2 13 (by simp)
  have k236 : w209.cell? ⟨w94.heap.size, 0, none⟩ = some (Value.int .i64 (newThread s_aId d_aProg).id_) := bx147.2 0 (by simp)
  have k237 : w209.cell? ⟨w94.heap.size, 1, none⟩ = some ((Value.slice a118 m119 c120)) := bx147.2 1 (by simp)
  have k238 : w209.cell? ⟨w94.heap.size, 2, none⟩ = some (Value.int .i64 (newThread s_aId d_aProg).at_) := bx147.2 2 (by simp)
  have k239 : w209.cell? ⟨w94.heap.size, 3, none⟩ = some (Value.int .i64 (newThread s_aId d_aProg).reg0_) := bx147.2 3 (by simp)
  have k240 : w209.cell? ⟨w94.heap.size, 4, none⟩ = some (Value.int .i64 (newThread s_aId d_aProg).reg1_) := bx147.2 4 (by simp)
  have k241 : w209.cell? ⟨w94.heap.size, 5, none⟩ = some (Value.int .i64 (newThread s_aId d_aProg).reg2_) := bx147.2 5 (by simp)
  have k242 : w209.cell? ⟨w94.heap.size, 6, none⟩ = some (Value.int .i64 (newThread s_aId d_aProg).reg3_) := bx147.2 6 (by simp)
  have k243 : w209.cell? ⟨w94.heap.size, 7, none⟩ = some ((Value.slice a121 m122 c123)) := bx147.2 7 (by simp)
  have k244 : w209.cell? ⟨w94.heap.size, 8, none⟩ = some (Value.int .i64 (newThread s_aId d_aProg).check_) := bx147.2 8 (by simp)
  have k245 : w209.cell? ⟨w94.heap.size, 9, none⟩ = some ((Value.slice a124 m125 c126)) := bx147.2 9 (by simp)
  have k246 : w209.cell? ⟨w94.heap.size, 10, none⟩ = some (Value.int .i64 (newThread s_aId d_aProg).mine_) := bx147.2 10 (by simp)
  have k247 : w209.cell? ⟨w94.heap.size, 11, none⟩ = some (Value.int .i64 (newThread s_aId d_aProg).state_) := bx147.2 11 (by simp)
  have k248 : w209.cell? ⟨w94.heap.size, 12, none⟩ = some (Value.int .i64 (newThread s_aId d_aProg).commits_) := bx147.2 12 (by simp)
  have k249 : w209.cell? ⟨w94.heap.size, 13, none⟩ = some (Value.int .i64 (newThread s_aId d_aProg).fails_) := bx147.2 13 (by simp)
  go_wp2_with fail
  clear k222 k223 k224 k225 k226 k227 k228 k229 k230 k231 k232 k233 k234 k235 k236 k237 k238 k239 k240 k241 k242 k243 k244 k245 k246 k247 k248 k249
  refine (eqInstrS_o _ _ _ _ (ownL.rds o71) (ownL.rds o213)).mono ?_
  rintro e w250 ⟨rfl, b251⟩
  have t252 := Below.trans t216 (Below.mono b251 zb0)
  have s253 := Below.trans s217 (Below.mono b251 za0)
  replace o71 := ownL.keep o71 (fun q hq => Below.block b251 q (hs73 q hq))
  replace hs73 := fun q hq => Nat.lt_of_lt_of_le (hs73 q hq) (Below.size b251)
  replace o98 := ownL.keep o98 (fun q hq => Below.block b251 q (hs100 q hq))
  replace hs100 := fun q hq => Nat.lt_of_lt_of_le (hs100 q hq) (Below.size b251)
  replace o103 := ownL.keep o103 (fun q hq => Below.block b251 q (hs105 q hq))
  replace hs105 := fun q hq => Nat.lt_of_lt_of_le (hs105 q hq) (Below.size b251)
  replace o108 := ownL.keep o108 (fun q hq => Below.block b251 q (hs110 q hq))
  replace hs110 := fun q hq => Nat.lt_of_lt_of_le (hs110 q hq) (Below.size b251)
  replace bx52 := Box.below bx52 b251
  replace bx147 := Box.below bx147 b251
  have z254 := Below.size b251
  replace zb0 : w.heap.size ≤ w250.heap.size := by omega
  replace za0 : w17.heap.size ≤ w250.heap.size := by omega
  have k255 : w250.cell? ⟨w17.heap.size, 0, none⟩ = some (Value.int .i64 (newThread s_aId d_aProg).id_) := bx52.2 0 (by simp)
  have k256 : w250.cell? ⟨w17.heap.size, 1, none⟩ = some ((Value.slice a36 m37 c38)) := bx52.2 1 (by simp)
  have k257 : w250.cell? ⟨w17.heap.size, 2, none⟩ = some (Value.int .i64 (newThread s_aId d_aProg).at_) := bx52.2 2 (by simp)
  have k258 : w250.cell? ⟨w17.heap.size, 3, none⟩ = some (Value.int .i64 (newThread s_aId d_aProg).reg0_) := bx52.2 3 (by simp)
  have k259 : w250.cell? ⟨w17.heap.size, 4, none⟩ = some (Value.int .i64 (newThread s_aId d_aProg).reg1_) := bx52.2 4 (by simp)
  have k260 : w250.cell? ⟨w17.heap.size, 5, none⟩ = some (Value.int .i64 (newThread s_aId d_aProg).reg2_) := bx52.2 5 (by simp)
  have k261 : w250.cell? ⟨w17.heap.size, 6, none⟩ = some (Value.int .i64 (newThread s_aId d_aProg).reg3_) := bx52.2 6 (by simp)
  have k262 : w250.cell? ⟨w17.heap.size, 7, none⟩ = some ((Value.slice a39 m40 c41)) := bx52.2 7 (by simp)
  have k263 : w250.cell? ⟨w17.heap.size, 8, none⟩ = some (Value.int .i64 (newThread s_aId d_aProg).check_) := bx52.2 8 (by simp)
  have k264 : w250.cell? ⟨w17.heap.size, 9, none⟩ = some ((Value.slice a42 m43 c44)) := bx52.2 9 (by simp)
  have k265 : w250.cell? ⟨w17.heap.size, 10, none⟩ = some (Value.int .i64 (newThread s_aId d_aProg).mine_) := bx52.2 10 (by simp)
  have k266 : w250.cell? ⟨w17.heap.size, 11, none⟩ = some (Value.int .i64 (newThread s_aId d_aProg).state_) := bx52.2 11 (by simp)
  have k267 : w250.cell? ⟨w17.heap.size, 12, none⟩ = some (Value.int .i64 (newThread s_aId d_aProg).commits_) := bx52.2 12 (by simp)
  have k268 : w250.cell? ⟨w17.heap.size, 13, none⟩ = some (Value.int .i64 (newThread s_aId d_aProg).fails_) := bx52.2 13 (by simp)
  have k269 : w250.cell? ⟨w94.heap.size, 0, none⟩ = some (Value.int .i64 (newThread s_aId d_aProg).id_) := bx147.2 0 (by simp)
  have k270 : w250.cell? ⟨w94.heap.size, 1, none⟩ = some ((Value.slice a118 m119 c120)) := bx147.2 1 (by simp)
  have k271 : w250.cell? ⟨w94.heap.size, 2, none⟩ = some (Value.int .i64 (newThread s_aId d_aProg).at_) := bx147.2 2 (by simp)
  have k272 : w250.cell? ⟨w94.heap.size, 3, none⟩ = some (Value.int .i64 (newThread s_aId d_aProg).reg0_) := bx147.2 3 (by simp)
  have k273 : w250.cell? ⟨w94.heap.size, 4, none⟩ = some (Value.int .i64 (newThread s_aId d_aProg).reg1_) := bx147.2 4 (by simp)
  have k274 : w250.cell? ⟨w94.heap.size, 5, none⟩ = some (Value.int .i64 (newThread s_aId d_aProg).reg2_) := bx147.2 5 (by simp)
  have k275 : w250.cell? ⟨w94.heap.size, 6, none⟩ = some (Value.int .i64 (newThread s_aId d_aProg).reg3_) := bx147.2 6 (by simp)
  have k276 : w250.cell? ⟨w94.heap.size, 7, none⟩ = some ((Value.slice a121 m122 c123)) := bx147.2 7 (by simp)
  have k277 : w250.cell? ⟨w94.heap.size, 8, none⟩ = some (Value.int .i64 (newThread s_aId d_aProg).check_) := bx147.2 8 (by simp)
  have k278 : w250.cell? ⟨w94.heap.size, 9, none⟩ = some ((Value.slice a124 m125 c126)) := bx147.2 9 (by simp)
  have k279 : w250.cell? ⟨w94.heap.size, 10, none⟩ = some (Value.int .i64 (newThread s_aId d_aProg).mine_) := bx147.2 10 (by simp)
  have k280 : w250.cell? ⟨w94.heap.size, 11, none⟩ = some (Value.int .i64 (newThread s_aId d_aProg).state_) := bx147.2 11 (by simp)
  have k281 : w250.cell? ⟨w94.heap.size, 12, none⟩ = some (Value.int .i64 (newThread s_aId d_aProg).commits_) := bx147.2 12 (by simp)
  have k282 : w250.cell? ⟨w94.heap.size, 13, none⟩ = some (Value.int .i64 (newThread s_aId d_aProg).fails_) := bx147.2 13 (by simp)
  go_wp2_with fail
  clear k255 k256 k257 k258 k259 k260 k261 k262 k263 k264 k265 k266 k267 k268 k269 k270 k271 k272 k273 k274 k275 k276 k277 k278 k279 k280 k281 k282
  have le286 := cntInstrS_le hb_aProg
  refine (markInstrS_o S70 _ _ _ _ hs73  hb_aProg (by omega) (by omega) o71).mono ?_
  rintro e w283 ⟨rfl, o285, C284⟩
  have t287 := below_chg t252 C284 zb0 (by intro q hx; have y := r72 q hx; have y1 := y.1; have y2 := y.2; omega)
  have s288 := below_chg s253 C284 za0 (by intro q hx; have y := r72 q hx; have y1 := y.1; have y2 := y.2; omega)
  replace hs73 := fun q hq => Nat.lt_of_lt_of_le (hs73 q hq) (ChgS.size C284)
  replace o98 := ownL.keep o98 (fun q hq => ChgS.block C284 q (hs100 q hq) (by intro hx; have x0 := r99 q hq; have x1 := x0.1; have x2 := x0.2; have y := r72 q hx; have y1 := y.1; have y2 := y.2; omega))
  replace hs100 := fun q hq => Nat.lt_of_lt_of_le (hs100 q hq) (ChgS.size C284)
  replace o103 := ownL.keep o103 (fun q hq => ChgS.block C284 q (hs105 q hq) (by intro hx; have x0 := r104 q hq; have x1 := x0.1; have x2 := x0.2; have y := r72 q hx; have y1 := y.1; have y2 := y.2; omega))
  replace hs105 := fun q hq => Nat.lt_of_lt_of_le (hs105 q hq) (ChgS.size C284)
  replace o108 := ownL.keep o108 (fun q hq => ChgS.block C284 q (hs110 q hq) (by intro hx; have x0 := r109 q hq; have x1 := x0.1; have x2 := x0.2; have y := r72 q hx; have y1 := y.1; have y2 := y.2; omega))
  replace hs110 := fun q hq => Nat.lt_of_lt_of_le (hs110 q hq) (ChgS.size C284)
  replace bx52 := Box.chg bx52 C284 (by intro hx; have y := r72 _ hx; have y1 := y.1; have y2 := y.2; omega)
  replace bx147 := Box.chg bx147 C284 (by intro hx; have y := r72 _ hx; have y1 := y.1; have y2 := y.2; omega)
  have z289 := ChgS.size C284
  replace zb0 : w.heap.size ≤ w283.heap.size := by omega
  replace za0 : w17.heap.size ≤ w283.heap.size := by omega
  have k290 : w283.cell? ⟨w17.heap.size, 0, none⟩ = some (Value.int .i64 (newThread s_aId d_aProg).id_) := bx52.2 0 (by simp)
  have k291 : w283.cell? ⟨w17.heap.size, 1, none⟩ = some ((Value.slice a36 m37 c38)) := bx52.2 1 (by simp)
  have k292 : w283.cell? ⟨w17.heap.size, 2, none⟩ = some (Value.int .i64 (newThread s_aId d_aProg).at_) := bx52.2 2 (by simp)
  have k293 : w283.cell? ⟨w17.heap.size, 3, none⟩ = some (Value.int .i64 (newThread s_aId d_aProg).reg0_) := bx52.2 3 (by simp)
  have k294 : w283.cell? ⟨w17.heap.size, 4, none⟩ = some (Value.int .i64 (newThread s_aId d_aProg).reg1_) := bx52.2 4 (by simp)
  have k295 : w283.cell? ⟨w17.heap.size, 5, none⟩ = some (Value.int .i64 (newThread s_aId d_aProg).reg2_) := bx52.2 5 (by simp)
  have k296 : w283.cell? ⟨w17.heap.size, 6, none⟩ = some (Value.int .i64 (newThread s_aId d_aProg).reg3_) := bx52.2 6 (by simp)
  have k297 : w283.cell? ⟨w17.heap.size, 7, none⟩ = some ((Value.slice a39 m40 c41)) := bx52.2 7 (by simp)
  have k298 : w283.cell? ⟨w17.heap.size, 8, none⟩ = some (Value.int .i64 (newThread s_aId d_aProg).check_) := bx52.2 8 (by simp)
  have k299 : w283.cell? ⟨w17.heap.size, 9, none⟩ = some ((Value.slice a42 m43 c44)) := bx52.2 9 (by simp)
  have k300 : w283.cell? ⟨w17.heap.size, 10, none⟩ = some (Value.int .i64 (newThread s_aId d_aProg).mine_) := bx52.2 10 (by simp)
  have k301 : w283.cell? ⟨w17.heap.size, 11, none⟩ = some (Value.int .i64 (newThread s_aId d_aProg).state_) := bx52.2 11 (by simp)
  have k302 : w283.cell? ⟨w17.heap.size, 12, none⟩ = some (Value.int .i64 (newThread s_aId d_aProg).commits_) := bx52.2 12 (by simp)
  have k303 : w283.cell? ⟨w17.heap.size, 13, none⟩ = some (Value.int .i64 (newThread s_aId d_aProg).fails_) := bx52.2 13 (by simp)
  have k304 : w283.cell? ⟨w94.heap.size, 0, none⟩ = some (Value.int .i64 (newThread s_aId d_aProg).id_) := bx147.2 0 (by simp)
  have k305 : w283.cell? ⟨w94.heap.size, 1, none⟩ = some ((Value.slice a118 m119 c120)) := bx147.2 1 (by simp)
  have k306 : w283.cell? ⟨w94.heap.size, 2, none⟩ = some (Value.int .i64 (newThread s_aId d_aProg).at_) := bx147.2 2 (by simp)
  have k307 : w283.cell? ⟨w94.heap.size, 3, none⟩ = some (Value.int .i64 (newThread s_aId d_aProg).reg0_) := bx147.2 3 (by simp)
  have k308 : w283.cell? ⟨w94.heap.size, 4, none⟩ = some (Value.int .i64 (newThread s_aId d_aProg).reg1_) := bx147.2 4 (by simp)
  have k309 : w283.cell? ⟨w94.heap.size, 5, none⟩ = some (Value.int .i64 (newThread s_aId d_aProg).reg2_) := bx147.2 5 (by simp)
  have k310 : w283.cell? ⟨w94.heap.size, 6, none⟩ = some (Value.int .i64 (newThread s_aId d_aProg).reg3_) := bx147.2 6 (by simp)
  have k311 : w283.cell? ⟨w94.heap.size, 7, none⟩ = some ((Value.slice a121 m122 c123)) := bx147.2 7 (by simp)
  have k312 : w283.cell? ⟨w94.heap.size, 8, none⟩ = some (Value.int .i64 (newThread s_aId d_aProg).check_) := bx147.2 8 (by simp)
  have k313 : w283.cell? ⟨w94.heap.size, 9, none⟩ = some ((Value.slice a124 m125 c126)) := bx147.2 9 (by simp)
  have k314 : w283.cell? ⟨w94.heap.size, 10, none⟩ = some (Value.int .i64 (newThread s_aId d_aProg).mine_) := bx147.2 10 (by simp)
  have k315 : w283.cell? ⟨w94.heap.size, 11, none⟩ = some (Value.int .i64 (newThread s_aId d_aProg).state_) := bx147.2 11 (by simp)
  have k316 : w283.cell? ⟨w94.heap.size, 12, none⟩ = some (Value.int .i64 (newThread s_aId d_aProg).commits_) := bx147.2 12 (by simp)
  have k317 : w283.cell? ⟨w94.heap.size, 13, none⟩ = some (Value.int .i64 (newThread s_aId d_aProg).fails_) := bx147.2 13 (by simp)
  go_wp2_with fail
  clear k290 k291 k292 k293 k294 k295 k296 k297 k298 k299 k300 k301 k302 k303 k304 k305 k306 k307 k308 k309 k310 k311 k312 k313 k314 k315 k316 k317
  refine (eqThread_o _ _ _ _ _ _ _ _ (ownL.rds o98) (ownL.rds o103) (ownL.rds o108) (rdsL.below o21 s288) (rdsL.below o26 s288) (rdsL.below o31 s288)).mono ?_
  rintro e w318 ⟨rfl, b319⟩
  have t320 := Below.trans t287 (Below.mono b319 zb0)
  have s321 := Below.trans s288 (Below.mono b319 za0)
  replace o285 := ownL.keep o285 (fun q hq => Below.block b319 q (hs73 q hq))
  replace hs73 := fun q hq => Nat.lt_of_lt_of_le (hs73 q hq) (Below.size b319)
  replace o98 := ownL.keep o98 (fun q hq => Below.block b319 q (hs100 q hq))
  replace hs100 := fun q hq => Nat.lt_of_lt_of_le (hs100 q hq) (Below.size b319)
  replace o103 := ownL.keep o103 (fun q hq => Below.block b319 q (hs105 q hq))
  replace hs105 := fun q hq => Nat.lt_of_lt_of_le (hs105 q hq) (Below.size b319)
  replace o108 := ownL.keep o108 (fun q hq => Below.block b319 q (hs110 q hq))
  replace hs110 := fun q hq => Nat.lt_of_lt_of_le (hs110 q hq) (Below.size b319)
  replace bx52 := Box.below bx52 b319
  replace bx147 := Box.below bx147 b319
  have z322 := Below.size b319
  replace zb0 : w.heap.size ≤ w318.heap.size := by omega
  replace za0 : w17.heap.size ≤ w318.heap.size := by omega
  have k323 : w318.cell? ⟨w17.heap.size, 0, none⟩ = some (Value.int .i64 (newThread s_aId d_aProg).id_) := bx52.2 0 (by simp)
  have k324 : w318.cell? ⟨w17.heap.size, 1, none⟩ = some ((Value.slice a36 m37 c38)) := bx52.2 1 (by simp)
  have k325 : w318.cell? ⟨w17.heap.size, 2, none⟩ = some (Value.int .i64 (newThread s_aId d_aProg).at_) := bx52.2 2 (by simp)
  have k326 : w318.cell? ⟨w17.heap.size, 3, none⟩ = some (Value.int .i64 (newThread s_aId d_aProg).reg0_) := bx52.2 3 (by simp)
  have k327 : w318.cell? ⟨w17.heap.size, 4, none⟩ = some (Value.int .i64 (newThread s_aId d_aProg).reg1_) := bx52.2 4 (by simp)
  have k328 : w318.cell? ⟨w17.heap.size, 5, none⟩ = some (Value.int .i64 (newThread s_aId d_aProg).reg2_) := bx52.2 5 (by simp)
  have k329 : w318.cell? ⟨w17.heap.size, 6, none⟩ = some (Value.int .i64 (newThread s_aId d_aProg).reg3_) := bx52.2 6 (by simp)
  have k330 : w318.cell? ⟨w17.heap.size, 7, none⟩ = some ((Value.slice a39 m40 c41)) := bx52.2 7 (by simp)
  have k331 : w318.cell? ⟨w17.heap.size, 8, none⟩ = some (Value.int .i64 (newThread s_aId d_aProg).check_) := bx52.2 8 (by simp)
  have k332 : w318.cell? ⟨w17.heap.size, 9, none⟩ = some ((Value.slice a42 m43 c44)) := bx52.2 9 (by simp)
  have k333 : w318.cell? ⟨w17.heap.size, 10, none⟩ = some (Value.int .i64 (newThread s_aId d_aProg).mine_) := bx52.2 10 (by simp)
  have k334 : w318.cell? ⟨w17.heap.size, 11, none⟩ = some (Value.int .i64 (newThread s_aId d_aProg).state_) := bx52.2 11 (by simp)
  have k335 : w318.cell? ⟨w17.heap.size, 12, none⟩ = some (Value.int .i64 (newThread s_aId d_aProg).commits_) := bx52.2 12 (by simp)
  have k336 : w318.cell? ⟨w17.heap.size, 13, none⟩ = some (Value.int .i64 (newThread s_aId d_aProg).fails_) := bx52.2 13 (by simp)
  have k337 : w318.cell? ⟨w94.heap.size, 0, none⟩ = some (Value.int .i64 (newThread s_aId d_aProg).id_) := bx147.2 0 (by simp)
  have k338 : w318.cell? ⟨w94.heap.size, 1, none⟩ = some ((Value.slice a118 m119 c120)) := bx147.2 1 (by simp)
  have k339 : w318.cell? ⟨w94.heap.size, 2, none⟩ = some (Value.int .i64 (newThread s_aId d_aProg).at_) := bx147.2 2 (by simp)
  have k340 : w318.cell? ⟨w94.heap.size, 3, none⟩ = some (Value.int .i64 (newThread s_aId d_aProg).reg0_) := bx147.2 3 (by simp)
  have k341 : w318.cell? ⟨w94.heap.size, 4, none⟩ = some (Value.int .i64 (newThread s_aId d_aProg).reg1_) := bx147.2 4 (by simp)
  have k342 : w318.cell? ⟨w94.heap.size, 5, none⟩ = some (Value.int .i64 (newThread s_aId d_aProg).reg2_) := bx147.2 5 (by simp)
  have k343 : w318.cell? ⟨w94.heap.size, 6, none⟩ = some (Value.int .i64 (newThread s_aId d_aProg).reg3_) := bx147.2 6 (by simp)
  have k344 : w318.cell? ⟨w94.heap.size, 7, none⟩ = some ((Value.slice a121 m122 c123)) := bx147.2 7 (by simp)
  have k345 : w318.cell? ⟨w94.heap.size, 8, none⟩ = some (Value.int .i64 (newThread s_aId d_aProg).check_) := bx147.2 8 (by simp)
  have k346 : w318.cell? ⟨w94.heap.size, 9, none⟩ = some ((Value.slice a124 m125 c126)) := bx147.2 9 (by simp)
  have k347 : w318.cell? ⟨w94.heap.size, 10, none⟩ = some (Value.int .i64 (newThread s_aId d_aProg).mine_) := bx147.2 10 (by simp)
  have k348 : w318.cell? ⟨w94.heap.size, 11, none⟩ = some (Value.int .i64 (newThread s_aId d_aProg).state_) := bx147.2 11 (by simp)
  have k349 : w318.cell? ⟨w94.heap.size, 12, none⟩ = some (Value.int .i64 (newThread s_aId d_aProg).commits_) := bx147.2 12 (by simp)
  have k350 : w318.cell? ⟨w94.heap.size, 13, none⟩ = some (Value.int .i64 (newThread s_aId d_aProg).fails_) := bx147.2 13 (by simp)
  go_wp2_with fail
  clear k323 k324 k325 k326 k327 k328 k329 k330 k331 k332 k333 k334 k335 k336 k337 k338 k339 k340 k341 k342 k343 k344 k345 k346 k347 k348 k349 k350
  have le356 := cntThread_le hb111
  refine (markThread_o S97 S102 S107 _ _ _ _ _ _ hs100 hs105 hs110 dj112 dj113 dj114 hb111 (by omega) (by omega) o98 o103 o108).mono ?_
  rintro e w351 ⟨rfl, o353, o354, o355, C352⟩
  have t357 := below_chg t320 C352 zb0 (by intro q hx; rcases hx with hx | hx | hx; (have y := r99 q hx; have y1 := y.1; have y2 := y.2; omega); (have y := r104 q hx; have y1 := y.1; have y2 := y.2; omega); (have y := r109 q hx; have y1 := y.1; have y2 := y.2; omega))
  have s358 := below_chg s321 C352 za0 (by intro q hx; rcases hx with hx | hx | hx; (have y := r99 q hx; have y1 := y.1; have y2 := y.2; omega); (have y := r104 q hx; have y1 := y.1; have y2 := y.2; omega); (have y := r109 q hx; have y1 := y.1; have y2 := y.2; omega))
  replace o285 := ownL.keep o285 (fun q hq => ChgS.block C352 q (hs73 q hq) (by intro hx; have x0 := r72 q hq; have x1 := x0.1; have x2 := x0.2; rcases hx with hx | hx | hx; (have y := r99 q hx; have y1 := y.1; have y2 := y.2; omega); (have y := r104 q hx; have y1 := y.1; have y2 := y.2; omega); (have y := r109 q hx; have y1 := y.1; have y2 := y.2; omega)))
  replace hs73 := fun q hq => Nat.lt_of_lt_of_le (hs73 q hq) (ChgS.size C352)
  replace hs100 := fun q hq => Nat.lt_of_lt_of_le (hs100 q hq) (ChgS.size C352)
  replace hs105 := fun q hq => Nat.lt_of_lt_of_le (hs105 q hq) (ChgS.size C352)
  replace hs110 := fun q hq => Nat.lt_of_lt_of_le (hs110 q hq) (ChgS.size C352)
  replace bx52 := Box.chg bx52 C352 (by intro hx; rcases hx with hx | hx | hx; (have y := r99 _ hx; have y1 := y.1; have y2 := y.2; omega); (have y := r104 _ hx; have y1 := y.1; have y2 := y.2; omega); (have y := r109 _ hx; have y1 := y.1; have y2 := y.2; omega))
  replace bx147 := Box.chg bx147 C352 (by intro hx; rcases hx with hx | hx | hx; (have y := r99 _ hx; have y1 := y.1; have y2 := y.2; omega); (have y := r104 _ hx; have y1 := y.1; have y2 := y.2; omega); (have y := r109 _ hx; have y1 := y.1; have y2 := y.2; omega))
  have z359 := ChgS.size C352
  replace zb0 : w.heap.size ≤ w351.heap.size := by omega
  replace za0 : w17.heap.size ≤ w351.heap.size := by omega
  have k360 : w351.cell? ⟨w17.heap.size, 0, none⟩ = some (Value.int .i64 (newThread s_aId d_aProg).id_) := bx52.2 0 (by simp)
  have k361 : w351.cell? ⟨w17.heap.size, 1, none⟩ = some ((Value.slice a36 m37 c38)) := bx52.2 1 (by simp)
  have k362 : w351.cell? ⟨w17.heap.size, 2, none⟩ = some (Value.int .i64 (newThread s_aId d_aProg).at_) := bx52.2 2 (by simp)
  have k363 : w351.cell? ⟨w17.heap.size, 3, none⟩ = some (Value.int .i64 (newThread s_aId d_aProg).reg0_) := bx52.2 3 (by simp)
  have k364 : w351.cell? ⟨w17.heap.size, 4, none⟩ = some (Value.int .i64 (newThread s_aId d_aProg).reg1_) := bx52.2 4 (by simp)
  have k365 : w351.cell? ⟨w17.heap.size, 5, none⟩ = some (Value.int .i64 (newThread s_aId d_aProg).reg2_) := bx52.2 5 (by simp)
  have k366 : w351.cell? ⟨w17.heap.size, 6, none⟩ = some (Value.int .i64 (newThread s_aId d_aProg).reg3_) := bx52.2 6 (by simp)
  have k367 : w351.cell? ⟨w17.heap.size, 7, none⟩ = some ((Value.slice a39 m40 c41)) := bx52.2 7 (by simp)
  have k368 : w351.cell? ⟨w17.heap.size, 8, none⟩ = some (Value.int .i64 (newThread s_aId d_aProg).check_) := bx52.2 8 (by simp)
  have k369 : w351.cell? ⟨w17.heap.size, 9, none⟩ = some ((Value.slice a42 m43 c44)) := bx52.2 9 (by simp)
  have k370 : w351.cell? ⟨w17.heap.size, 10, none⟩ = some (Value.int .i64 (newThread s_aId d_aProg).mine_) := bx52.2 10 (by simp)
  have k371 : w351.cell? ⟨w17.heap.size, 11, none⟩ = some (Value.int .i64 (newThread s_aId d_aProg).state_) := bx52.2 11 (by simp)
  have k372 : w351.cell? ⟨w17.heap.size, 12, none⟩ = some (Value.int .i64 (newThread s_aId d_aProg).commits_) := bx52.2 12 (by simp)
  have k373 : w351.cell? ⟨w17.heap.size, 13, none⟩ = some (Value.int .i64 (newThread s_aId d_aProg).fails_) := bx52.2 13 (by simp)
  have k374 : w351.cell? ⟨w94.heap.size, 0, none⟩ = some (Value.int .i64 (newThread s_aId d_aProg).id_) := bx147.2 0 (by simp)
  have k375 : w351.cell? ⟨w94.heap.size, 1, none⟩ = some ((Value.slice a118 m119 c120)) := bx147.2 1 (by simp)
  have k376 : w351.cell? ⟨w94.heap.size, 2, none⟩ = some (Value.int .i64 (newThread s_aId d_aProg).at_) := bx147.2 2 (by simp)
  have k377 : w351.cell? ⟨w94.heap.size, 3, none⟩ = some (Value.int .i64 (newThread s_aId d_aProg).reg0_) := bx147.2 3 (by simp)
  have k378 : w351.cell? ⟨w94.heap.size, 4, none⟩ = some (Value.int .i64 (newThread s_aId d_aProg).reg1_) := bx147.2 4 (by simp)
  have k379 : w351.cell? ⟨w94.heap.size, 5, none⟩ = some (Value.int .i64 (newThread s_aId d_aProg).reg2_) := bx147.2 5 (by simp)
  have k380 : w351.cell? ⟨w94.heap.size, 6, none⟩ = some (Value.int .i64 (newThread s_aId d_aProg).reg3_) := bx147.2 6 (by simp)
  have k381 : w351.cell? ⟨w94.heap.size, 7, none⟩ = some ((Value.slice a121 m122 c123)) := bx147.2 7 (by simp)
  have k382 : w351.cell? ⟨w94.heap.size, 8, none⟩ = some (Value.int .i64 (newThread s_aId d_aProg).check_) := bx147.2 8 (by simp)
  have k383 : w351.cell? ⟨w94.heap.size, 9, none⟩ = some ((Value.slice a124 m125 c126)) := bx147.2 9 (by simp)
  have k384 : w351.cell? ⟨w94.heap.size, 10, none⟩ = some (Value.int .i64 (newThread s_aId d_aProg).mine_) := bx147.2 10 (by simp)
  have k385 : w351.cell? ⟨w94.heap.size, 11, none⟩ = some (Value.int .i64 (newThread s_aId d_aProg).state_) := bx147.2 11 (by simp)
  have k386 : w351.cell? ⟨w94.heap.size, 12, none⟩ = some (Value.int .i64 (newThread s_aId d_aProg).commits_) := bx147.2 12 (by simp)
  have k387 : w351.cell? ⟨w94.heap.size, 13, none⟩ = some (Value.int .i64 (newThread s_aId d_aProg).fails_) := bx147.2 13 (by simp)
  go_wp2_with fail
  clear k360 k361 k362 k363 k364 k365 k366 k367 k368 k369 k370 k371 k372 k373 k374 k375 k376 k377 k378 k379 k380 k381 k382 k383 k384 k385 k386 k387
  refine (heldThread_o _ _ _ _ _ _ hb111 (by omega) (by omega) (ownL.rds o353) (ownL.rds o354) (ownL.rds o355)).mono ?_
  rintro e w388 ⟨rfl, b389⟩
  have t390 := Below.trans t357 (Below.mono b389 zb0)
  have s391 := Below.trans s358 (Below.mono b389 za0)
  replace o285 := ownL.keep o285 (fun q hq => Below.block b389 q (hs73 q hq))
  replace hs73 := fun q hq => Nat.lt_of_lt_of_le (hs73 q hq) (Below.size b389)
  replace o353 := ownL.keep o353 (fun q hq => Below.block b389 q (hs100 q hq))
  replace hs100 := fun q hq => Nat.lt_of_lt_of_le (hs100 q hq) (Below.size b389)
  replace o354 := ownL.keep o354 (fun q hq => Below.block b389 q (hs105 q hq))
  replace hs105 := fun q hq => Nat.lt_of_lt_of_le (hs105 q hq) (Below.size b389)
  replace o355 := ownL.keep o355 (fun q hq => Below.block b389 q (hs110 q hq))
  replace hs110 := fun q hq => Nat.lt_of_lt_of_le (hs110 q hq) (Below.size b389)
  replace bx52 := Box.below bx52 b389
  replace bx147 := Box.below bx147 b389
  have z392 := Below.size b389
  replace zb0 : w.heap.size ≤ w388.heap.size := by omega
  replace za0 : w17.heap.size ≤ w388.heap.size := by omega
  have k393 : w388.cell? ⟨w17.heap.size, 0, none⟩ = some (Value.int .i64 (newThread s_aId d_aProg).id_) := bx52.2 0 (by simp)
  have k394 : w388.cell? ⟨w17.heap.size, 1, none⟩ = some ((Value.slice a36 m37 c38)) := bx52.2 1 (by simp)
  have k395 : w388.cell? ⟨w17.heap.size, 2, none⟩ = some (Value.int .i64 (newThread s_aId d_aProg).at_) := bx52.2 2 (by simp)
  have k396 : w388.cell? ⟨w17.heap.size, 3, none⟩ = some (Value.int .i64 (newThread s_aId d_aProg).reg0_) := bx52.2 3 (by simp)
  have k397 : w388.cell? ⟨w17.heap.size, 4, none⟩ = some (Value.int .i64 (newThread s_aId d_aProg).reg1_) := bx52.2 4 (by simp)
  have k398 : w388.cell? ⟨w17.heap.size, 5, none⟩ = some (Value.int .i64 (newThread s_aId d_aProg).reg2_) := bx52.2 5 (by simp)
  have k399 : w388.cell? ⟨w17.heap.size, 6, none⟩ = some (Value.int .i64 (newThread s_aId d_aProg).reg3_) := bx52.2 6 (by simp)
  have k400 : w388.cell? ⟨w17.heap.size, 7, none⟩ = some ((Value.slice a39 m40 c41)) := bx52.2 7 (by simp)
  have k401 : w388.cell? ⟨w17.heap.size, 8, none⟩ = some (Value.int .i64 (newThread s_aId d_aProg).check_) := bx52.2 8 (by simp)
  have k402 : w388.cell? ⟨w17.heap.size, 9, none⟩ = some ((Value.slice a42 m43 c44)) := bx52.2 9 (by simp)
  have k403 : w388.cell? ⟨w17.heap.size, 10, none⟩ = some (Value.int .i64 (newThread s_aId d_aProg).mine_) := bx52.2 10 (by simp)
  have k404 : w388.cell? ⟨w17.heap.size, 11, none⟩ = some (Value.int .i64 (newThread s_aId d_aProg).state_) := bx52.2 11 (by simp)
  have k405 : w388.cell? ⟨w17.heap.size, 12, none⟩ = some (Value.int .i64 (newThread s_aId d_aProg).commits_) := bx52.2 12 (by simp)
  have k406 : w388.cell? ⟨w17.heap.size, 13, none⟩ = some (Value.int .i64 (newThread s_aId d_aProg).fails_) := bx52.2 13 (by simp)
  have k407 : w388.cell? ⟨w94.heap.size, 0, none⟩ = some (Value.int .i64 (newThread s_aId d_aProg).id_) := bx147.2 0 (by simp)
  have k408 : w388.cell? ⟨w94.heap.size, 1, none⟩ = some ((Value.slice a118 m119 c120)) := bx147.2 1 (by simp)
  have k409 : w388.cell? ⟨w94.heap.size, 2, none⟩ = some (Value.int .i64 (newThread s_aId d_aProg).at_) := bx147.2 2 (by simp)
  have k410 : w388.cell? ⟨w94.heap.size, 3, none⟩ = some (Value.int .i64 (newThread s_aId d_aProg).reg0_) := bx147.2 3 (by simp)
  have k411 : w388.cell? ⟨w94.heap.size, 4, none⟩ = some (Value.int .i64 (newThread s_aId d_aProg).reg1_) := bx147.2 4 (by simp)
  have k412 : w388.cell? ⟨w94.heap.size, 5, none⟩ = some (Value.int .i64 (newThread s_aId d_aProg).reg2_) := bx147.2 5 (by simp)
  have k413 : w388.cell? ⟨w94.heap.size, 6, none⟩ = some (Value.int .i64 (newThread s_aId d_aProg).reg3_) := bx147.2 6 (by simp)
  have k414 : w388.cell? ⟨w94.heap.size, 7, none⟩ = some ((Value.slice a121 m122 c123)) := bx147.2 7 (by simp)
  have k415 : w388.cell? ⟨w94.heap.size, 8, none⟩ = some (Value.int .i64 (newThread s_aId d_aProg).check_) := bx147.2 8 (by simp)
  have k416 : w388.cell? ⟨w94.heap.size, 9, none⟩ = some ((Value.slice a124 m125 c126)) := bx147.2 9 (by simp)
  have k417 : w388.cell? ⟨w94.heap.size, 10, none⟩ = some (Value.int .i64 (newThread s_aId d_aProg).mine_) := bx147.2 10 (by simp)
  have k418 : w388.cell? ⟨w94.heap.size, 11, none⟩ = some (Value.int .i64 (newThread s_aId d_aProg).state_) := bx147.2 11 (by simp)
  have k419 : w388.cell? ⟨w94.heap.size, 12, none⟩ = some (Value.int .i64 (newThread s_aId d_aProg).commits_) := bx147.2 12 (by simp)
  have k420 : w388.cell? ⟨w94.heap.size, 13, none⟩ = some (Value.int .i64 (newThread s_aId d_aProg).fails_) := bx147.2 13 (by simp)
  go_wp2_with fail
  clear k393 k394 k395 k396 k397 k398 k399 k400 k401 k402 k403 k404 k405 k406 k407 k408 k409 k410 k411 k412 k413 k414 k415 k416 k417 k418 k419 k420
  refine (toInstrS_o d_aProg (Value.slice a_aProg0 d_aProg.length c_aProg0) _ (rdsL.below h_aProg0 t390) hb_aProg).mono ?_
  rintro e w421 ⟨u423, S424, rfl, o425, r426, b422⟩
  have t428 := Below.trans t390 (Below.mono b422 zb0)
  have s429 := Below.trans s391 (Below.mono b422 za0)
  replace o285 := ownL.keep o285 (fun q hq => Below.block b422 q (hs73 q hq))
  replace hs73 := fun q hq => Nat.lt_of_lt_of_le (hs73 q hq) (Below.size b422)
  replace o353 := ownL.keep o353 (fun q hq => Below.block b422 q (hs100 q hq))
  replace hs100 := fun q hq => Nat.lt_of_lt_of_le (hs100 q hq) (Below.size b422)
  replace o354 := ownL.keep o354 (fun q hq => Below.block b422 q (hs105 q hq))
  replace hs105 := fun q hq => Nat.lt_of_lt_of_le (hs105 q hq) (Below.size b422)
  replace o355 := ownL.keep o355 (fun q hq => Below.block b422 q (hs110 q hq))
  replace hs110 := fun q hq => Nat.lt_of_lt_of_le (hs110 q hq) (Below.size b422)
  replace bx52 := Box.below bx52 b422
  replace bx147 := Box.below bx147 b422
  have z430 := Below.size b422
  replace zb0 : w.heap.size ≤ w421.heap.size := by omega
  replace za0 : w17.heap.size ≤ w421.heap.size := by omega
  obtain ⟨a431, m432, c433, rfl⟩ := ownL_shape o425
  have hs427 := fun q hq => (r426 q hq).2
  have k434 : w421.cell? ⟨w17.heap.size, 0, none⟩ = some (Value.int .i64 (newThread s_aId d_aProg).id_) := bx52.2 0 (by simp)
  have k435 : w421.cell? ⟨w17.heap.size, 1, none⟩ = some ((Value.slice a36 m37 c38)) := bx52.2 1 (by simp)
  have k436 : w421.cell? ⟨w17.heap.size, 2, none⟩ = some (Value.int .i64 (newThread s_aId d_aProg).at_) := bx52.2 2 (by simp)
  have k437 : w421.cell? ⟨w17.heap.size, 3, none⟩ = some (Value.int .i64 (newThread s_aId d_aProg).reg0_) := bx52.2 3 (by simp)
  have k438 : w421.cell? ⟨w17.heap.size, 4, none⟩ = some (Value.int .i64 (newThread s_aId d_aProg).reg1_) := bx52.2 4 (by simp)
  have k439 : w421.cell? ⟨w17.heap.size, 5, none⟩ = some (Value.int .i64 (newThread s_aId d_aProg).reg2_) := bx52.2 5 (by simp)
  have k440 : w421.cell? ⟨w17.heap.size, 6, none⟩ = some (Value.int .i64 (newThread s_aId d_aProg).reg3_) := bx52.2 6 (by simp)
  have k441 : w421.cell? ⟨w17.heap.size, 7, none⟩ = some ((Value.slice a39 m40 c41)) := bx52.2 7 (by simp)
  have k442 : w421.cell? ⟨w17.heap.size, 8, none⟩ = some (Value.int .i64 (newThread s_aId d_aProg).check_) := bx52.2 8 (by simp)
  have k443 : w421.cell? ⟨w17.heap.size, 9, none⟩ = some ((Value.slice a42 m43 c44)) := bx52.2 9 (by simp)
  have k444 : w421.cell? ⟨w17.heap.size, 10, none⟩ = some (Value.int .i64 (newThread s_aId d_aProg).mine_) := bx52.2 10 (by simp)
  have k445 : w421.cell? ⟨w17.heap.size, 11, none⟩ = some (Value.int .i64 (newThread s_aId d_aProg).state_) := bx52.2 11 (by simp)
  have k446 : w421.cell? ⟨w17.heap.size, 12, none⟩ = some (Value.int .i64 (newThread s_aId d_aProg).commits_) := bx52.2 12 (by simp)
  have k447 : w421.cell? ⟨w17.heap.size, 13, none⟩ = some (Value.int .i64 (newThread s_aId d_aProg).fails_) := bx52.2 13 (by simp)
  have k448 : w421.cell? ⟨w94.heap.size, 0, none⟩ = some (Value.int .i64 (newThread s_aId d_aProg).id_) := bx147.2 0 (by simp)
  have k449 : w421.cell? ⟨w94.heap.size, 1, none⟩ = some ((Value.slice a118 m119 c120)) := bx147.2 1 (by simp)
  have k450 : w421.cell? ⟨w94.heap.size, 2, none⟩ = some (Value.int .i64 (newThread s_aId d_aProg).at_) := bx147.2 2 (by simp)
  have k451 : w421.cell? ⟨w94.heap.size, 3, none⟩ = some (Value.int .i64 (newThread s_aId d_aProg).reg0_) := bx147.2 3 (by simp)
  have k452 : w421.cell? ⟨w94.heap.size, 4, none⟩ = some (Value.int .i64 (newThread s_aId d_aProg).reg1_) := bx147.2 4 (by simp)
  have k453 : w421.cell? ⟨w94.heap.size, 5, none⟩ = some (Value.int .i64 (newThread s_aId d_aProg).reg2_) := bx147.2 5 (by simp)
  have k454 : w421.cell? ⟨w94.heap.size, 6, none⟩ = some (Value.int .i64 (newThread s_aId d_aProg).reg3_) := bx147.2 6 (by simp)
  have k455 : w421.cell? ⟨w94.heap.size, 7, none⟩ = some ((Value.slice a121 m122 c123)) := bx147.2 7 (by simp)
  have k456 : w421.cell? ⟨w94.heap.size, 8, none⟩ = some (Value.int .i64 (newThread s_aId d_aProg).check_) := bx147.2 8 (by simp)
  have k457 : w421.cell? ⟨w94.heap.size, 9, none⟩ = some ((Value.slice a124 m125 c126)) := bx147.2 9 (by simp)
  have k458 : w421.cell? ⟨w94.heap.size, 10, none⟩ = some (Value.int .i64 (newThread s_aId d_aProg).mine_) := bx147.2 10 (by simp)
  have k459 : w421.cell? ⟨w94.heap.size, 11, none⟩ = some (Value.int .i64 (newThread s_aId d_aProg).state_) := bx147.2 11 (by simp)
  have k460 : w421.cell? ⟨w94.heap.size, 12, none⟩ = some (Value.int .i64 (newThread s_aId d_aProg).commits_) := bx147.2 12 (by simp)
  have k461 : w421.cell? ⟨w94.heap.size, 13, none⟩ = some (Value.int .i64 (newThread s_aId d_aProg).fails_) := bx147.2 13 (by simp)
  go_wp2_with fail
  clear k434 k435 k436 k437 k438 k439 k440 k441 k442 k443 k444 k445 k446 k447 k448 k449 k450 k451 k452 k453 k454 k455 k456 k457 k458 k459 k460 k461
  refine (impl_NewThreadW s_aId d_aProg (Value.slice a431 m432 c433) _ (ownL.rds o425) hb_aProg).mono ?_
  rintro e w462 ⟨u464, u469, u474, S465, S470, S475, rfl, o466, o471, o476, r467, r472, r477, dj480, dj481, dj482, hb479, b463⟩
  have t483 := Below.trans t428 (Below.mono b463 zb0)
  have s484 := Below.trans s429 (Below.mono b463 za0)
  replace o285 := ownL.keep o285 (fun q hq => Below.block b463 q (hs73 q hq))
  replace hs73 := fun q hq => Nat.lt_of_lt_of_le (hs73 q hq) (Below.size b463)
  replace o353 := ownL.keep o353 (fun q hq => Below.block b463 q (hs100 q hq))
  replace hs100 := fun q hq => Nat.lt_of_lt_of_le (hs100 q hq) (Below.size b463)
  replace o354 := ownL.keep o354 (fun q hq => Below.block b463 q (hs105 q hq))
  replace hs105 := fun q hq => Nat.lt_of_lt_of_le (hs105 q hq) (Below.size b463)
  replace o355 := ownL.keep o355 (fun q hq => Below.block b463 q (hs110 q hq))
  replace hs110 := fun q hq => Nat.lt_of_lt_of_le (hs110 q hq) (Below.size b463)
  replace bx52 := Box.below bx52 b463
  replace bx147 := Box.below bx147 b463
  have z485 := Below.size b463
  replace zb0 : w.heap.size ≤ w462.heap.size := by omega
  replace za0 : w17.heap.size ≤ w462.heap.size := by omega
  obtain ⟨a486, m487, c488, rfl⟩ := ownL_shape o466
  have hs468 := fun q hq => (r467 q hq).2
  obtain ⟨a489, m490, c491, rfl⟩ := ownL_shape o471
  have hs473 := fun q hq => (r472 q hq).2
  obtain ⟨a492, m493, c494, rfl⟩ := ownL_shape o476
  have hs478 := fun q hq => (r477 q hq).2
  have k495 : w462.cell? ⟨w17.heap.size, 0, none⟩ = some (Value.int .i64 (newThread s_aId d_aProg).id_) := bx52.2 0 (by simp)
  have k496 : w462.cell? ⟨w17.heap.size, 1, none⟩ = some ((Value.slice a36 m37 c38)) := bx52.2 1 (by simp)
  have k497 : w462.cell? ⟨w17.heap.size, 2, none⟩ = some (Value.int .i64 (newThread s_aId d_aProg).at_) := bx52.2 2 (by simp)
  have k498 : w462.cell? ⟨w17.heap.size, 3, none⟩ = some (Value.int .i64 (newThread s_aId d_aProg).reg0_) := bx52.2 3 (by simp)
  have k499 : w462.cell? ⟨w17.heap.size, 4, none⟩ = some (Value.int .i64 (newThread s_aId d_aProg).reg1_) := bx52.2 4 (by simp)
  have k500 : w462.cell? ⟨w17.heap.size, 5, none⟩ = some (Value.int .i64 (newThread s_aId d_aProg).reg2_) := bx52.2 5 (by simp)
  have k501 : w462.cell? ⟨w17.heap.size, 6, none⟩ = some (Value.int .i64 (newThread s_aId d_aProg).reg3_) := bx52.2 6 (by simp)
  have k502 : w462.cell? ⟨w17.heap.size, 7, none⟩ = some ((Value.slice a39 m40 c41)) := bx52.2 7 (by simp)
  have k503 : w462.cell? ⟨w17.heap.size, 8, none⟩ = some (Value.int .i64 (newThread s_aId d_aProg).check_) := bx52.2 8 (by simp)
  have k504 : w462.cell? ⟨w17.heap.size, 9, none⟩ = some ((Value.slice a42 m43 c44)) := bx52.2 9 (by simp)
  have k505 : w462.cell? ⟨w17.heap.size, 10, none⟩ = some (Value.int .i64 (newThread s_aId d_aProg).mine_) := bx52.2 10 (by simp)
  have k506 : w462.cell? ⟨w17.heap.size, 11, none⟩ = some (Value.int .i64 (newThread s_aId d_aProg).state_) := bx52.2 11 (by simp)
  have k507 : w462.cell? ⟨w17.heap.size, 12, none⟩ = some (Value.int .i64 (newThread s_aId d_aProg).commits_) := bx52.2 12 (by simp)
  have k508 : w462.cell? ⟨w17.heap.size, 13, none⟩ = some (Value.int .i64 (newThread s_aId d_aProg).fails_) := bx52.2 13 (by simp)
  have k509 : w462.cell? ⟨w94.heap.size, 0, none⟩ = some (Value.int .i64 (newThread s_aId d_aProg).id_) := bx147.2 0 (by simp)
  have k510 : w462.cell? ⟨w94.heap.size, 1, none⟩ = some ((Value.slice a118 m119 c120)) := bx147.2 1 (by simp)
  have k511 : w462.cell? ⟨w94.heap.size, 2, none⟩ = some (Value.int .i64 (newThread s_aId d_aProg).at_) := bx147.2 2 (by simp)
  have k512 : w462.cell? ⟨w94.heap.size, 3, none⟩ = some (Value.int .i64 (newThread s_aId d_aProg).reg0_) := bx147.2 3 (by simp)
  have k513 : w462.cell? ⟨w94.heap.size, 4, none⟩ = some (Value.int .i64 (newThread s_aId d_aProg).reg1_) := bx147.2 4 (by simp)
  have k514 : w462.cell? ⟨w94.heap.size, 5, none⟩ = some (Value.int .i64 (newThread s_aId d_aProg).reg2_) := bx147.2 5 (by simp)
  have k515 : w462.cell? ⟨w94.heap.size, 6, none⟩ = some (Value.int .i64 (newThread s_aId d_aProg).reg3_) := bx147.2 6 (by simp)
  have k516 : w462.cell? ⟨w94.heap.size, 7, none⟩ = some ((Value.slice a121 m122 c123)) := bx147.2 7 (by simp)
  have k517 : w462.cell? ⟨w94.heap.size, 8, none⟩ = some (Value.int .i64 (newThread s_aId d_aProg).check_) := bx147.2 8 (by simp)
  have k518 : w462.cell? ⟨w94.heap.size, 9, none⟩ = some ((Value.slice a124 m125 c126)) := bx147.2 9 (by simp)
  have k519 : w462.cell? ⟨w94.heap.size, 10, none⟩ = some (Value.int .i64 (newThread s_aId d_aProg).mine_) := bx147.2 10 (by simp)
  have k520 : w462.cell? ⟨w94.heap.size, 11, none⟩ = some (Value.int .i64 (newThread s_aId d_aProg).state_) := bx147.2 11 (by simp)
  have k521 : w462.cell? ⟨w94.heap.size, 12, none⟩ = some (Value.int .i64 (newThread s_aId d_aProg).commits_) := bx147.2 12 (by simp)
  have k522 : w462.cell? ⟨w94.heap.size, 13, none⟩ = some (Value.int .i64 (newThread s_aId d_aProg).fails_) := bx147.2 13 (by simp)
  obtain ⟨X523, hX524⟩ : ∃ X, w462.alloc (.cells #[Value.int .i64 (newThread s_aId d_aProg).id_, (Value.slice a486 m487 c488), Value.int .i64 (newThread s_aId d_aProg).at_, Value.int .i64 (newThread s_aId d_aProg).reg0_, Value.int .i64 (newThread s_aId d_aProg).reg1_, Value.int .i64 (newThread s_aId d_aProg).reg2_, Value.int .i64 (newThread s_aId d_aProg).reg3_, (Value.slice a489 m490 c491), Value.int .i64 (newThread s_aId d_aProg).check_, (Value.slice a492 m493 c494), Value.int .i64 (newThread s_aId d_aProg).mine_, Value.int .i64 (newThread s_aId d_aProg).state_, Value.int .i64 (newThread s_aId d_aProg).commits_, Value.int .i64 (newThread s_aId d_aProg).fails_] 44) = X := ⟨_, rfl⟩
  have bX525 : Below w462.heap.size w462 X523 := by rw [← hX524]; exact (Below.refl _ _).alloc (Nat.le_refl _) _
  have zX523 : X523.heap.size = w462.heap.size + 1 := by rw [← hX524]; simp
  have t526 := Below.trans t483 (Below.mono bX525 zb0)
  have s527 := Below.trans s484 (Below.mono bX525 za0)
  replace o285 := ownL.keep o285 (fun q hq => Below.block bX525 q (hs73 q hq))
  replace hs73 := fun q hq => Nat.lt_of_lt_of_le (hs73 q hq) (Below.size bX525)
  replace o353 := ownL.keep o353 (fun q hq => Below.block bX525 q (hs100 q hq))
  replace hs100 := fun q hq => Nat.lt_of_lt_of_le (hs100 q hq) (Below.size bX525)
  replace o354 := ownL.keep o354 (fun q hq => Below.block bX525 q (hs105 q hq))
  replace hs105 := fun q hq => Nat.lt_of_lt_of_le (hs105 q hq) (Below.size bX525)
  replace o355 := ownL.keep o355 (fun q hq => Below.block bX525 q (hs110 q hq))
  replace hs110 := fun q hq => Nat.lt_of_lt_of_le (hs110 q hq) (Below.size bX525)
  replace o466 := ownL.keep o466 (fun q hq => Below.block bX525 q (hs468 q hq))
  replace hs468 := fun q hq => Nat.lt_of_lt_of_le (hs468 q hq) (Below.size bX525)
  replace o471 := ownL.keep o471 (fun q hq => Below.block bX525 q (hs473 q hq))
  replace hs473 := fun q hq => Nat.lt_of_lt_of_le (hs473 q hq) (Below.size bX525)
  replace o476 := ownL.keep o476 (fun q hq => Below.block bX525 q (hs478 q hq))
  replace hs478 := fun q hq => Nat.lt_of_lt_of_le (hs478 q hq) (Below.size bX525)
  replace bx52 := Box.below bx52 bX525
  replace bx147 := Box.below bx147 bX525
  have z528 := Below.size bX525
  replace zb0 : w.heap.size ≤ X523.heap.size := by omega
  replace za0 : w17.heap.size ≤ X523.heap.size := by omega
  have bx529 : Box X523 (w462.heap.size) [Value.int .i64 (newThread s_aId d_aProg).id_, (Value.slice a486 m487 c488), Value.int .i64 (newThread s_aId d_aProg).at_, Value.int .i64 (newThread s_aId d_aProg).reg0_, Value.int .i64 (newThread s_aId d_aProg).reg1_, Value.int .i64 (newThread s_aId d_aProg).reg2_, Value.int .i64 (newThread s_aId d_aProg).reg3_, (Value.slice a489 m490 c491), Value.int .i64 (newThread s_aId d_aProg).check_, (Value.slice a492 m493 c494), Value.int .i64 (newThread s_aId d_aProg).mine_, Value.int .i64 (newThread s_aId d_aProg).state_, Value.int .i64 (newThread s_aId d_aProg).commits_, Value.int .i64 (newThread s_aId d_aProg).fails_] := by rw [← hX524]; exact Box.alloc _ _ _
  have k530 : X523.cell? ⟨w17.heap.size, 0, none⟩ = some (Value.int .i64 (newThread s_aId d_aProg).id_) := bx52.2 0 (by simp)
  have k531 : X523.cell? ⟨w17.heap.size, 1, none⟩ = some ((Value.slice a36 m37 c38)) := bx52.2 1 (by simp)
  have k532 : X523.cell? ⟨w17.heap.size, 2, none⟩ = some (Value.int .i64 (newThread s_aId d_aProg).at_) := bx52.2 2 (by simp)
  have k533 : X523.cell? ⟨w17.heap.size, 3, none⟩ = some (Value.int .i64 (newThread s_aId d_aProg).reg0_) := bx52.2 3 (by simp)
  have k534 : X523.cell? ⟨w17.heap.size, 4, none⟩ = some (Value.int .i64 (newThread s_aId d_aProg).reg1_) := bx52.2 4 (by simp)
  have k535 : X523.cell? ⟨w17.heap.size, 5, none⟩ = some (Value.int .i64 (newThread s_aId d_aProg).reg2_) := bx52.2 5 (by simp)
  have k536 : X523.cell? ⟨w17.heap.size, 6, none⟩ = some (Value.int .i64 (newThread s_aId d_aProg).reg3_) := bx52.2 6 (by simp)
  have k537 : X523.cell? ⟨w17.heap.size, 7, none⟩ = some ((Value.slice a39 m40 c41)) := bx52.2 7 (by simp)
  have k538 : X523.cell? ⟨w17.heap.size, 8, none⟩ = some (Value.int .i64 (newThread s_aId d_aProg).check_) := bx52.2 8 (by simp)
  have k539 : X523.cell? ⟨w17.heap.size, 9, none⟩ = some ((Value.slice a42 m43 c44)) := bx52.2 9 (by simp)
  have k540 : X523.cell? ⟨w17.heap.size, 10, none⟩ = some (Value.int .i64 (newThread s_aId d_aProg).mine_) := bx52.2 10 (by simp)
  have k541 : X523.cell? ⟨w17.heap.size, 11, none⟩ = some (Value.int .i64 (newThread s_aId d_aProg).state_) := bx52.2 11 (by simp)
  have k542 : X523.cell? ⟨w17.heap.size, 12, none⟩ = some (Value.int .i64 (newThread s_aId d_aProg).commits_) := bx52.2 12 (by simp)
  have k543 : X523.cell? ⟨w17.heap.size, 13, none⟩ = some (Value.int .i64 (newThread s_aId d_aProg).fails_) := bx52.2 13 (by simp)
  have k544 : X523.cell? ⟨w94.heap.size, 0, none⟩ = some (Value.int .i64 (newThread s_aId d_aProg).id_) := bx147.2 0 (by simp)
  have k545 : X523.cell? ⟨w94.heap.size, 1, none⟩ = some ((Value.slice a118 m119 c120)) := bx147.2 1 (by simp)
  have k546 : X523.cell? ⟨w94.heap.size, 2, none⟩ = some (Value.int .i64 (newThread s_aId d_aProg).at_) := bx147.2 2 (by simp)
  have k547 : X523.cell? ⟨w94.heap.size, 3, none⟩ = some (Value.int .i64 (newThread s_aId d_aProg).reg0_) := bx147.2 3 (by simp)
  have k548 : X523.cell? ⟨w94.heap.size, 4, none⟩ = some (Value.int .i64 (newThread s_aId d_aProg).reg1_) := bx147.2 4 (by simp)
  have k549 : X523.cell? ⟨w94.heap.size, 5, none⟩ = some (Value.int .i64 (newThread s_aId d_aProg).reg2_) := bx147.2 5 (by simp)
  have k550 : X523.cell? ⟨w94.heap.size, 6, none⟩ = some (Value.int .i64 (newThread s_aId d_aProg).reg3_) := bx147.2 6 (by simp)
  have k551 : X523.cell? ⟨w94.heap.size, 7, none⟩ = some ((Value.slice a121 m122 c123)) := bx147.2 7 (by simp)
  have k552 : X523.cell? ⟨w94.heap.size, 8, none⟩ = some (Value.int .i64 (newThread s_aId d_aProg).check_) := bx147.2 8 (by simp)
  have k553 : X523.cell? ⟨w94.heap.size, 9, none⟩ = some ((Value.slice a124 m125 c126)) := bx147.2 9 (by simp)
  have k554 : X523.cell? ⟨w94.heap.size, 10, none⟩ = some (Value.int .i64 (newThread s_aId d_aProg).mine_) := bx147.2 10 (by simp)
  have k555 : X523.cell? ⟨w94.heap.size, 11, none⟩ = some (Value.int .i64 (newThread s_aId d_aProg).state_) := bx147.2 11 (by simp)
  have k556 : X523.cell? ⟨w94.heap.size, 12, none⟩ = some (Value.int .i64 (newThread s_aId d_aProg).commits_) := bx147.2 12 (by simp)
  have k557 : X523.cell? ⟨w94.heap.size, 13, none⟩ = some (Value.int .i64 (newThread s_aId d_aProg).fails_) := bx147.2 13 (by simp)
  have k558 : X523.cell? ⟨w462.heap.size, 0, none⟩ = some (Value.int .i64 (newThread s_aId d_aProg).id_) := bx529.2 0 (by simp)
  have k559 : X523.cell? ⟨w462.heap.size, 1, none⟩ = some ((Value.slice a486 m487 c488)) := bx529.2 1 (by simp)
  have k560 : X523.cell? ⟨w462.heap.size, 2, none⟩ = some (Value.int .i64 (newThread s_aId d_aProg).at_) := bx529.2 2 (by simp)
  have k561 : X523.cell? ⟨w462.heap.size, 3, none⟩ = some (Value.int .i64 (newThread s_aId d_aProg).reg0_) := bx529.2 3 (by simp)
  have k562 : X523.cell? ⟨w462.heap.size, 4, none⟩ = some (Value.int .i64 (newThread s_aId d_aProg).reg1_) := bx529.2 4 (by simp)
  have k563 : X523.cell? ⟨w462.heap.size, 5, none⟩ = some (Value.int .i64 (newThread s_aId d_aProg).reg2_) := bx529.2 5 (by simp)
  have k564 : X523.cell? ⟨w462.heap.size, 6, none⟩ = some (Value.int .i64 (newThread s_aId d_aProg).reg3_) := bx529.2 6 (by simp)
  have k565 : X523.cell? ⟨w462.heap.size, 7, none⟩ = some ((Value.slice a489 m490 c491)) := bx529.2 7 (by simp)
  have k566 : X523.cell? ⟨w462.heap.size, 8, none⟩ = some (Value.int .i64 (newThread s_aId d_aProg).check_) := bx529.2 8 (by simp)
  have k567 : X523.cell? ⟨w462.heap.size, 9, none⟩ = some ((Value.slice a492 m493 c494)) := bx529.2 9 (by simp)
  have k568 : X523.cell? ⟨w462.heap.size, 10, none⟩ = some (Value.int .i64 (newThread s_aId d_aProg).mine_) := bx529.2 10 (by simp)
  have k569 : X523.cell? ⟨w462.heap.size, 11, none⟩ = some (Value.int .i64 (newThread s_aId d_aProg).state_) := bx529.2 11 (by simp)
  have k570 : X523.cell? ⟨w462.heap.size, 12, none⟩ = some (Value.int .i64 (newThread s_aId d_aProg).commits_) := bx529.2 12 (by simp)
  have k571 : X523.cell? ⟨w462.heap.size, 13, none⟩ = some (Value.int .i64 (newThread s_aId d_aProg).fails_) := bx529.2 13 (by simp)
  go_wp2_with fail
  clear k495 k496 k497 k498 k499 k500 k501 k502 k503 k504 k505 k506 k507 k508 k509 k510 k511 k512 k513 k514 k515 k516 k517 k518 k519 k520 k521 k522 k530 k531 k532 k533 k534 k535 k536 k537 k538 k539 k540 k541 k542 k543 k544 k545 k546 k547 k548 k549 k550 k551 k552 k553 k554 k555 k556 k557 k558 k559 k560 k561 k562 k563 k564 k565 k566 k567 k568 k569 k570 k571 hX524
  refine (eqThread_o _ _ _ _ _ _ _ _ (ownL.rds o466) (ownL.rds o471) (ownL.rds o476) (rdsL.below o21 s527) (rdsL.below o26 s527) (rdsL.below o31 s527)).mono ?_
  rintro e w572 ⟨rfl, b573⟩
  have t574 := Below.trans t526 (Below.mono b573 zb0)
  have s575 := Below.trans s527 (Below.mono b573 za0)
  replace o285 := ownL.keep o285 (fun q hq => Below.block b573 q (hs73 q hq))
  replace hs73 := fun q hq => Nat.lt_of_lt_of_le (hs73 q hq) (Below.size b573)
  replace o353 := ownL.keep o353 (fun q hq => Below.block b573 q (hs100 q hq))
  replace hs100 := fun q hq => Nat.lt_of_lt_of_le (hs100 q hq) (Below.size b573)
  replace o354 := ownL.keep o354 (fun q hq => Below.block b573 q (hs105 q hq))
  replace hs105 := fun q hq => Nat.lt_of_lt_of_le (hs105 q hq) (Below.size b573)
  replace o355 := ownL.keep o355 (fun q hq => Below.block b573 q (hs110 q hq))
  replace hs110 := fun q hq => Nat.lt_of_lt_of_le (hs110 q hq) (Below.size b573)
  replace o466 := ownL.keep o466 (fun q hq => Below.block b573 q (hs468 q hq))
  replace hs468 := fun q hq => Nat.lt_of_lt_of_le (hs468 q hq) (Below.size b573)
  replace o471 := ownL.keep o471 (fun q hq => Below.block b573 q (hs473 q hq))
  replace hs473 := fun q hq => Nat.lt_of_lt_of_le (hs473 q hq) (Below.size b573)
  replace o476 := ownL.keep o476 (fun q hq => Below.block b573 q (hs478 q hq))
  replace hs478 := fun q hq => Nat.lt_of_lt_of_le (hs478 q hq) (Below.size b573)
  replace bx52 := Box.below bx52 b573
  replace bx147 := Box.below bx147 b573
  replace bx529 := Box.below bx529 b573
  have z576 := Below.size b573
  replace zb0 : w.heap.size ≤ w572.heap.size := by omega
  replace za0 : w17.heap.size ≤ w572.heap.size := by omega
  have k577 : w572.cell? ⟨w17.heap.size, 0, none⟩ = some (Value.int .i64 (newThread s_aId d_aProg).id_) := bx52.2 0 (by simp)
  have k578 : w572.cell? ⟨w17.heap.size, 1, none⟩ = some ((Value.slice a36 m37 c38)) := bx52.2 1 (by simp)
  have k579 : w572.cell? ⟨w17.heap.size, 2, none⟩ = some (Value.int .i64 (newThread s_aId d_aProg).at_) := bx52.2 2 (by simp)
  have k580 : w572.cell? ⟨w17.heap.size, 3, none⟩ = some (Value.int .i64 (newThread s_aId d_aProg).reg0_) := bx52.2 3 (by simp)
  have k581 : w572.cell? ⟨w17.heap.size, 4, none⟩ = some (Value.int .i64 (newThread s_aId d_aProg).reg1_) := bx52.2 4 (by simp)
  have k582 : w572.cell? ⟨w17.heap.size, 5, none⟩ = some (Value.int .i64 (newThread s_aId d_aProg).reg2_) := bx52.2 5 (by simp)
  have k583 : w572.cell? ⟨w17.heap.size, 6, none⟩ = some (Value.int .i64 (newThread s_aId d_aProg).reg3_) := bx52.2 6 (by simp)
  have k584 : w572.cell? ⟨w17.heap.size, 7, none⟩ = some ((Value.slice a39 m40 c41)) := bx52.2 7 (by simp)
  have k585 : w572.cell? ⟨w17.heap.size, 8, none⟩ = some (Value.int .i64 (newThread s_aId d_aProg).check_) := bx52.2 8 (by simp)
  have k586 : w572.cell? ⟨w17.heap.size, 9, none⟩ = some ((Value.slice a42 m43 c44)) := bx52.2 9 (by simp)
  have k587 : w572.cell? ⟨w17.heap.size, 10, none⟩ = some (Value.int .i64 (newThread s_aId d_aProg).mine_) := bx52.2 10 (by simp)
  have k588 : w572.cell? ⟨w17.heap.size, 11, none⟩ = some (Value.int .i64 (newThread s_aId d_aProg).state_) := bx52.2 11 (by simp)
  have k589 : w572.cell? ⟨w17.heap.size, 12, none⟩ = some (Value.int .i64 (newThread s_aId d_aProg).commits_) := bx52.2 12 (by simp)
  have k590 : w572.cell? ⟨w17.heap.size, 13, none⟩ = some (Value.int .i64 (newThread s_aId d_aProg).fails_) := bx52.2 13 (by simp)
  have k591 : w572.cell? ⟨w94.heap.size, 0, none⟩ = some (Value.int .i64 (newThread s_aId d_aProg).id_) := bx147.2 0 (by simp)
  have k592 : w572.cell? ⟨w94.heap.size, 1, none⟩ = some ((Value.slice a118 m119 c120)) := bx147.2 1 (by simp)
  have k593 : w572.cell? ⟨w94.heap.size, 2, none⟩ = some (Value.int .i64 (newThread s_aId d_aProg).at_) := bx147.2 2 (by simp)
  have k594 : w572.cell? ⟨w94.heap.size, 3, none⟩ = some (Value.int .i64 (newThread s_aId d_aProg).reg0_) := bx147.2 3 (by simp)
  have k595 : w572.cell? ⟨w94.heap.size, 4, none⟩ = some (Value.int .i64 (newThread s_aId d_aProg).reg1_) := bx147.2 4 (by simp)
  have k596 : w572.cell? ⟨w94.heap.size, 5, none⟩ = some (Value.int .i64 (newThread s_aId d_aProg).reg2_) := bx147.2 5 (by simp)
  have k597 : w572.cell? ⟨w94.heap.size, 6, none⟩ = some (Value.int .i64 (newThread s_aId d_aProg).reg3_) := bx147.2 6 (by simp)
  have k598 : w572.cell? ⟨w94.heap.size, 7, none⟩ = some ((Value.slice a121 m122 c123)) := bx147.2 7 (by simp)
  have k599 : w572.cell? ⟨w94.heap.size, 8, none⟩ = some (Value.int .i64 (newThread s_aId d_aProg).check_) := bx147.2 8 (by simp)
  have k600 : w572.cell? ⟨w94.heap.size, 9, none⟩ = some ((Value.slice a124 m125 c126)) := bx147.2 9 (by simp)
  have k601 : w572.cell? ⟨w94.heap.size, 10, none⟩ = some (Value.int .i64 (newThread s_aId d_aProg).mine_) := bx147.2 10 (by simp)
  have k602 : w572.cell? ⟨w94.heap.size, 11, none⟩ = some (Value.int .i64 (newThread s_aId d_aProg).state_) := bx147.2 11 (by simp)
  have k603 : w572.cell? ⟨w94.heap.size, 12, none⟩ = some (Value.int .i64 (newThread s_aId d_aProg).commits_) := bx147.2 12 (by simp)
  have k604 : w572.cell? ⟨w94.heap.size, 13, none⟩ = some (Value.int .i64 (newThread s_aId d_aProg).fails_) := bx147.2 13 (by simp)
  have k605 : w572.cell? ⟨w462.heap.size, 0, none⟩ = some (Value.int .i64 (newThread s_aId d_aProg).id_) := bx529.2 0 (by simp)
  have k606 : w572.cell? ⟨w462.heap.size, 1, none⟩ = some ((Value.slice a486 m487 c488)) := bx529.2 1 (by simp)
  have k607 : w572.cell? ⟨w462.heap.size, 2, none⟩ = some (Value.int .i64 (newThread s_aId d_aProg).at_) := bx529.2 2 (by simp)
  have k608 : w572.cell? ⟨w462.heap.size, 3, none⟩ = some (Value.int .i64 (newThread s_aId d_aProg).reg0_) := bx529.2 3 (by simp)
  have k609 : w572.cell? ⟨w462.heap.size, 4, none⟩ = some (Value.int .i64 (newThread s_aId d_aProg).reg1_) := bx529.2 4 (by simp)
  have k610 : w572.cell? ⟨w462.heap.size, 5, none⟩ = some (Value.int .i64 (newThread s_aId d_aProg).reg2_) := bx529.2 5 (by simp)
  have k611 : w572.cell? ⟨w462.heap.size, 6, none⟩ = some (Value.int .i64 (newThread s_aId d_aProg).reg3_) := bx529.2 6 (by simp)
  have k612 : w572.cell? ⟨w462.heap.size, 7, none⟩ = some ((Value.slice a489 m490 c491)) := bx529.2 7 (by simp)
  have k613 : w572.cell? ⟨w462.heap.size, 8, none⟩ = some (Value.int .i64 (newThread s_aId d_aProg).check_) := bx529.2 8 (by simp)
  have k614 : w572.cell? ⟨w462.heap.size, 9, none⟩ = some ((Value.slice a492 m493 c494)) := bx529.2 9 (by simp)
  have k615 : w572.cell? ⟨w462.heap.size, 10, none⟩ = some (Value.int .i64 (newThread s_aId d_aProg).mine_) := bx529.2 10 (by simp)
  have k616 : w572.cell? ⟨w462.heap.size, 11, none⟩ = some (Value.int .i64 (newThread s_aId d_aProg).state_) := bx529.2 11 (by simp)
  have k617 : w572.cell? ⟨w462.heap.size, 12, none⟩ = some (Value.int .i64 (newThread s_aId d_aProg).commits_) := bx529.2 12 (by simp)
  have k618 : w572.cell? ⟨w462.heap.size, 13, none⟩ = some (Value.int .i64 (newThread s_aId d_aProg).fails_) := bx529.2 13 (by simp)
  go_wp2_with fail
  clear k577 k578 k579 k580 k581 k582 k583 k584 k585 k586 k587 k588 k589 k590 k591 k592 k593 k594 k595 k596 k597 k598 k599 k600 k601 k602 k603 k604 k605 k606 k607 k608 k609 k610 k611 k612 k613 k614 k615 k616 k617 k618
  refine (heldThread_o _ _ _ _ _ _ hb111 (by omega) (by omega) (ownL.rds o353) (ownL.rds o354) (ownL.rds o355)).mono ?_
  rintro e w619 ⟨rfl, b620⟩
  have t621 := Below.trans t574 (Below.mono b620 zb0)
  have s622 := Below.trans s575 (Below.mono b620 za0)
  replace o285 := ownL.keep o285 (fun q hq => Below.block b620 q (hs73 q hq))
  replace hs73 := fun q hq => Nat.lt_of_lt_of_le (hs73 q hq) (Below.size b620)
  replace o353 := ownL.keep o353 (fun q hq => Below.block b620 q (hs100 q hq))
  replace hs100 := fun q hq => Nat.lt_of_lt_of_le (hs100 q hq) (Below.size b620)
  replace o354 := ownL.keep o354 (fun q hq => Below.block b620 q (hs105 q hq))
  replace hs105 := fun q hq => Nat.lt_of_lt_of_le (hs105 q hq) (Below.size b620)
  replace o355 := ownL.keep o355 (fun q hq => Below.block b620 q (hs110 q hq))
  replace hs110 := fun q hq => Nat.lt_of_lt_of_le (hs110 q hq) (Below.size b620)
  replace o466 := ownL.keep o466 (fun q hq => Below.block b620 q (hs468 q hq))
  replace hs468 := fun q hq => Nat.lt_of_lt_of_le (hs468 q hq) (Below.size b620)
  replace o471 := ownL.keep o471 (fun q hq => Below.block b620 q (hs473 q hq))
  replace hs473 := fun q hq => Nat.lt_of_lt_of_le (hs473 q hq) (Below.size b620)
  replace o476 := ownL.keep o476 (fun q hq => Below.block b620 q (hs478 q hq))
  replace hs478 := fun q hq => Nat.lt_of_lt_of_le (hs478 q hq) (Below.size b620)
  replace bx52 := Box.below bx52 b620
  replace bx147 := Box.below bx147 b620
  replace bx529 := Box.below bx529 b620
  have z623 := Below.size b620
  replace zb0 : w.heap.size ≤ w619.heap.size := by omega
  replace za0 : w17.heap.size ≤ w619.heap.size := by omega
  have k624 : w619.cell? ⟨w17.heap.size, 0, none⟩ = some (Value.int .i64 (newThread s_aId d_aProg).id_) := bx52.2 0 (by simp)
  have k625 : w619.cell? ⟨w17.heap.size, 1, none⟩ = some ((Value.slice a36 m37 c38)) := bx52.2 1 (by simp)
  have k626 : w619.cell? ⟨w17.heap.size, 2, none⟩ = some (Value.int .i64 (newThread s_aId d_aProg).at_) := bx52.2 2 (by simp)
  have k627 : w619.cell? ⟨w17.heap.size, 3, none⟩ = some (Value.int .i64 (newThread s_aId d_aProg).reg0_) := bx52.2 3 (by simp)
  have k628 : w619.cell? ⟨w17.heap.size, 4, none⟩ = some (Value.int .i64 (newThread s_aId d_aProg).reg1_) := bx52.2 4 (by simp)
  have k629 : w619.cell? ⟨w17.heap.size, 5, none⟩ = some (Value.int .i64 (newThread s_aId d_aProg).reg2_) := bx52.2 5 (by simp)
  have k630 : w619.cell? ⟨w17.heap.size, 6, none⟩ = some (Value.int .i64 (newThread s_aId d_aProg).reg3_) := bx52.2 6 (by simp)
  have k631 : w619.cell? ⟨w17.heap.size, 7, none⟩ = some ((Value.slice a39 m40 c41)) := bx52.2 7 (by simp)
  have k632 : w619.cell? ⟨w17.heap.size, 8, none⟩ = some (Value.int .i64 (newThread s_aId d_aProg).check_) := bx52.2 8 (by simp)
  have k633 : w619.cell? ⟨w17.heap.size, 9, none⟩ = some ((Value.slice a42 m43 c44)) := bx52.2 9 (by simp)
  have k634 : w619.cell? ⟨w17.heap.size, 10, none⟩ = some (Value.int .i64 (newThread s_aId d_aProg).mine_) := bx52.2 10 (by simp)
  have k635 : w619.cell? ⟨w17.heap.size, 11, none⟩ = some (Value.int .i64 (newThread s_aId d_aProg).state_) := bx52.2 11 (by simp)
  have k636 : w619.cell? ⟨w17.heap.size, 12, none⟩ = some (Value.int .i64 (newThread s_aId d_aProg).commits_) := bx52.2 12 (by simp)
  have k637 : w619.cell? ⟨w17.heap.size, 13, none⟩ = some (Value.int .i64 (newThread s_aId d_aProg).fails_) := bx52.2 13 (by simp)
  have k638 : w619.cell? ⟨w94.heap.size, 0, none⟩ = some (Value.int .i64 (newThread s_aId d_aProg).id_) := bx147.2 0 (by simp)
  have k639 : w619.cell? ⟨w94.heap.size, 1, none⟩ = some ((Value.slice a118 m119 c120)) := bx147.2 1 (by simp)
  have k640 : w619.cell? ⟨w94.heap.size, 2, none⟩ = some (Value.int .i64 (newThread s_aId d_aProg).at_) := bx147.2 2 (by simp)
  have k641 : w619.cell? ⟨w94.heap.size, 3, none⟩ = some (Value.int .i64 (newThread s_aId d_aProg).reg0_) := bx147.2 3 (by simp)
  have k642 : w619.cell? ⟨w94.heap.size, 4, none⟩ = some (Value.int .i64 (newThread s_aId d_aProg).reg1_) := bx147.2 4 (by simp)
  have k643 : w619.cell? ⟨w94.heap.size, 5, none⟩ = some (Value.int .i64 (newThread s_aId d_aProg).reg2_) := bx147.2 5 (by simp)
  have k644 : w619.cell? ⟨w94.heap.size, 6, none⟩ = some (Value.int .i64 (newThread s_aId d_aProg).reg3_) := bx147.2 6 (by simp)
  have k645 : w619.cell? ⟨w94.heap.size, 7, none⟩ = some ((Value.slice a121 m122 c123)) := bx147.2 7 (by simp)
  have k646 : w619.cell? ⟨w94.heap.size, 8, none⟩ = some (Value.int .i64 (newThread s_aId d_aProg).check_) := bx147.2 8 (by simp)
  have k647 : w619.cell? ⟨w94.heap.size, 9, none⟩ = some ((Value.slice a124 m125 c126)) := bx147.2 9 (by simp)
  have k648 : w619.cell? ⟨w94.heap.size, 10, none⟩ = some (Value.int .i64 (newThread s_aId d_aProg).mine_) := bx147.2 10 (by simp)
  have k649 : w619.cell? ⟨w94.heap.size, 11, none⟩ = some (Value.int .i64 (newThread s_aId d_aProg).state_) := bx147.2 11 (by simp)
  have k650 : w619.cell? ⟨w94.heap.size, 12, none⟩ = some (Value.int .i64 (newThread s_aId d_aProg).commits_) := bx147.2 12 (by simp)
  have k651 : w619.cell? ⟨w94.heap.size, 13, none⟩ = some (Value.int .i64 (newThread s_aId d_aProg).fails_) := bx147.2 13 (by simp)
  have k652 : w619.cell? ⟨w462.heap.size, 0, none⟩ = some (Value.int .i64 (newThread s_aId d_aProg).id_) := bx529.2 0 (by simp)
  have k653 : w619.cell? ⟨w462.heap.size, 1, none⟩ = some ((Value.slice a486 m487 c488)) := bx529.2 1 (by simp)
  have k654 : w619.cell? ⟨w462.heap.size, 2, none⟩ = some (Value.int .i64 (newThread s_aId d_aProg).at_) := bx529.2 2 (by simp)
  have k655 : w619.cell? ⟨w462.heap.size, 3, none⟩ = some (Value.int .i64 (newThread s_aId d_aProg).reg0_) := bx529.2 3 (by simp)
  have k656 : w619.cell? ⟨w462.heap.size, 4, none⟩ = some (Value.int .i64 (newThread s_aId d_aProg).reg1_) := bx529.2 4 (by simp)
  have k657 : w619.cell? ⟨w462.heap.size, 5, none⟩ = some (Value.int .i64 (newThread s_aId d_aProg).reg2_) := bx529.2 5 (by simp)
  have k658 : w619.cell? ⟨w462.heap.size, 6, none⟩ = some (Value.int .i64 (newThread s_aId d_aProg).reg3_) := bx529.2 6 (by simp)
  have k659 : w619.cell? ⟨w462.heap.size, 7, none⟩ = some ((Value.slice a489 m490 c491)) := bx529.2 7 (by simp)
  have k660 : w619.cell? ⟨w462.heap.size, 8, none⟩ = some (Value.int .i64 (newThread s_aId d_aProg).check_) := bx529.2 8 (by simp)
  have k661 : w619.cell? ⟨w462.heap.size, 9, none⟩ = some ((Value.slice a492 m493 c494)) := bx529.2 9 (by simp)
  have k662 : w619.cell? ⟨w462.heap.size, 10, none⟩ = some (Value.int .i64 (newThread s_aId d_aProg).mine_) := bx529.2 10 (by simp)
  have k663 : w619.cell? ⟨w462.heap.size, 11, none⟩ = some (Value.int .i64 (newThread s_aId d_aProg).state_) := bx529.2 11 (by simp)
  have k664 : w619.cell? ⟨w462.heap.size, 12, none⟩ = some (Value.int .i64 (newThread s_aId d_aProg).commits_) := bx529.2 12 (by simp)
  have k665 : w619.cell? ⟨w462.heap.size, 13, none⟩ = some (Value.int .i64 (newThread s_aId d_aProg).fails_) := bx529.2 13 (by simp)
  go_wp2_with fail
  clear k624 k625 k626 k627 k628 k629 k630 k631 k632 k633 k634 k635 k636 k637 k638 k639 k640 k641 k642 k643 k644 k645 k646 k647 k648 k649 k650 k651 k652 k653 k654 k655 k656 k657 k658 k659 k660 k661 k662 k663 k664 k665
  try go_wp2
  go_ret
  exact ⟨rfl, hB0.trans (Below.mono t621 hB0.size)⟩

end Go.Proofs.Ytikiaffgjpddeaa
