/- FnExactLook, walked. -/
import Derived.Test.YtpdgpblekbongaaW7
import Derived.Test.YtpdgpblekbongaaBx
import Derived.Test.YtpdgpblekbongaaEnc4
import Derived.Test.YtpdgpblekbongaaKeep
import Derived.Deep.RegionHeld3
import Derived.StillTailTactics
namespace Go.Proofs.Ytpdgpblekbongaa
set_option maxRecDepth 100000
open Go.RowKit Go.Proofs Go.Own
set_option linter.unusedVariables false

set_option maxRecDepth 100000 in
set_option maxHeartbeats 8000000 in
theorem law_Look (d_aS : StoreD) (v_aS0 v_aS1 : Value) (s_aObject : Int) (w : World) (h_aS0 : rdsL w v_aS0 d_aS.heads_) (h_aS1 : rdsL w v_aS1 d_aS.descs_) (hi_aObject : InI s_aObject) :
    Calls Try.prog 5 #[(.agg #[v_aS0, v_aS1]), (.int .i64 s_aObject)] w fun e w' => e = .returned (.bool true) ∧ Below w.heap.size w w' := by
  obtain ⟨a_aS0, c_aS0, rfl, -, -, -⟩ := rdsL_open h_aS0
  obtain ⟨a_aS1, c_aS1, rfl, -, -, -⟩ := rdsL_open h_aS1
  obtain ⟨W1, hW1⟩ : ∃ X, w.alloc (.cells #[(Value.slice a_aS0 d_aS.heads_.length c_aS0), (Value.slice a_aS1 d_aS.descs_.length c_aS1)] 25) = X := ⟨_, rfl⟩
  have hbx1 : Below w.heap.size w W1 := by rw [← hW1]; exact (Below.refl _ _).alloc (Nat.le_refl _) _
  have zw1 : W1.heap.size = w.heap.size + 1 := by rw [← hW1]; simp
  have bx_aS : Box W1 (w.heap.size) [(Value.slice a_aS0 d_aS.heads_.length c_aS0), (Value.slice a_aS1 d_aS.descs_.length c_aS1)] := by rw [← hW1]; exact Box.alloc _ _ _
  have hB0 : Below w.heap.size w W1 := hbx1
  replace h_aS0 := rdsL.below h_aS0 hB0
  replace h_aS1 := rdsL.below h_aS1 hB0
  have tt0 : Below W1.heap.size W1 W1 := Below.refl _ _
  have zb0 : W1.heap.size ≤ W1.heap.size := Nat.le_refl _
  go_enter Try.func5, Try.ntmps5
  have k1 : W1.cell? ⟨w.heap.size, 0, none⟩ = some ((Value.slice a_aS0 d_aS.heads_.length c_aS0)) := bx_aS.2 0 (by simp)
  have k2 : W1.cell? ⟨w.heap.size, 1, none⟩ = some ((Value.slice a_aS1 d_aS.descs_.length c_aS1)) := bx_aS.2 1 (by simp)
  go_wp2_with fail
  clear k1 k2 hW1
  have hl0_aS : 0 ≤ (1048576 : Int) := by omega
  refine (szStore_o d_aS (Value.slice a_aS0 d_aS.heads_.length c_aS0) (Value.slice a_aS1 d_aS.descs_.length c_aS1) _ _ (by omega) (by omega) (rdsL.below h_aS0 tt0) (rdsL.below h_aS1 tt0)).mono ?_
  rintro e w3 ⟨rfl, b4⟩
  have t5 := Below.trans tt0 (Below.mono b4 zb0)
  replace bx_aS := Box.below bx_aS b4
  have z6 := Below.size b4
  replace zb0 : W1.heap.size ≤ w3.heap.size := by omega
  by_cases big_aS : (1048576 : Int) < (szStoreD d_aS : Int)
  · rw [szR_of, if_pos big_aS]
    go_wp2
    go_ret
    exact ⟨rfl, hB0.trans (Below.mono t5 hB0.size)⟩
  rw [szR_of, if_neg big_aS]
  have k7 : w3.cell? ⟨w.heap.size, 0, none⟩ = some ((Value.slice a_aS0 d_aS.heads_.length c_aS0)) := bx_aS.2 0 (by simp)
  have k8 : w3.cell? ⟨w.heap.size, 1, none⟩ = some ((Value.slice a_aS1 d_aS.descs_.length c_aS1)) := bx_aS.2 1 (by simp)
  go_wp2_with fail
  clear k7 k8
  have hb_aS : StoreB d_aS := by show _ ≤ 1048576; have := big_aS; unfold szStoreD at *; omega
  refine (toStore_o d_aS (Value.slice a_aS0 d_aS.heads_.length c_aS0) (Value.slice a_aS1 d_aS.descs_.length c_aS1) _ (rdsL.below h_aS0 t5) (rdsL.below h_aS1 t5) hb_aS).mono ?_
  rintro e w9 ⟨u11, u16, S12, S17, rfl, o13, o18, r14, r19, dj21, b10⟩
  have t22 := Below.trans t5 (Below.mono b10 zb0)
  replace bx_aS := Box.below bx_aS b10
  have z23 := Below.size b10
  replace zb0 : W1.heap.size ≤ w9.heap.size := by omega
  obtain ⟨a24, m25, c26, rfl⟩ := ownL_shape o13
  have hs15 := fun q hq => (r14 q hq).2
  obtain ⟨a27, m28, c29, rfl⟩ := ownL_shape o18
  have hs20 := fun q hq => (r19 q hq).2
  have k30 : w9.cell? ⟨w.heap.size, 0, none⟩ = some ((Value.slice a_aS0 d_aS.heads_.length c_aS0)) := bx_aS.2 0 (by simp)
  have k31 : w9.cell? ⟨w.heap.size, 1, none⟩ = some ((Value.slice a_aS1 d_aS.descs_.length c_aS1)) := bx_aS.2 1 (by simp)
  go_wp2_with fail
  clear k30 k31
  refine (spec_LookW d_aS (Value.slice a24 m25 c26) (Value.slice a27 m28 c29) s_aObject _ (ownL.rds o13) (ownL.rds o18) hb_aS).mono ?_
  rintro e w32 ⟨rfl, b33⟩
  have t34 := Below.trans t22 (Below.mono b33 zb0)
  replace bx_aS := Box.below bx_aS b33
  have z35 := Below.size b33
  replace zb0 : W1.heap.size ≤ w32.heap.size := by omega
  have s36 : Below w32.heap.size w32 w32 := Below.refl _ _
  have za0 : w32.heap.size ≤ w32.heap.size := Nat.le_refl _
  have k37 : w32.cell? ⟨w.heap.size, 0, none⟩ = some ((Value.slice a_aS0 d_aS.heads_.length c_aS0)) := bx_aS.2 0 (by simp)
  have k38 : w32.cell? ⟨w.heap.size, 1, none⟩ = some ((Value.slice a_aS1 d_aS.descs_.length c_aS1)) := bx_aS.2 1 (by simp)
  obtain ⟨X39, hX40⟩ : ∃ X, w32.alloc (.cells #[Value.int .i64 (lookD d_aS s_aObject).value_, Value.int .i64 (lookD d_aS s_aObject).version_, Value.int .i64 (lookD d_aS s_aObject).desc_] 44) = X := ⟨_, rfl⟩
  have bX41 : Below w32.heap.size w32 X39 := by rw [← hX40]; exact (Below.refl _ _).alloc (Nat.le_refl _) _
  have zX39 : X39.heap.size = w32.heap.size + 1 := by rw [← hX40]; simp
  have t42 := Below.trans t34 (Below.mono bX41 zb0)
  have s43 := Below.trans s36 (Below.mono bX41 za0)
  replace bx_aS := Box.below bx_aS bX41
  have z44 := Below.size bX41
  replace zb0 : W1.heap.size ≤ X39.heap.size := by omega
  replace za0 : w32.heap.size ≤ X39.heap.size := by omega
  have bx45 : Box X39 (w32.heap.size) [Value.int .i64 (lookD d_aS s_aObject).value_, Value.int .i64 (lookD d_aS s_aObject).version_, Value.int .i64 (lookD d_aS s_aObject).desc_] := by rw [← hX40]; exact Box.alloc _ _ _
  have k46 : X39.cell? ⟨w.heap.size, 0, none⟩ = some ((Value.slice a_aS0 d_aS.heads_.length c_aS0)) := bx_aS.2 0 (by simp)
  have k47 : X39.cell? ⟨w.heap.size, 1, none⟩ = some ((Value.slice a_aS1 d_aS.descs_.length c_aS1)) := bx_aS.2 1 (by simp)
  have k48 : X39.cell? ⟨w32.heap.size, 0, none⟩ = some (Value.int .i64 (lookD d_aS s_aObject).value_) := bx45.2 0 (by simp)
  have k49 : X39.cell? ⟨w32.heap.size, 1, none⟩ = some (Value.int .i64 (lookD d_aS s_aObject).version_) := bx45.2 1 (by simp)
  have k50 : X39.cell? ⟨w32.heap.size, 2, none⟩ = some (Value.int .i64 (lookD d_aS s_aObject).desc_) := bx45.2 2 (by simp)
  go_wp2_with fail
  clear k37 k38 k46 k47 k48 k49 k50 hX40
  refine (toStore_o d_aS (Value.slice a_aS0 d_aS.heads_.length c_aS0) (Value.slice a_aS1 d_aS.descs_.length c_aS1) _ (rdsL.below h_aS0 t42) (rdsL.below h_aS1 t42) hb_aS).mono ?_
  rintro e w51 ⟨u53, u58, S54, S59, rfl, o55, o60, r56, r61, dj63, b52⟩
  have t64 := Below.trans t42 (Below.mono b52 zb0)
  have s65 := Below.trans s43 (Below.mono b52 za0)
  replace bx_aS := Box.below bx_aS b52
  replace bx45 := Box.below bx45 b52
  have z66 := Below.size b52
  replace zb0 : W1.heap.size ≤ w51.heap.size := by omega
  replace za0 : w32.heap.size ≤ w51.heap.size := by omega
  obtain ⟨a67, m68, c69, rfl⟩ := ownL_shape o55
  have hs57 := fun q hq => (r56 q hq).2
  obtain ⟨a70, m71, c72, rfl⟩ := ownL_shape o60
  have hs62 := fun q hq => (r61 q hq).2
  have k73 : w51.cell? ⟨w.heap.size, 0, none⟩ = some ((Value.slice a_aS0 d_aS.heads_.length c_aS0)) := bx_aS.2 0 (by simp)
  have k74 : w51.cell? ⟨w.heap.size, 1, none⟩ = some ((Value.slice a_aS1 d_aS.descs_.length c_aS1)) := bx_aS.2 1 (by simp)
  have k75 : w51.cell? ⟨w32.heap.size, 0, none⟩ = some (Value.int .i64 (lookD d_aS s_aObject).value_) := bx45.2 0 (by simp)
  have k76 : w51.cell? ⟨w32.heap.size, 1, none⟩ = some (Value.int .i64 (lookD d_aS s_aObject).version_) := bx45.2 1 (by simp)
  have k77 : w51.cell? ⟨w32.heap.size, 2, none⟩ = some (Value.int .i64 (lookD d_aS s_aObject).desc_) := bx45.2 2 (by simp)
  obtain ⟨X78, hX79⟩ : ∃ X, w51.alloc (.cells #[(Value.slice a67 m68 c69), (Value.slice a70 m71 c72)] 31) = X := ⟨_, rfl⟩
  have bX80 : Below w51.heap.size w51 X78 := by rw [← hX79]; exact (Below.refl _ _).alloc (Nat.le_refl _) _
  have zX78 : X78.heap.size = w51.heap.size + 1 := by rw [← hX79]; simp
  have t81 := Below.trans t64 (Below.mono bX80 zb0)
  have s82 := Below.trans s65 (Below.mono bX80 za0)
  replace o55 := ownL.keep o55 (fun q hq => Below.block bX80 q (hs57 q hq))
  replace hs57 := fun q hq => Nat.lt_of_lt_of_le (hs57 q hq) (Below.size bX80)
  replace o60 := ownL.keep o60 (fun q hq => Below.block bX80 q (hs62 q hq))
  replace hs62 := fun q hq => Nat.lt_of_lt_of_le (hs62 q hq) (Below.size bX80)
  replace bx_aS := Box.below bx_aS bX80
  replace bx45 := Box.below bx45 bX80
  have z83 := Below.size bX80
  replace zb0 : W1.heap.size ≤ X78.heap.size := by omega
  replace za0 : w32.heap.size ≤ X78.heap.size := by omega
  have bx84 : Box X78 (w51.heap.size) [(Value.slice a67 m68 c69), (Value.slice a70 m71 c72)] := by rw [← hX79]; exact Box.alloc _ _ _
  have k85 : X78.cell? ⟨w.heap.size, 0, none⟩ = some ((Value.slice a_aS0 d_aS.heads_.length c_aS0)) := bx_aS.2 0 (by simp)
  have k86 : X78.cell? ⟨w.heap.size, 1, none⟩ = some ((Value.slice a_aS1 d_aS.descs_.length c_aS1)) := bx_aS.2 1 (by simp)
  have k87 : X78.cell? ⟨w32.heap.size, 0, none⟩ = some (Value.int .i64 (lookD d_aS s_aObject).value_) := bx45.2 0 (by simp)
  have k88 : X78.cell? ⟨w32.heap.size, 1, none⟩ = some (Value.int .i64 (lookD d_aS s_aObject).version_) := bx45.2 1 (by simp)
  have k89 : X78.cell? ⟨w32.heap.size, 2, none⟩ = some (Value.int .i64 (lookD d_aS s_aObject).desc_) := bx45.2 2 (by simp)
  have k90 : X78.cell? ⟨w51.heap.size, 0, none⟩ = some ((Value.slice a67 m68 c69)) := bx84.2 0 (by simp)
  have k91 : X78.cell? ⟨w51.heap.size, 1, none⟩ = some ((Value.slice a70 m71 c72)) := bx84.2 1 (by simp)
  go_wp2_with fail
  clear k73 k74 k75 k76 k77 k85 k86 k87 k88 k89 k90 k91 hX79
  refine (impl_LookW d_aS (Value.slice a67 m68 c69) (Value.slice a70 m71 c72) s_aObject _ (ownL.rds o55) (ownL.rds o60) hb_aS).mono ?_
  rintro e w92 ⟨rfl, b93⟩
  have t94 := Below.trans t81 (Below.mono b93 zb0)
  have s95 := Below.trans s82 (Below.mono b93 za0)
  replace o55 := ownL.keep o55 (fun q hq => Below.block b93 q (hs57 q hq))
  replace hs57 := fun q hq => Nat.lt_of_lt_of_le (hs57 q hq) (Below.size b93)
  replace o60 := ownL.keep o60 (fun q hq => Below.block b93 q (hs62 q hq))
  replace hs62 := fun q hq => Nat.lt_of_lt_of_le (hs62 q hq) (Below.size b93)
  replace bx_aS := Box.below bx_aS b93
  replace bx45 := Box.below bx45 b93
  replace bx84 := Box.below bx84 b93
  have z96 := Below.size b93
  replace zb0 : W1.heap.size ≤ w92.heap.size := by omega
  replace za0 : w32.heap.size ≤ w92.heap.size := by omega
  have k97 : w92.cell? ⟨w.heap.size, 0, none⟩ = some ((Value.slice a_aS0 d_aS.heads_.length c_aS0)) := bx_aS.2 0 (by simp)
  have k98 : w92.cell? ⟨w.heap.size, 1, none⟩ = some ((Value.slice a_aS1 d_aS.descs_.length c_aS1)) := bx_aS.2 1 (by simp)
  have k99 : w92.cell? ⟨w32.heap.size, 0, none⟩ = some (Value.int .i64 (lookD d_aS s_aObject).value_) := bx45.2 0 (by simp)
  have k100 : w92.cell? ⟨w32.heap.size, 1, none⟩ = some (Value.int .i64 (lookD d_aS s_aObject).version_) := bx45.2 1 (by simp)
  have k101 : w92.cell? ⟨w32.heap.size, 2, none⟩ = some (Value.int .i64 (lookD d_aS s_aObject).desc_) := bx45.2 2 (by simp)
  have k102 : w92.cell? ⟨w51.heap.size, 0, none⟩ = some ((Value.slice a67 m68 c69)) := bx84.2 0 (by simp)
  have k103 : w92.cell? ⟨w51.heap.size, 1, none⟩ = some ((Value.slice a70 m71 c72)) := bx84.2 1 (by simp)
  obtain ⟨X104, hX105⟩ : ∃ X, w92.alloc (.cells #[Value.int .i64 (lookD d_aS s_aObject).value_, Value.int .i64 (lookD d_aS s_aObject).version_, Value.int .i64 (lookD d_aS s_aObject).desc_] 44) = X := ⟨_, rfl⟩
  have bX106 : Below w92.heap.size w92 X104 := by rw [← hX105]; exact (Below.refl _ _).alloc (Nat.le_refl _) _
  have zX104 : X104.heap.size = w92.heap.size + 1 := by rw [← hX105]; simp
  have t107 := Below.trans t94 (Below.mono bX106 zb0)
  have s108 := Below.trans s95 (Below.mono bX106 za0)
  replace o55 := ownL.keep o55 (fun q hq => Below.block bX106 q (hs57 q hq))
  replace hs57 := fun q hq => Nat.lt_of_lt_of_le (hs57 q hq) (Below.size bX106)
  replace o60 := ownL.keep o60 (fun q hq => Below.block bX106 q (hs62 q hq))
  replace hs62 := fun q hq => Nat.lt_of_lt_of_le (hs62 q hq) (Below.size bX106)
  replace bx_aS := Box.below bx_aS bX106
  replace bx45 := Box.below bx45 bX106
  replace bx84 := Box.below bx84 bX106
  have z109 := Below.size bX106
  replace zb0 : W1.heap.size ≤ X104.heap.size := by omega
  replace za0 : w32.heap.size ≤ X104.heap.size := by omega
  have bx110 : Box X104 (w92.heap.size) [Value.int .i64 (lookD d_aS s_aObject).value_, Value.int .i64 (lookD d_aS s_aObject).version_, Value.int .i64 (lookD d_aS s_aObject).desc_] := by rw [← hX105]; exact Box.alloc _ _ _
  have k111 : X104.cell? ⟨w.heap.size, 0, none⟩ = some ((Value.slice a_aS0 d_aS.heads_.length c_aS0)) := bx_aS.2 0 (by simp)
  have k112 : X104.cell? ⟨w.heap.size, 1, none⟩ = some ((Value.slice a_aS1 d_aS.descs_.length c_aS1)) := bx_aS.2 1 (by simp)
  have k113 : X104.cell? ⟨w32.heap.size, 0, none⟩ = some (Value.int .i64 (lookD d_aS s_aObject).value_) := bx45.2 0 (by simp)
  have k114 : X104.cell? ⟨w32.heap.size, 1, none⟩ = some (Value.int .i64 (lookD d_aS s_aObject).version_) := bx45.2 1 (by simp)
  have k115 : X104.cell? ⟨w32.heap.size, 2, none⟩ = some (Value.int .i64 (lookD d_aS s_aObject).desc_) := bx45.2 2 (by simp)
  have k116 : X104.cell? ⟨w51.heap.size, 0, none⟩ = some ((Value.slice a67 m68 c69)) := bx84.2 0 (by simp)
  have k117 : X104.cell? ⟨w51.heap.size, 1, none⟩ = some ((Value.slice a70 m71 c72)) := bx84.2 1 (by simp)
  have k118 : X104.cell? ⟨w92.heap.size, 0, none⟩ = some (Value.int .i64 (lookD d_aS s_aObject).value_) := bx110.2 0 (by simp)
  have k119 : X104.cell? ⟨w92.heap.size, 1, none⟩ = some (Value.int .i64 (lookD d_aS s_aObject).version_) := bx110.2 1 (by simp)
  have k120 : X104.cell? ⟨w92.heap.size, 2, none⟩ = some (Value.int .i64 (lookD d_aS s_aObject).desc_) := bx110.2 2 (by simp)
  go_wp2_with fail
  clear k97 k98 k99 k100 k101 k102 k103 k111 k112 k113 k114 k115 k116 k117 k118 k119 k120 hX105
  refine (eqHead_c (lookD d_aS s_aObject) _).mono ?_
  rintro e w121 ⟨rfl, b122⟩
  have t123 := Below.trans t107 (Below.mono b122 zb0)
  have s124 := Below.trans s108 (Below.mono b122 za0)
  replace o55 := ownL.keep o55 (fun q hq => Below.block b122 q (hs57 q hq))
  replace hs57 := fun q hq => Nat.lt_of_lt_of_le (hs57 q hq) (Below.size b122)
  replace o60 := ownL.keep o60 (fun q hq => Below.block b122 q (hs62 q hq))
  replace hs62 := fun q hq => Nat.lt_of_lt_of_le (hs62 q hq) (Below.size b122)
  replace bx_aS := Box.below bx_aS b122
  replace bx45 := Box.below bx45 b122
  replace bx84 := Box.below bx84 b122
  replace bx110 := Box.below bx110 b122
  have z125 := Below.size b122
  replace zb0 : W1.heap.size ≤ w121.heap.size := by omega
  replace za0 : w32.heap.size ≤ w121.heap.size := by omega
  have k126 : w121.cell? ⟨w.heap.size, 0, none⟩ = some ((Value.slice a_aS0 d_aS.heads_.length c_aS0)) := bx_aS.2 0 (by simp)
  have k127 : w121.cell? ⟨w.heap.size, 1, none⟩ = some ((Value.slice a_aS1 d_aS.descs_.length c_aS1)) := bx_aS.2 1 (by simp)
  have k128 : w121.cell? ⟨w32.heap.size, 0, none⟩ = some (Value.int .i64 (lookD d_aS s_aObject).value_) := bx45.2 0 (by simp)
  have k129 : w121.cell? ⟨w32.heap.size, 1, none⟩ = some (Value.int .i64 (lookD d_aS s_aObject).version_) := bx45.2 1 (by simp)
  have k130 : w121.cell? ⟨w32.heap.size, 2, none⟩ = some (Value.int .i64 (lookD d_aS s_aObject).desc_) := bx45.2 2 (by simp)
  have k131 : w121.cell? ⟨w51.heap.size, 0, none⟩ = some ((Value.slice a67 m68 c69)) := bx84.2 0 (by simp)
  have k132 : w121.cell? ⟨w51.heap.size, 1, none⟩ = some ((Value.slice a70 m71 c72)) := bx84.2 1 (by simp)
  have k133 : w121.cell? ⟨w92.heap.size, 0, none⟩ = some (Value.int .i64 (lookD d_aS s_aObject).value_) := bx110.2 0 (by simp)
  have k134 : w121.cell? ⟨w92.heap.size, 1, none⟩ = some (Value.int .i64 (lookD d_aS s_aObject).version_) := bx110.2 1 (by simp)
  have k135 : w121.cell? ⟨w92.heap.size, 2, none⟩ = some (Value.int .i64 (lookD d_aS s_aObject).desc_) := bx110.2 2 (by simp)
  go_wp2_with fail
  clear k126 k127 k128 k129 k130 k131 k132 k133 k134 k135
  have lt151 := (bx_aS).1
  have lt152 := (bx45).1
  have lt153 := (bx84).1
  have lt154 := (bx110).1
  have k155 : w121.cell? ⟨w.heap.size, 0, none⟩ = some ((Value.slice a_aS0 d_aS.heads_.length c_aS0)) := bx_aS.2 0 (by simp)
  have k156 : w121.cell? ⟨w.heap.size, 1, none⟩ = some ((Value.slice a_aS1 d_aS.descs_.length c_aS1)) := bx_aS.2 1 (by simp)
  have k157 : w121.cell? ⟨w32.heap.size, 0, none⟩ = some (Value.int .i64 (lookD d_aS s_aObject).value_) := bx45.2 0 (by simp)
  have k158 : w121.cell? ⟨w32.heap.size, 1, none⟩ = some (Value.int .i64 (lookD d_aS s_aObject).version_) := bx45.2 1 (by simp)
  have k159 : w121.cell? ⟨w32.heap.size, 2, none⟩ = some (Value.int .i64 (lookD d_aS s_aObject).desc_) := bx45.2 2 (by simp)
  have k160 : w121.cell? ⟨w51.heap.size, 0, none⟩ = some ((Value.slice a67 m68 c69)) := bx84.2 0 (by simp)
  have k161 : w121.cell? ⟨w51.heap.size, 1, none⟩ = some ((Value.slice a70 m71 c72)) := bx84.2 1 (by simp)
  have k162 : w121.cell? ⟨w92.heap.size, 0, none⟩ = some (Value.int .i64 (lookD d_aS s_aObject).value_) := bx110.2 0 (by simp)
  have k163 : w121.cell? ⟨w92.heap.size, 1, none⟩ = some (Value.int .i64 (lookD d_aS s_aObject).version_) := bx110.2 1 (by simp)
  have k164 : w121.cell? ⟨w92.heap.size, 2, none⟩ = some (Value.int .i64 (lookD d_aS s_aObject).desc_) := bx110.2 2 (by simp)
  go_region_held3 (fun w' => Below w121.heap.size w121 w' ∧ w121.heap.size ≤ w'.heap.size ∧ w'.cell? ⟨w.heap.size, 0, none⟩ = some ((Value.slice a_aS0 d_aS.heads_.length c_aS0)) ∧ w'.cell? ⟨w.heap.size, 1, none⟩ = some ((Value.slice a_aS1 d_aS.descs_.length c_aS1)) ∧ w'.cell? ⟨w32.heap.size, 0, none⟩ = some (Value.int .i64 (lookD d_aS s_aObject).value_) ∧ w'.cell? ⟨w32.heap.size, 1, none⟩ = some (Value.int .i64 (lookD d_aS s_aObject).version_) ∧ w'.cell? ⟨w32.heap.size, 2, none⟩ = some (Value.int .i64 (lookD d_aS s_aObject).desc_) ∧ w'.cell? ⟨w51.heap.size, 0, none⟩ = some ((Value.slice a67 m68 c69)) ∧ w'.cell? ⟨w51.heap.size, 1, none⟩ = some ((Value.slice a70 m71 c72)) ∧ w'.cell? ⟨w92.heap.size, 0, none⟩ = some (Value.int .i64 (lookD d_aS s_aObject).value_) ∧ w'.cell? ⟨w92.heap.size, 1, none⟩ = some (Value.int .i64 (lookD d_aS s_aObject).version_) ∧ w'.cell? ⟨w92.heap.size, 2, none⟩ = some (Value.int .i64 (lookD d_aS s_aObject).desc_))
    (first | exact ⟨(Below.refl _ _).drew, Nat.le_refl _, k155, k156, k157, k158, k159, k160, k161, k162, k163, k164⟩ | exact keepBox10 (by omega) ‹_› ‹_›)
    (first
    | (go_at_call 12; refine (toStore_o d_aS (Value.slice a_aS0 d_aS.heads_.length c_aS0) (Value.slice a_aS1 d_aS.descs_.length c_aS1) _ (rdsL.below (rdsL.below h_aS0 t123) ((Below.refl _ _).drew : Below w121.heap.size w121 w121.drew)) (rdsL.below (rdsL.below h_aS1 t123) ((Below.refl _ _).drew : Below w121.heap.size w121 w121.drew)) hb_aS).mono ?_; rintro e w136 ⟨u138, u143, S139, S144, rfl, o140, o145, r141, r146, dj148, b137⟩; have hq_w136 : Below w121.heap.size w121 w136 := Below.trans ((Below.refl _ _).drew : Below w121.heap.size w121 w121.drew) (Below.mono b137 (Below.size ((Below.refl _ _).drew : Below w121.heap.size w121 w121.drew))))
    | (go_at_call 14; refine (eqStore_o _ _ _ _ _ _ (rdsL.below (rdsL.below (ownL.rds o55) ((Below.refl _ _).drew : Below w121.heap.size w121 w121.drew)) b137) (rdsL.below (rdsL.below (ownL.rds o60) ((Below.refl _ _).drew : Below w121.heap.size w121 w121.drew)) b137) (ownL.rds o140) (ownL.rds o145)).mono ?_; rintro e w149 ⟨rfl, b150⟩))
  clear k155 k156 k157 k158 k159 k160 k161 k162 k163 k164
  have d165 : Below w121.heap.size w121 w121.drew := (Below.refl _ _).drew
  have t166 := Below.trans t123 (Below.mono d165 zb0)
  have s167 := Below.trans s124 (Below.mono d165 za0)
  replace o55 := ownL.keep o55 (fun q hq => Below.block d165 q (hs57 q hq))
  replace hs57 := fun q hq => Nat.lt_of_lt_of_le (hs57 q hq) (Below.size d165)
  replace o60 := ownL.keep o60 (fun q hq => Below.block d165 q (hs62 q hq))
  replace hs62 := fun q hq => Nat.lt_of_lt_of_le (hs62 q hq) (Below.size d165)
  replace bx_aS := Box.below bx_aS d165
  replace bx45 := Box.below bx45 d165
  replace bx84 := Box.below bx84 d165
  replace bx110 := Box.below bx110 d165
  have z168 := Below.size d165
  replace zb0 : W1.heap.size ≤ w121.drew.heap.size := by omega
  replace za0 : w32.heap.size ≤ w121.drew.heap.size := by omega
  have t169 := Below.trans t166 (Below.mono b137 zb0)
  have s170 := Below.trans s167 (Below.mono b137 za0)
  replace o55 := ownL.keep o55 (fun q hq => Below.block b137 q (hs57 q hq))
  replace hs57 := fun q hq => Nat.lt_of_lt_of_le (hs57 q hq) (Below.size b137)
  replace o60 := ownL.keep o60 (fun q hq => Below.block b137 q (hs62 q hq))
  replace hs62 := fun q hq => Nat.lt_of_lt_of_le (hs62 q hq) (Below.size b137)
  replace bx_aS := Box.below bx_aS b137
  replace bx45 := Box.below bx45 b137
  replace bx84 := Box.below bx84 b137
  replace bx110 := Box.below bx110 b137
  have z171 := Below.size b137
  replace zb0 : W1.heap.size ≤ w136.heap.size := by omega
  replace za0 : w32.heap.size ≤ w136.heap.size := by omega
  have t172 := Below.trans t169 (Below.mono b150 zb0)
  have s173 := Below.trans s170 (Below.mono b150 za0)
  replace o55 := ownL.keep o55 (fun q hq => Below.block b150 q (hs57 q hq))
  replace hs57 := fun q hq => Nat.lt_of_lt_of_le (hs57 q hq) (Below.size b150)
  replace o60 := ownL.keep o60 (fun q hq => Below.block b150 q (hs62 q hq))
  replace hs62 := fun q hq => Nat.lt_of_lt_of_le (hs62 q hq) (Below.size b150)
  replace bx_aS := Box.below bx_aS b150
  replace bx45 := Box.below bx45 b150
  replace bx84 := Box.below bx84 b150
  replace bx110 := Box.below bx110 b150
  have z174 := Below.size b150
  replace zb0 : W1.heap.size ≤ w149.heap.size := by omega
  replace za0 : w32.heap.size ≤ w149.heap.size := by omega
  have k175 : w149.cell? ⟨w.heap.size, 0, none⟩ = some ((Value.slice a_aS0 d_aS.heads_.length c_aS0)) := bx_aS.2 0 (by simp)
  have k176 : w149.cell? ⟨w.heap.size, 1, none⟩ = some ((Value.slice a_aS1 d_aS.descs_.length c_aS1)) := bx_aS.2 1 (by simp)
  have k177 : w149.cell? ⟨w32.heap.size, 0, none⟩ = some (Value.int .i64 (lookD d_aS s_aObject).value_) := bx45.2 0 (by simp)
  have k178 : w149.cell? ⟨w32.heap.size, 1, none⟩ = some (Value.int .i64 (lookD d_aS s_aObject).version_) := bx45.2 1 (by simp)
  have k179 : w149.cell? ⟨w32.heap.size, 2, none⟩ = some (Value.int .i64 (lookD d_aS s_aObject).desc_) := bx45.2 2 (by simp)
  have k180 : w149.cell? ⟨w51.heap.size, 0, none⟩ = some ((Value.slice a67 m68 c69)) := bx84.2 0 (by simp)
  have k181 : w149.cell? ⟨w51.heap.size, 1, none⟩ = some ((Value.slice a70 m71 c72)) := bx84.2 1 (by simp)
  have k182 : w149.cell? ⟨w92.heap.size, 0, none⟩ = some (Value.int .i64 (lookD d_aS s_aObject).value_) := bx110.2 0 (by simp)
  have k183 : w149.cell? ⟨w92.heap.size, 1, none⟩ = some (Value.int .i64 (lookD d_aS s_aObject).version_) := bx110.2 1 (by simp)
  have k184 : w149.cell? ⟨w92.heap.size, 2, none⟩ = some (Value.int .i64 (lookD d_aS s_aObject).desc_) := bx110.2 2 (by simp)
  go_wp2_with fail
  clear k175 k176 k177 k178 k179 k180 k181 k182 k183 k184
  try go_wp2
  go_ret
  exact ⟨rfl, hB0.trans (Below.mono t172 hB0.size)⟩

end Go.Proofs.Ytpdgpblekbongaa
