/- FnExactNewWorld, walked. -/
import Derived.Test.YtcafdihekamnkaaW11n
import Derived.Test.YtcafdihekamnkaaBx
import Derived.Test.YtcafdihekamnkaaM1
import Derived.Test.YtcafdihekamnkaaHop
import Derived.Test.YtcafdihekamnkaaWr3
import Derived.Test.YtcafdihekamnkaaKeep2
import Derived.Deep.RegionHeld3
import Derived.Deep.Cut
import Derived.StillTailTactics
namespace Go.Proofs.Ytcafdihekamnkaa
set_option maxRecDepth 100000
open Go.RowKit Go.Proofs Go.Own
set_option linter.unusedVariables false

set_option maxRecDepth 100000 in
set_option maxHeartbeats 8000000 in
theorem law_NewWorld (d_aValues : List Int) (v_aValues0 : Value) (d_aProgs : List ProgD) (v_aProgs0 : Value) (w : World) (h_aValues0 : rdsL w v_aValues0 d_aValues) (h_aProgs0 : rdsL w v_aProgs0 d_aProgs) :
    Calls Try.prog 3 #[v_aValues0, v_aProgs0] w fun e w' => e = .returned (.bool true) ∧ Below w.heap.size w w' := by
  obtain ⟨a_aValues0, c_aValues0, rfl, -, -, -⟩ := rdsL_open h_aValues0
  obtain ⟨a_aProgs0, c_aProgs0, rfl, -, -, -⟩ := rdsL_open h_aProgs0
  have hB0 : Below w.heap.size w w := Below.refl _ _
  have tt0 : Below w.heap.size w w := Below.refl _ _
  have zb0 : w.heap.size ≤ w.heap.size := Nat.le_refl _
  go_enter Try.func3, Try.ntmps3
  have hlen_aValues : d_aValues.length ≤ 9223372036854775807 := by obtain ⟨_, _, _, z1, z2, _⟩ := rdsL_open h_aValues0; omega
  by_cases big_aValues : (1048576 : Int) < (d_aValues.length : Int)
  · go_wp2
    go_ret
    exact ⟨rfl, hB0.trans (Below.mono tt0 hB0.size)⟩
  have hb_aValues : IntSB d_aValues := by show _ ≤ 1048576; omega
  go_wp2_with fail
  have hl0_aProgs : 0 ≤ (1048576 : Int) := by omega
  refine (szInstrSS_o d_aProgs (Value.slice a_aProgs0 d_aProgs.length c_aProgs0) _ _ (by omega) (by omega) (rdsL.below h_aProgs0 tt0)).mono ?_
  rintro e w1 ⟨rfl, b2⟩
  have t3 := Below.trans tt0 (Below.mono b2 zb0)
  have z4 := Below.size b2
  replace zb0 : w.heap.size ≤ w1.heap.size := by omega
  by_cases big_aProgs : (1048576 : Int) < (szInstrSSD d_aProgs : Int)
  · rw [szR_of, if_pos big_aProgs]
    go_wp2
    go_ret
    exact ⟨rfl, hB0.trans (Below.mono t3 hB0.size)⟩
  rw [szR_of, if_neg big_aProgs]
  go_wp2_with fail
  have hb_aProgs : InstrSSB d_aProgs := by show _ ≤ 1048576; have := big_aProgs; unfold szInstrSSD at *; omega
  refine (toIntS_o d_aValues (Value.slice a_aValues0 d_aValues.length c_aValues0) _ (rdsL.below h_aValues0 t3) hb_aValues).mono ?_
  rintro e w5 ⟨u7, S8, rfl, o9, r10, b6⟩
  have t12 := Below.trans t3 (Below.mono b6 zb0)
  have z13 := Below.size b6
  replace zb0 : w.heap.size ≤ w5.heap.size := by omega
  obtain ⟨a14, m15, c16, rfl⟩ := ownL_shape o9
  have hs11 := fun q hq => (r10 q hq).2
  go_wp2_with fail
  refine (toInstrSS_o d_aProgs (Value.slice a_aProgs0 d_aProgs.length c_aProgs0) _ (rdsL.below h_aProgs0 t12) hb_aProgs).mono ?_
  rintro e w17 ⟨u19, S20, rfl, o21, r22, b18⟩
  have t24 := Below.trans t12 (Below.mono b18 zb0)
  replace o9 := ownL.keep o9 (fun q hq => Below.block b18 q (hs11 q hq))
  replace hs11 := fun q hq => Nat.lt_of_lt_of_le (hs11 q hq) (Below.size b18)
  have z25 := Below.size b18
  replace zb0 : w.heap.size ≤ w17.heap.size := by omega
  obtain ⟨a26, m27, c28, rfl⟩ := ownL_shape o21
  have hs23 := fun q hq => (r22 q hq).2
  go_wp2_with fail
  refine (spec_NewWorldW d_aValues (Value.slice a14 m15 c16) d_aProgs (Value.slice a26 m27 c28) _ (ownL.rds o9) hb_aValues (ownL.rds o21) hb_aProgs).mono ?_
  rintro e w29 ⟨u31, u36, u41, u46, u51, S32, S37, S42, S47, S52, rfl, o33, o38, o43, o48, o53, r34, r39, r44, r49, r54, dj57, dj58, dj59, dj60, dj61, dj62, dj63, dj64, dj65, dj66, hb56, b30⟩
  replace o33 := ownL.rds o33
  replace o38 := ownL.rds o38
  replace o43 := ownL.rds o43
  replace o48 := ownL.rds o48
  replace o53 := ownL.rds o53
  have t67 := Below.trans t24 (Below.mono b30 zb0)
  have z68 := Below.size b30
  replace zb0 : w.heap.size ≤ w29.heap.size := by omega
  obtain ⟨a69, m70, c71, rfl⟩ := rdsL_shape o33
  obtain ⟨a72, m73, c74, rfl⟩ := rdsL_shape o38
  obtain ⟨a75, m76, c77, rfl⟩ := rdsL_shape o43
  obtain ⟨a78, m79, c80, rfl⟩ := rdsL_shape o48
  obtain ⟨a81, m82, c83, rfl⟩ := rdsL_shape o53
  have s84 : Below w29.heap.size w29 w29 := Below.refl _ _
  have za0 : w29.heap.size ≤ w29.heap.size := Nat.le_refl _
  obtain ⟨X85, hX86⟩ : ∃ X, w29.alloc (.cells #[(Value.slice a69 m70 c71), (Value.slice a72 m73 c74), (Value.slice a75 m76 c77), (Value.slice a78 m79 c80), (Value.slice a81 m82 c83)] 32) = X := ⟨_, rfl⟩
  have bX87 : Below w29.heap.size w29 X85 := by rw [← hX86]; exact (Below.refl _ _).alloc (Nat.le_refl _) _
  have zX85 : X85.heap.size = w29.heap.size + 1 := by rw [← hX86]; simp
  have t88 := Below.trans t67 (Below.mono bX87 zb0)
  have s89 := Below.trans s84 (Below.mono bX87 za0)
  have z90 := Below.size bX87
  replace zb0 : w.heap.size ≤ X85.heap.size := by omega
  replace za0 : w29.heap.size ≤ X85.heap.size := by omega
  have bx91 : Box X85 (w29.heap.size) [(Value.slice a69 m70 c71), (Value.slice a72 m73 c74), (Value.slice a75 m76 c77), (Value.slice a78 m79 c80), (Value.slice a81 m82 c83)] := by rw [← hX86]; exact Box.alloc _ _ _
  have k92 : X85.cell? ⟨w29.heap.size, 0, none⟩ = some ((Value.slice a69 m70 c71)) := bx91.2 0 (by simp)
  have k93 : X85.cell? ⟨w29.heap.size, 1, none⟩ = some ((Value.slice a72 m73 c74)) := bx91.2 1 (by simp)
  have k94 : X85.cell? ⟨w29.heap.size, 2, none⟩ = some ((Value.slice a75 m76 c77)) := bx91.2 2 (by simp)
  have k95 : X85.cell? ⟨w29.heap.size, 3, none⟩ = some ((Value.slice a78 m79 c80)) := bx91.2 3 (by simp)
  have k96 : X85.cell? ⟨w29.heap.size, 4, none⟩ = some ((Value.slice a81 m82 c83)) := bx91.2 4 (by simp)
  go_wp2_with fail
  clear k92 k93 k94 k95 k96 hX86
  refine (toIntS_o d_aValues (Value.slice a_aValues0 d_aValues.length c_aValues0) _ (rdsL.below h_aValues0 t88) hb_aValues).mono ?_
  rintro e w97 ⟨u99, S100, rfl, o101, r102, b98⟩
  have t104 := Below.trans t88 (Below.mono b98 zb0)
  have s105 := Below.trans s89 (Below.mono b98 za0)
  replace bx91 := Box.below bx91 b98
  have z106 := Below.size b98
  replace zb0 : w.heap.size ≤ w97.heap.size := by omega
  replace za0 : w29.heap.size ≤ w97.heap.size := by omega
  obtain ⟨a107, m108, c109, rfl⟩ := ownL_shape o101
  have hs103 := fun q hq => (r102 q hq).2
  have k110 : w97.cell? ⟨w29.heap.size, 0, none⟩ = some ((Value.slice a69 m70 c71)) := bx91.2 0 (by simp)
  have k111 : w97.cell? ⟨w29.heap.size, 1, none⟩ = some ((Value.slice a72 m73 c74)) := bx91.2 1 (by simp)
  have k112 : w97.cell? ⟨w29.heap.size, 2, none⟩ = some ((Value.slice a75 m76 c77)) := bx91.2 2 (by simp)
  have k113 : w97.cell? ⟨w29.heap.size, 3, none⟩ = some ((Value.slice a78 m79 c80)) := bx91.2 3 (by simp)
  have k114 : w97.cell? ⟨w29.heap.size, 4, none⟩ = some ((Value.slice a81 m82 c83)) := bx91.2 4 (by simp)
  go_wp2_with fail
  clear k110 k111 k112 k113 k114
  refine (toInstrSS_o d_aProgs (Value.slice a_aProgs0 d_aProgs.length c_aProgs0) _ (rdsL.below h_aProgs0 t104) hb_aProgs).mono ?_
  rintro e w115 ⟨u117, S118, rfl, o119, r120, b116⟩
  have t122 := Below.trans t104 (Below.mono b116 zb0)
  have s123 := Below.trans s105 (Below.mono b116 za0)
  replace o101 := ownL.keep o101 (fun q hq => Below.block b116 q (hs103 q hq))
  replace hs103 := fun q hq => Nat.lt_of_lt_of_le (hs103 q hq) (Below.size b116)
  replace bx91 := Box.below bx91 b116
  have z124 := Below.size b116
  replace zb0 : w.heap.size ≤ w115.heap.size := by omega
  replace za0 : w29.heap.size ≤ w115.heap.size := by omega
  obtain ⟨a125, m126, c127, rfl⟩ := ownL_shape o119
  have hs121 := fun q hq => (r120 q hq).2
  have k128 : w115.cell? ⟨w29.heap.size, 0, none⟩ = some ((Value.slice a69 m70 c71)) := bx91.2 0 (by simp)
  have k129 : w115.cell? ⟨w29.heap.size, 1, none⟩ = some ((Value.slice a72 m73 c74)) := bx91.2 1 (by simp)
  have k130 : w115.cell? ⟨w29.heap.size, 2, none⟩ = some ((Value.slice a75 m76 c77)) := bx91.2 2 (by simp)
  have k131 : w115.cell? ⟨w29.heap.size, 3, none⟩ = some ((Value.slice a78 m79 c80)) := bx91.2 3 (by simp)
  have k132 : w115.cell? ⟨w29.heap.size, 4, none⟩ = some ((Value.slice a81 m82 c83)) := bx91.2 4 (by simp)
  go_wp2_with fail
  clear k128 k129 k130 k131 k132
  refine (impl_NewWorldW d_aValues (Value.slice a107 m108 c109) d_aProgs (Value.slice a125 m126 c127) _ (ownL.rds o101) hb_aValues (ownL.rds o119) hb_aProgs).mono ?_
  rintro e w133 ⟨u135, u140, u145, u150, u155, S136, S141, S146, S151, S156, rfl, o137, o142, o147, o152, o157, r138, r143, r148, r153, r158, dj161, dj162, dj163, dj164, dj165, dj166, dj167, dj168, dj169, dj170, hb160, b134⟩
  have t171 := Below.trans t122 (Below.mono b134 zb0)
  have s172 := Below.trans s123 (Below.mono b134 za0)
  replace o101 := ownL.keep o101 (fun q hq => Below.block b134 q (hs103 q hq))
  replace hs103 := fun q hq => Nat.lt_of_lt_of_le (hs103 q hq) (Below.size b134)
  replace o119 := ownL.keep o119 (fun q hq => Below.block b134 q (hs121 q hq))
  replace hs121 := fun q hq => Nat.lt_of_lt_of_le (hs121 q hq) (Below.size b134)
  replace bx91 := Box.below bx91 b134
  have z173 := Below.size b134
  replace zb0 : w.heap.size ≤ w133.heap.size := by omega
  replace za0 : w29.heap.size ≤ w133.heap.size := by omega
  obtain ⟨a174, m175, c176, rfl⟩ := ownL_shape o137
  have hs139 := fun q hq => (r138 q hq).2
  obtain ⟨a177, m178, c179, rfl⟩ := ownL_shape o142
  have hs144 := fun q hq => (r143 q hq).2
  obtain ⟨a180, m181, c182, rfl⟩ := ownL_shape o147
  have hs149 := fun q hq => (r148 q hq).2
  obtain ⟨a183, m184, c185, rfl⟩ := ownL_shape o152
  have hs154 := fun q hq => (r153 q hq).2
  obtain ⟨a186, m187, c188, rfl⟩ := ownL_shape o157
  have hs159 := fun q hq => (r158 q hq).2
  have k189 : w133.cell? ⟨w29.heap.size, 0, none⟩ = some ((Value.slice a69 m70 c71)) := bx91.2 0 (by simp)
  have k190 : w133.cell? ⟨w29.heap.size, 1, none⟩ = some ((Value.slice a72 m73 c74)) := bx91.2 1 (by simp)
  have k191 : w133.cell? ⟨w29.heap.size, 2, none⟩ = some ((Value.slice a75 m76 c77)) := bx91.2 2 (by simp)
  have k192 : w133.cell? ⟨w29.heap.size, 3, none⟩ = some ((Value.slice a78 m79 c80)) := bx91.2 3 (by simp)
  have k193 : w133.cell? ⟨w29.heap.size, 4, none⟩ = some ((Value.slice a81 m82 c83)) := bx91.2 4 (by simp)
  obtain ⟨X194, hX195⟩ : ∃ X, w133.alloc (.cells #[(Value.slice a174 m175 c176), (Value.slice a177 m178 c179), (Value.slice a180 m181 c182), (Value.slice a183 m184 c185), (Value.slice a186 m187 c188)] 32) = X := ⟨_, rfl⟩
  have bX196 : Below w133.heap.size w133 X194 := by rw [← hX195]; exact (Below.refl _ _).alloc (Nat.le_refl _) _
  have zX194 : X194.heap.size = w133.heap.size + 1 := by rw [← hX195]; simp
  have t197 := Below.trans t171 (Below.mono bX196 zb0)
  have s198 := Below.trans s172 (Below.mono bX196 za0)
  replace o101 := ownL.keep o101 (fun q hq => Below.block bX196 q (hs103 q hq))
  replace hs103 := fun q hq => Nat.lt_of_lt_of_le (hs103 q hq) (Below.size bX196)
  replace o119 := ownL.keep o119 (fun q hq => Below.block bX196 q (hs121 q hq))
  replace hs121 := fun q hq => Nat.lt_of_lt_of_le (hs121 q hq) (Below.size bX196)
  replace o137 := ownL.keep o137 (fun q hq => Below.block bX196 q (hs139 q hq))
  replace hs139 := fun q hq => Nat.lt_of_lt_of_le (hs139 q hq) (Below.size bX196)
  replace o142 := ownL.keep o142 (fun q hq => Below.block bX196 q (hs144 q hq))
  replace hs144 := fun q hq => Nat.lt_of_lt_of_le (hs144 q hq) (Below.size bX196)
  replace o147 := ownL.keep o147 (fun q hq => Below.block bX196 q (hs149 q hq))
  replace hs149 := fun q hq => Nat.lt_of_lt_of_le (hs149 q hq) (Below.size bX196)
  replace o152 := ownL.keep o152 (fun q hq => Below.block bX196 q (hs154 q hq))
  replace hs154 := fun q hq => Nat.lt_of_lt_of_le (hs154 q hq) (Below.size bX196)
  replace o157 := ownL.keep o157 (fun q hq => Below.block bX196 q (hs159 q hq))
  replace hs159 := fun q hq => Nat.lt_of_lt_of_le (hs159 q hq) (Below.size bX196)
  replace bx91 := Box.below bx91 bX196
  have z199 := Below.size bX196
  replace zb0 : w.heap.size ≤ X194.heap.size := by omega
  replace za0 : w29.heap.size ≤ X194.heap.size := by omega
  have bx200 : Box X194 (w133.heap.size) [(Value.slice a174 m175 c176), (Value.slice a177 m178 c179), (Value.slice a180 m181 c182), (Value.slice a183 m184 c185), (Value.slice a186 m187 c188)] := by rw [← hX195]; exact Box.alloc _ _ _
  have k201 : X194.cell? ⟨w29.heap.size, 0, none⟩ = some ((Value.slice a69 m70 c71)) := bx91.2 0 (by simp)
  have k202 : X194.cell? ⟨w29.heap.size, 1, none⟩ = some ((Value.slice a72 m73 c74)) := bx91.2 1 (by simp)
  have k203 : X194.cell? ⟨w29.heap.size, 2, none⟩ = some ((Value.slice a75 m76 c77)) := bx91.2 2 (by simp)
  have k204 : X194.cell? ⟨w29.heap.size, 3, none⟩ = some ((Value.slice a78 m79 c80)) := bx91.2 3 (by simp)
  have k205 : X194.cell? ⟨w29.heap.size, 4, none⟩ = some ((Value.slice a81 m82 c83)) := bx91.2 4 (by simp)
  have k206 : X194.cell? ⟨w133.heap.size, 0, none⟩ = some ((Value.slice a174 m175 c176)) := bx200.2 0 (by simp)
  have k207 : X194.cell? ⟨w133.heap.size, 1, none⟩ = some ((Value.slice a177 m178 c179)) := bx200.2 1 (by simp)
  have k208 : X194.cell? ⟨w133.heap.size, 2, none⟩ = some ((Value.slice a180 m181 c182)) := bx200.2 2 (by simp)
  have k209 : X194.cell? ⟨w133.heap.size, 3, none⟩ = some ((Value.slice a183 m184 c185)) := bx200.2 3 (by simp)
  have k210 : X194.cell? ⟨w133.heap.size, 4, none⟩ = some ((Value.slice a186 m187 c188)) := bx200.2 4 (by simp)
  go_wp2_with fail
  clear k189 k190 k191 k192 k193 k201 k202 k203 k204 k205 k206 k207 k208 k209 k210 hX195
  refine (eqWorld_o _ _ _ _ _ _ _ _ _ _ _ _ (ownL.rds o137) (ownL.rds o142) (ownL.rds o147) (ownL.rds o152) (ownL.rds o157) (rdsL.below o33 s198) (rdsL.below o38 s198) (rdsL.below o43 s198) (rdsL.below o48 s198) (rdsL.below o53 s198)).mono ?_
  rintro e w211 ⟨rfl, b212⟩
  have t213 := Below.trans t197 (Below.mono b212 zb0)
  have s214 := Below.trans s198 (Below.mono b212 za0)
  replace o101 := ownL.keep o101 (fun q hq => Below.block b212 q (hs103 q hq))
  replace hs103 := fun q hq => Nat.lt_of_lt_of_le (hs103 q hq) (Below.size b212)
  replace o119 := ownL.keep o119 (fun q hq => Below.block b212 q (hs121 q hq))
  replace hs121 := fun q hq => Nat.lt_of_lt_of_le (hs121 q hq) (Below.size b212)
  replace o137 := ownL.keep o137 (fun q hq => Below.block b212 q (hs139 q hq))
  replace hs139 := fun q hq => Nat.lt_of_lt_of_le (hs139 q hq) (Below.size b212)
  replace o142 := ownL.keep o142 (fun q hq => Below.block b212 q (hs144 q hq))
  replace hs144 := fun q hq => Nat.lt_of_lt_of_le (hs144 q hq) (Below.size b212)
  replace o147 := ownL.keep o147 (fun q hq => Below.block b212 q (hs149 q hq))
  replace hs149 := fun q hq => Nat.lt_of_lt_of_le (hs149 q hq) (Below.size b212)
  replace o152 := ownL.keep o152 (fun q hq => Below.block b212 q (hs154 q hq))
  replace hs154 := fun q hq => Nat.lt_of_lt_of_le (hs154 q hq) (Below.size b212)
  replace o157 := ownL.keep o157 (fun q hq => Below.block b212 q (hs159 q hq))
  replace hs159 := fun q hq => Nat.lt_of_lt_of_le (hs159 q hq) (Below.size b212)
  replace bx91 := Box.below bx91 b212
  replace bx200 := Box.below bx200 b212
  have z215 := Below.size b212
  replace zb0 : w.heap.size ≤ w211.heap.size := by omega
  replace za0 : w29.heap.size ≤ w211.heap.size := by omega
  have k216 : w211.cell? ⟨w29.heap.size, 0, none⟩ = some ((Value.slice a69 m70 c71)) := bx91.2 0 (by simp)
  have k217 : w211.cell? ⟨w29.heap.size, 1, none⟩ = some ((Value.slice a72 m73 c74)) := bx91.2 1 (by simp)
  have k218 : w211.cell? ⟨w29.heap.size, 2, none⟩ = some ((Value.slice a75 m76 c77)) := bx91.2 2 (by simp)
  have k219 : w211.cell? ⟨w29.heap.size, 3, none⟩ = some ((Value.slice a78 m79 c80)) := bx91.2 3 (by simp)
  have k220 : w211.cell? ⟨w29.heap.size, 4, none⟩ = some ((Value.slice a81 m82 c83)) := bx91.2 4 (by simp)
  have k221 : w211.cell? ⟨w133.heap.size, 0, none⟩ = some ((Value.slice a174 m175 c176)) := bx200.2 0 (by simp)
  have k222 : w211.cell? ⟨w133.heap.size, 1, none⟩ = some ((Value.slice a177 m178 c179)) := bx200.2 1 (by simp)
  have k223 : w211.cell? ⟨w133.heap.size, 2, none⟩ = some ((Value.slice a180 m181 c182)) := bx200.2 2 (by simp)
  have k224 : w211.cell? ⟨w133.heap.size, 3, none⟩ = some ((Value.slice a183 m184 c185)) := bx200.2 3 (by simp)
  have k225 : w211.cell? ⟨w133.heap.size, 4, none⟩ = some ((Value.slice a186 m187 c188)) := bx200.2 4 (by simp)
  go_wp2_with fail
  clear k216 k217 k218 k219 k220 k221 k222 k223 k224 k225
  refine (toIntS_o d_aValues (Value.slice a_aValues0 d_aValues.length c_aValues0) _ (rdsL.below h_aValues0 t213) hb_aValues).mono ?_
  rintro e w226 ⟨u228, S229, rfl, o230, r231, b227⟩
  have t233 := Below.trans t213 (Below.mono b227 zb0)
  have s234 := Below.trans s214 (Below.mono b227 za0)
  replace o101 := ownL.keep o101 (fun q hq => Below.block b227 q (hs103 q hq))
  replace hs103 := fun q hq => Nat.lt_of_lt_of_le (hs103 q hq) (Below.size b227)
  replace o119 := ownL.keep o119 (fun q hq => Below.block b227 q (hs121 q hq))
  replace hs121 := fun q hq => Nat.lt_of_lt_of_le (hs121 q hq) (Below.size b227)
  replace o137 := ownL.keep o137 (fun q hq => Below.block b227 q (hs139 q hq))
  replace hs139 := fun q hq => Nat.lt_of_lt_of_le (hs139 q hq) (Below.size b227)
  replace o142 := ownL.keep o142 (fun q hq => Below.block b227 q (hs144 q hq))
  replace hs144 := fun q hq => Nat.lt_of_lt_of_le (hs144 q hq) (Below.size b227)
  replace o147 := ownL.keep o147 (fun q hq => Below.block b227 q (hs149 q hq))
  replace hs149 := fun q hq => Nat.lt_of_lt_of_le (hs149 q hq) (Below.size b227)
  replace o152 := ownL.keep o152 (fun q hq => Below.block b227 q (hs154 q hq))
  replace hs154 := fun q hq => Nat.lt_of_lt_of_le (hs154 q hq) (Below.size b227)
  replace o157 := ownL.keep o157 (fun q hq => Below.block b227 q (hs159 q hq))
  replace hs159 := fun q hq => Nat.lt_of_lt_of_le (hs159 q hq) (Below.size b227)
  replace bx91 := Box.below bx91 b227
  replace bx200 := Box.below bx200 b227
  have z235 := Below.size b227
  replace zb0 : w.heap.size ≤ w226.heap.size := by omega
  replace za0 : w29.heap.size ≤ w226.heap.size := by omega
  obtain ⟨a236, m237, c238, rfl⟩ := ownL_shape o230
  have hs232 := fun q hq => (r231 q hq).2
  have k239 : w226.cell? ⟨w29.heap.size, 0, none⟩ = some ((Value.slice a69 m70 c71)) := bx91.2 0 (by simp)
  have k240 : w226.cell? ⟨w29.heap.size, 1, none⟩ = some ((Value.slice a72 m73 c74)) := bx91.2 1 (by simp)
  have k241 : w226.cell? ⟨w29.heap.size, 2, none⟩ = some ((Value.slice a75 m76 c77)) := bx91.2 2 (by simp)
  have k242 : w226.cell? ⟨w29.heap.size, 3, none⟩ = some ((Value.slice a78 m79 c80)) := bx91.2 3 (by simp)
  have k243 : w226.cell? ⟨w29.heap.size, 4, none⟩ = some ((Value.slice a81 m82 c83)) := bx91.2 4 (by simp)
  have k244 : w226.cell? ⟨w133.heap.size, 0, none⟩ = some ((Value.slice a174 m175 c176)) := bx200.2 0 (by simp)
  have k245 : w226.cell? ⟨w133.heap.size, 1, none⟩ = some ((Value.slice a177 m178 c179)) := bx200.2 1 (by simp)
  have k246 : w226.cell? ⟨w133.heap.size, 2, none⟩ = some ((Value.slice a180 m181 c182)) := bx200.2 2 (by simp)
  have k247 : w226.cell? ⟨w133.heap.size, 3, none⟩ = some ((Value.slice a183 m184 c185)) := bx200.2 3 (by simp)
  have k248 : w226.cell? ⟨w133.heap.size, 4, none⟩ = some ((Value.slice a186 m187 c188)) := bx200.2 4 (by simp)
  go_wp2_with fail
  clear k239 k240 k241 k242 k243 k244 k245 k246 k247 k248
  refine (eqIntS_o _ _ _ _ (ownL.rds o101) (ownL.rds o230)).mono ?_
  rintro e w249 ⟨rfl, b250⟩
  have t251 := Below.trans t233 (Below.mono b250 zb0)
  have s252 := Below.trans s234 (Below.mono b250 za0)
  replace o101 := ownL.keep o101 (fun q hq => Below.block b250 q (hs103 q hq))
  replace hs103 := fun q hq => Nat.lt_of_lt_of_le (hs103 q hq) (Below.size b250)
  replace o119 := ownL.keep o119 (fun q hq => Below.block b250 q (hs121 q hq))
  replace hs121 := fun q hq => Nat.lt_of_lt_of_le (hs121 q hq) (Below.size b250)
  replace o137 := ownL.keep o137 (fun q hq => Below.block b250 q (hs139 q hq))
  replace hs139 := fun q hq => Nat.lt_of_lt_of_le (hs139 q hq) (Below.size b250)
  replace o142 := ownL.keep o142 (fun q hq => Below.block b250 q (hs144 q hq))
  replace hs144 := fun q hq => Nat.lt_of_lt_of_le (hs144 q hq) (Below.size b250)
  replace o147 := ownL.keep o147 (fun q hq => Below.block b250 q (hs149 q hq))
  replace hs149 := fun q hq => Nat.lt_of_lt_of_le (hs149 q hq) (Below.size b250)
  replace o152 := ownL.keep o152 (fun q hq => Below.block b250 q (hs154 q hq))
  replace hs154 := fun q hq => Nat.lt_of_lt_of_le (hs154 q hq) (Below.size b250)
  replace o157 := ownL.keep o157 (fun q hq => Below.block b250 q (hs159 q hq))
  replace hs159 := fun q hq => Nat.lt_of_lt_of_le (hs159 q hq) (Below.size b250)
  replace bx91 := Box.below bx91 b250
  replace bx200 := Box.below bx200 b250
  have z253 := Below.size b250
  replace zb0 : w.heap.size ≤ w249.heap.size := by omega
  replace za0 : w29.heap.size ≤ w249.heap.size := by omega
  have k254 : w249.cell? ⟨w29.heap.size, 0, none⟩ = some ((Value.slice a69 m70 c71)) := bx91.2 0 (by simp)
  have k255 : w249.cell? ⟨w29.heap.size, 1, none⟩ = some ((Value.slice a72 m73 c74)) := bx91.2 1 (by simp)
  have k256 : w249.cell? ⟨w29.heap.size, 2, none⟩ = some ((Value.slice a75 m76 c77)) := bx91.2 2 (by simp)
  have k257 : w249.cell? ⟨w29.heap.size, 3, none⟩ = some ((Value.slice a78 m79 c80)) := bx91.2 3 (by simp)
  have k258 : w249.cell? ⟨w29.heap.size, 4, none⟩ = some ((Value.slice a81 m82 c83)) := bx91.2 4 (by simp)
  have k259 : w249.cell? ⟨w133.heap.size, 0, none⟩ = some ((Value.slice a174 m175 c176)) := bx200.2 0 (by simp)
  have k260 : w249.cell? ⟨w133.heap.size, 1, none⟩ = some ((Value.slice a177 m178 c179)) := bx200.2 1 (by simp)
  have k261 : w249.cell? ⟨w133.heap.size, 2, none⟩ = some ((Value.slice a180 m181 c182)) := bx200.2 2 (by simp)
  have k262 : w249.cell? ⟨w133.heap.size, 3, none⟩ = some ((Value.slice a183 m184 c185)) := bx200.2 3 (by simp)
  have k263 : w249.cell? ⟨w133.heap.size, 4, none⟩ = some ((Value.slice a186 m187 c188)) := bx200.2 4 (by simp)
  go_wp2_with fail
  clear k254 k255 k256 k257 k258 k259 k260 k261 k262 k263
  refine (toInstrSS_o d_aProgs (Value.slice a_aProgs0 d_aProgs.length c_aProgs0) _ (rdsL.below h_aProgs0 t251) hb_aProgs).mono ?_
  rintro e w264 ⟨u266, S267, rfl, o268, r269, b265⟩
  have t271 := Below.trans t251 (Below.mono b265 zb0)
  have s272 := Below.trans s252 (Below.mono b265 za0)
  replace o101 := ownL.keep o101 (fun q hq => Below.block b265 q (hs103 q hq))
  replace hs103 := fun q hq => Nat.lt_of_lt_of_le (hs103 q hq) (Below.size b265)
  replace o119 := ownL.keep o119 (fun q hq => Below.block b265 q (hs121 q hq))
  replace hs121 := fun q hq => Nat.lt_of_lt_of_le (hs121 q hq) (Below.size b265)
  replace o137 := ownL.keep o137 (fun q hq => Below.block b265 q (hs139 q hq))
  replace hs139 := fun q hq => Nat.lt_of_lt_of_le (hs139 q hq) (Below.size b265)
  replace o142 := ownL.keep o142 (fun q hq => Below.block b265 q (hs144 q hq))
  replace hs144 := fun q hq => Nat.lt_of_lt_of_le (hs144 q hq) (Below.size b265)
  replace o147 := ownL.keep o147 (fun q hq => Below.block b265 q (hs149 q hq))
  replace hs149 := fun q hq => Nat.lt_of_lt_of_le (hs149 q hq) (Below.size b265)
  replace o152 := ownL.keep o152 (fun q hq => Below.block b265 q (hs154 q hq))
  replace hs154 := fun q hq => Nat.lt_of_lt_of_le (hs154 q hq) (Below.size b265)
  replace o157 := ownL.keep o157 (fun q hq => Below.block b265 q (hs159 q hq))
  replace hs159 := fun q hq => Nat.lt_of_lt_of_le (hs159 q hq) (Below.size b265)
  replace bx91 := Box.below bx91 b265
  replace bx200 := Box.below bx200 b265
  have z273 := Below.size b265
  replace zb0 : w.heap.size ≤ w264.heap.size := by omega
  replace za0 : w29.heap.size ≤ w264.heap.size := by omega
  obtain ⟨a274, m275, c276, rfl⟩ := ownL_shape o268
  have hs270 := fun q hq => (r269 q hq).2
  have k277 : w264.cell? ⟨w29.heap.size, 0, none⟩ = some ((Value.slice a69 m70 c71)) := bx91.2 0 (by simp)
  have k278 : w264.cell? ⟨w29.heap.size, 1, none⟩ = some ((Value.slice a72 m73 c74)) := bx91.2 1 (by simp)
  have k279 : w264.cell? ⟨w29.heap.size, 2, none⟩ = some ((Value.slice a75 m76 c77)) := bx91.2 2 (by simp)
  have k280 : w264.cell? ⟨w29.heap.size, 3, none⟩ = some ((Value.slice a78 m79 c80)) := bx91.2 3 (by simp)
  have k281 : w264.cell? ⟨w29.heap.size, 4, none⟩ = some ((Value.slice a81 m82 c83)) := bx91.2 4 (by simp)
  have k282 : w264.cell? ⟨w133.heap.size, 0, none⟩ = some ((Value.slice a174 m175 c176)) := bx200.2 0 (by simp)
  have k283 : w264.cell? ⟨w133.heap.size, 1, none⟩ = some ((Value.slice a177 m178 c179)) := bx200.2 1 (by simp)
  have k284 : w264.cell? ⟨w133.heap.size, 2, none⟩ = some ((Value.slice a180 m181 c182)) := bx200.2 2 (by simp)
  have k285 : w264.cell? ⟨w133.heap.size, 3, none⟩ = some ((Value.slice a183 m184 c185)) := bx200.2 3 (by simp)
  have k286 : w264.cell? ⟨w133.heap.size, 4, none⟩ = some ((Value.slice a186 m187 c188)) := bx200.2 4 (by simp)
  go_wp2_with fail
  clear k277 k278 k279 k280 k281 k282 k283 k284 k285 k286
  refine (eqInstrSS_o _ _ _ _ (ownL.rds o119) (ownL.rds o268)).mono ?_
  rintro e w287 ⟨rfl, b288⟩
  have t289 := Below.trans t271 (Below.mono b288 zb0)
  have s290 := Below.trans s272 (Below.mono b288 za0)
  replace o101 := ownL.keep o101 (fun q hq => Below.block b288 q (hs103 q hq))
  replace hs103 := fun q hq => Nat.lt_of_lt_of_le (hs103 q hq) (Below.size b288)
  replace o119 := ownL.keep o119 (fun q hq => Below.block b288 q (hs121 q hq))
  replace hs121 := fun q hq => Nat.lt_of_lt_of_le (hs121 q hq) (Below.size b288)
  replace o137 := ownL.keep o137 (fun q hq => Below.block b288 q (hs139 q hq))
  replace hs139 := fun q hq => Nat.lt_of_lt_of_le (hs139 q hq) (Below.size b288)
  replace o142 := ownL.keep o142 (fun q hq => Below.block b288 q (hs144 q hq))
  replace hs144 := fun q hq => Nat.lt_of_lt_of_le (hs144 q hq) (Below.size b288)
  replace o147 := ownL.keep o147 (fun q hq => Below.block b288 q (hs149 q hq))
  replace hs149 := fun q hq => Nat.lt_of_lt_of_le (hs149 q hq) (Below.size b288)
  replace o152 := ownL.keep o152 (fun q hq => Below.block b288 q (hs154 q hq))
  replace hs154 := fun q hq => Nat.lt_of_lt_of_le (hs154 q hq) (Below.size b288)
  replace o157 := ownL.keep o157 (fun q hq => Below.block b288 q (hs159 q hq))
  replace hs159 := fun q hq => Nat.lt_of_lt_of_le (hs159 q hq) (Below.size b288)
  replace bx91 := Box.below bx91 b288
  replace bx200 := Box.below bx200 b288
  have z291 := Below.size b288
  replace zb0 : w.heap.size ≤ w287.heap.size := by omega
  replace za0 : w29.heap.size ≤ w287.heap.size := by omega
  have k292 : w287.cell? ⟨w29.heap.size, 0, none⟩ = some ((Value.slice a69 m70 c71)) := bx91.2 0 (by simp)
  have k293 : w287.cell? ⟨w29.heap.size, 1, none⟩ = some ((Value.slice a72 m73 c74)) := bx91.2 1 (by simp)
  have k294 : w287.cell? ⟨w29.heap.size, 2, none⟩ = some ((Value.slice a75 m76 c77)) := bx91.2 2 (by simp)
  have k295 : w287.cell? ⟨w29.heap.size, 3, none⟩ = some ((Value.slice a78 m79 c80)) := bx91.2 3 (by simp)
  have k296 : w287.cell? ⟨w29.heap.size, 4, none⟩ = some ((Value.slice a81 m82 c83)) := bx91.2 4 (by simp)
  have k297 : w287.cell? ⟨w133.heap.size, 0, none⟩ = some ((Value.slice a174 m175 c176)) := bx200.2 0 (by simp)
  have k298 : w287.cell? ⟨w133.heap.size, 1, none⟩ = some ((Value.slice a177 m178 c179)) := bx200.2 1 (by simp)
  have k299 : w287.cell? ⟨w133.heap.size, 2, none⟩ = some ((Value.slice a180 m181 c182)) := bx200.2 2 (by simp)
  have k300 : w287.cell? ⟨w133.heap.size, 3, none⟩ = some ((Value.slice a183 m184 c185)) := bx200.2 3 (by simp)
  have k301 : w287.cell? ⟨w133.heap.size, 4, none⟩ = some ((Value.slice a186 m187 c188)) := bx200.2 4 (by simp)
  go_wp2_with fail
  clear k292 k293 k294 k295 k296 k297 k298 k299 k300 k301
  have le305 := cntIntS_le hb_aValues
  refine (markIntS_o S100 _ _ _ _ hs103  hb_aValues (by omega) (by omega) o101).mono ?_
  rintro e w302 ⟨rfl, o304, C303⟩
  have t306 := below_chg t289 C303 zb0 (by intro q hx; have y := r102 q hx; have y1 := y.1; have y2 := y.2; omega)
  have s307 := below_chg s290 C303 za0 (by intro q hx; have y := r102 q hx; have y1 := y.1; have y2 := y.2; omega)
  replace hs103 := fun q hq => Nat.lt_of_lt_of_le (hs103 q hq) (ChgS.size C303)
  replace o119 := ownL.keep o119 (fun q hq => ChgS.block C303 q (hs121 q hq) (by intro hx; have x0 := r120 q hq; have x1 := x0.1; have x2 := x0.2; have y := r102 q hx; have y1 := y.1; have y2 := y.2; omega))
  replace hs121 := fun q hq => Nat.lt_of_lt_of_le (hs121 q hq) (ChgS.size C303)
  replace o137 := ownL.keep o137 (fun q hq => ChgS.block C303 q (hs139 q hq) (by intro hx; have x0 := r138 q hq; have x1 := x0.1; have x2 := x0.2; have y := r102 q hx; have y1 := y.1; have y2 := y.2; omega))
  replace hs139 := fun q hq => Nat.lt_of_lt_of_le (hs139 q hq) (ChgS.size C303)
  replace o142 := ownL.keep o142 (fun q hq => ChgS.block C303 q (hs144 q hq) (by intro hx; have x0 := r143 q hq; have x1 := x0.1; have x2 := x0.2; have y := r102 q hx; have y1 := y.1; have y2 := y.2; omega))
  replace hs144 := fun q hq => Nat.lt_of_lt_of_le (hs144 q hq) (ChgS.size C303)
  replace o147 := ownL.keep o147 (fun q hq => ChgS.block C303 q (hs149 q hq) (by intro hx; have x0 := r148 q hq; have x1 := x0.1; have x2 := x0.2; have y := r102 q hx; have y1 := y.1; have y2 := y.2; omega))
  replace hs149 := fun q hq => Nat.lt_of_lt_of_le (hs149 q hq) (ChgS.size C303)
  replace o152 := ownL.keep o152 (fun q hq => ChgS.block C303 q (hs154 q hq) (by intro hx; have x0 := r153 q hq; have x1 := x0.1; have x2 := x0.2; have y := r102 q hx; have y1 := y.1; have y2 := y.2; omega))
  replace hs154 := fun q hq => Nat.lt_of_lt_of_le (hs154 q hq) (ChgS.size C303)
  replace o157 := ownL.keep o157 (fun q hq => ChgS.block C303 q (hs159 q hq) (by intro hx; have x0 := r158 q hq; have x1 := x0.1; have x2 := x0.2; have y := r102 q hx; have y1 := y.1; have y2 := y.2; omega))
  replace hs159 := fun q hq => Nat.lt_of_lt_of_le (hs159 q hq) (ChgS.size C303)
  replace bx91 := Box.chg bx91 C303 (by intro hx; have y := r102 _ hx; have y1 := y.1; have y2 := y.2; omega)
  replace bx200 := Box.chg bx200 C303 (by intro hx; have y := r102 _ hx; have y1 := y.1; have y2 := y.2; omega)
  have z308 := ChgS.size C303
  replace zb0 : w.heap.size ≤ w302.heap.size := by omega
  replace za0 : w29.heap.size ≤ w302.heap.size := by omega
  have k309 : w302.cell? ⟨w29.heap.size, 0, none⟩ = some ((Value.slice a69 m70 c71)) := bx91.2 0 (by simp)
  have k310 : w302.cell? ⟨w29.heap.size, 1, none⟩ = some ((Value.slice a72 m73 c74)) := bx91.2 1 (by simp)
  have k311 : w302.cell? ⟨w29.heap.size, 2, none⟩ = some ((Value.slice a75 m76 c77)) := bx91.2 2 (by simp)
  have k312 : w302.cell? ⟨w29.heap.size, 3, none⟩ = some ((Value.slice a78 m79 c80)) := bx91.2 3 (by simp)
  have k313 : w302.cell? ⟨w29.heap.size, 4, none⟩ = some ((Value.slice a81 m82 c83)) := bx91.2 4 (by simp)
  have k314 : w302.cell? ⟨w133.heap.size, 0, none⟩ = some ((Value.slice a174 m175 c176)) := bx200.2 0 (by simp)
  have k315 : w302.cell? ⟨w133.heap.size, 1, none⟩ = some ((Value.slice a177 m178 c179)) := bx200.2 1 (by simp)
  have k316 : w302.cell? ⟨w133.heap.size, 2, none⟩ = some ((Value.slice a180 m181 c182)) := bx200.2 2 (by simp)
  have k317 : w302.cell? ⟨w133.heap.size, 3, none⟩ = some ((Value.slice a183 m184 c185)) := bx200.2 3 (by simp)
  have k318 : w302.cell? ⟨w133.heap.size, 4, none⟩ = some ((Value.slice a186 m187 c188)) := bx200.2 4 (by simp)
  go_wp2_with fail
  clear k309 k310 k311 k312 k313 k314 k315 k316 k317 k318
  have le322 := cntInstrSS_le hb_aProgs
  refine (markInstrSS_o S118 _ _ _ _ hs121  hb_aProgs (by omega) (by omega) o119).mono ?_
  rintro e w319 ⟨rfl, o321, C320⟩
  have t323 := below_chg t306 C320 zb0 (by intro q hx; have y := r120 q hx; have y1 := y.1; have y2 := y.2; omega)
  have s324 := below_chg s307 C320 za0 (by intro q hx; have y := r120 q hx; have y1 := y.1; have y2 := y.2; omega)
  replace o304 := ownL.keep o304 (fun q hq => ChgS.block C320 q (hs103 q hq) (by intro hx; have x0 := r102 q hq; have x1 := x0.1; have x2 := x0.2; have y := r120 q hx; have y1 := y.1; have y2 := y.2; omega))
  replace hs103 := fun q hq => Nat.lt_of_lt_of_le (hs103 q hq) (ChgS.size C320)
  replace hs121 := fun q hq => Nat.lt_of_lt_of_le (hs121 q hq) (ChgS.size C320)
  replace o137 := ownL.keep o137 (fun q hq => ChgS.block C320 q (hs139 q hq) (by intro hx; have x0 := r138 q hq; have x1 := x0.1; have x2 := x0.2; have y := r120 q hx; have y1 := y.1; have y2 := y.2; omega))
  replace hs139 := fun q hq => Nat.lt_of_lt_of_le (hs139 q hq) (ChgS.size C320)
  replace o142 := ownL.keep o142 (fun q hq => ChgS.block C320 q (hs144 q hq) (by intro hx; have x0 := r143 q hq; have x1 := x0.1; have x2 := x0.2; have y := r120 q hx; have y1 := y.1; have y2 := y.2; omega))
  replace hs144 := fun q hq => Nat.lt_of_lt_of_le (hs144 q hq) (ChgS.size C320)
  replace o147 := ownL.keep o147 (fun q hq => ChgS.block C320 q (hs149 q hq) (by intro hx; have x0 := r148 q hq; have x1 := x0.1; have x2 := x0.2; have y := r120 q hx; have y1 := y.1; have y2 := y.2; omega))
  replace hs149 := fun q hq => Nat.lt_of_lt_of_le (hs149 q hq) (ChgS.size C320)
  replace o152 := ownL.keep o152 (fun q hq => ChgS.block C320 q (hs154 q hq) (by intro hx; have x0 := r153 q hq; have x1 := x0.1; have x2 := x0.2; have y := r120 q hx; have y1 := y.1; have y2 := y.2; omega))
  replace hs154 := fun q hq => Nat.lt_of_lt_of_le (hs154 q hq) (ChgS.size C320)
  replace o157 := ownL.keep o157 (fun q hq => ChgS.block C320 q (hs159 q hq) (by intro hx; have x0 := r158 q hq; have x1 := x0.1; have x2 := x0.2; have y := r120 q hx; have y1 := y.1; have y2 := y.2; omega))
  replace hs159 := fun q hq => Nat.lt_of_lt_of_le (hs159 q hq) (ChgS.size C320)
  replace bx91 := Box.chg bx91 C320 (by intro hx; have y := r120 _ hx; have y1 := y.1; have y2 := y.2; omega)
  replace bx200 := Box.chg bx200 C320 (by intro hx; have y := r120 _ hx; have y1 := y.1; have y2 := y.2; omega)
  have z325 := ChgS.size C320
  replace zb0 : w.heap.size ≤ w319.heap.size := by omega
  replace za0 : w29.heap.size ≤ w319.heap.size := by omega
  have k326 : w319.cell? ⟨w29.heap.size, 0, none⟩ = some ((Value.slice a69 m70 c71)) := bx91.2 0 (by simp)
  have k327 : w319.cell? ⟨w29.heap.size, 1, none⟩ = some ((Value.slice a72 m73 c74)) := bx91.2 1 (by simp)
  have k328 : w319.cell? ⟨w29.heap.size, 2, none⟩ = some ((Value.slice a75 m76 c77)) := bx91.2 2 (by simp)
  have k329 : w319.cell? ⟨w29.heap.size, 3, none⟩ = some ((Value.slice a78 m79 c80)) := bx91.2 3 (by simp)
  have k330 : w319.cell? ⟨w29.heap.size, 4, none⟩ = some ((Value.slice a81 m82 c83)) := bx91.2 4 (by simp)
  have k331 : w319.cell? ⟨w133.heap.size, 0, none⟩ = some ((Value.slice a174 m175 c176)) := bx200.2 0 (by simp)
  have k332 : w319.cell? ⟨w133.heap.size, 1, none⟩ = some ((Value.slice a177 m178 c179)) := bx200.2 1 (by simp)
  have k333 : w319.cell? ⟨w133.heap.size, 2, none⟩ = some ((Value.slice a180 m181 c182)) := bx200.2 2 (by simp)
  have k334 : w319.cell? ⟨w133.heap.size, 3, none⟩ = some ((Value.slice a183 m184 c185)) := bx200.2 3 (by simp)
  have k335 : w319.cell? ⟨w133.heap.size, 4, none⟩ = some ((Value.slice a186 m187 c188)) := bx200.2 4 (by simp)
  go_wp2_with fail
  clear k326 k327 k328 k329 k330 k331 k332 k333 k334 k335
  refine (eqWorld_o _ _ _ _ _ _ _ _ _ _ _ _ (ownL.rds o137) (ownL.rds o142) (ownL.rds o147) (ownL.rds o152) (ownL.rds o157) (rdsL.below o33 s324) (rdsL.below o38 s324) (rdsL.below o43 s324) (rdsL.below o48 s324) (rdsL.below o53 s324)).mono ?_
  rintro e w336 ⟨rfl, b337⟩
  have t338 := Below.trans t323 (Below.mono b337 zb0)
  have s339 := Below.trans s324 (Below.mono b337 za0)
  replace o304 := ownL.keep o304 (fun q hq => Below.block b337 q (hs103 q hq))
  replace hs103 := fun q hq => Nat.lt_of_lt_of_le (hs103 q hq) (Below.size b337)
  replace o321 := ownL.keep o321 (fun q hq => Below.block b337 q (hs121 q hq))
  replace hs121 := fun q hq => Nat.lt_of_lt_of_le (hs121 q hq) (Below.size b337)
  replace o137 := ownL.keep o137 (fun q hq => Below.block b337 q (hs139 q hq))
  replace hs139 := fun q hq => Nat.lt_of_lt_of_le (hs139 q hq) (Below.size b337)
  replace o142 := ownL.keep o142 (fun q hq => Below.block b337 q (hs144 q hq))
  replace hs144 := fun q hq => Nat.lt_of_lt_of_le (hs144 q hq) (Below.size b337)
  replace o147 := ownL.keep o147 (fun q hq => Below.block b337 q (hs149 q hq))
  replace hs149 := fun q hq => Nat.lt_of_lt_of_le (hs149 q hq) (Below.size b337)
  replace o152 := ownL.keep o152 (fun q hq => Below.block b337 q (hs154 q hq))
  replace hs154 := fun q hq => Nat.lt_of_lt_of_le (hs154 q hq) (Below.size b337)
  replace o157 := ownL.keep o157 (fun q hq => Below.block b337 q (hs159 q hq))
  replace hs159 := fun q hq => Nat.lt_of_lt_of_le (hs159 q hq) (Below.size b337)
  replace bx91 := Box.below bx91 b337
  replace bx200 := Box.below bx200 b337
  have z340 := Below.size b337
  replace zb0 : w.heap.size ≤ w336.heap.size := by omega
  replace za0 : w29.heap.size ≤ w336.heap.size := by omega
  have k341 : w336.cell? ⟨w29.heap.size, 0, none⟩ = some ((Value.slice a69 m70 c71)) := bx91.2 0 (by simp)
  have k342 : w336.cell? ⟨w29.heap.size, 1, none⟩ = some ((Value.slice a72 m73 c74)) := bx91.2 1 (by simp)
  have k343 : w336.cell? ⟨w29.heap.size, 2, none⟩ = some ((Value.slice a75 m76 c77)) := bx91.2 2 (by simp)
  have k344 : w336.cell? ⟨w29.heap.size, 3, none⟩ = some ((Value.slice a78 m79 c80)) := bx91.2 3 (by simp)
  have k345 : w336.cell? ⟨w29.heap.size, 4, none⟩ = some ((Value.slice a81 m82 c83)) := bx91.2 4 (by simp)
  have k346 : w336.cell? ⟨w133.heap.size, 0, none⟩ = some ((Value.slice a174 m175 c176)) := bx200.2 0 (by simp)
  have k347 : w336.cell? ⟨w133.heap.size, 1, none⟩ = some ((Value.slice a177 m178 c179)) := bx200.2 1 (by simp)
  have k348 : w336.cell? ⟨w133.heap.size, 2, none⟩ = some ((Value.slice a180 m181 c182)) := bx200.2 2 (by simp)
  have k349 : w336.cell? ⟨w133.heap.size, 3, none⟩ = some ((Value.slice a183 m184 c185)) := bx200.2 3 (by simp)
  have k350 : w336.cell? ⟨w133.heap.size, 4, none⟩ = some ((Value.slice a186 m187 c188)) := bx200.2 4 (by simp)
  go_wp2_with fail
  clear k341 k342 k343 k344 k345 k346 k347 k348 k349 k350
  have le358 := cntWorld_le hb160
  refine (markWorld_o S136 S141 S146 S151 S156 _ _ _ _ _ _ _ _ hs139 hs144 hs149 hs154 hs159 dj161 dj162 dj163 dj164 dj165 dj166 dj167 dj168 dj169 dj170 hb160 (by omega) (by omega) o137 o142 o147 o152 o157).mono ?_
  rintro e w351 ⟨rfl, o353, o354, o355, o356, o357, C352⟩
  have t359 := below_chg t338 C352 zb0 (by intro q hx; rcases hx with hx | hx | hx | hx | hx; (have y := r138 q hx; have y1 := y.1; have y2 := y.2; omega); (have y := r143 q hx; have y1 := y.1; have y2 := y.2; omega); (have y := r148 q hx; have y1 := y.1; have y2 := y.2; omega); (have y := r153 q hx; have y1 := y.1; have y2 := y.2; omega); (have y := r158 q hx; have y1 := y.1; have y2 := y.2; omega))
  have s360 := below_chg s339 C352 za0 (by intro q hx; rcases hx with hx | hx | hx | hx | hx; (have y := r138 q hx; have y1 := y.1; have y2 := y.2; omega); (have y := r143 q hx; have y1 := y.1; have y2 := y.2; omega); (have y := r148 q hx; have y1 := y.1; have y2 := y.2; omega); (have y := r153 q hx; have y1 := y.1; have y2 := y.2; omega); (have y := r158 q hx; have y1 := y.1; have y2 := y.2; omega))
  replace o304 := ownL.keep o304 (fun q hq => ChgS.block C352 q (hs103 q hq) (by intro hx; have x0 := r102 q hq; have x1 := x0.1; have x2 := x0.2; rcases hx with hx | hx | hx | hx | hx; (have y := r138 q hx; have y1 := y.1; have y2 := y.2; omega); (have y := r143 q hx; have y1 := y.1; have y2 := y.2; omega); (have y := r148 q hx; have y1 := y.1; have y2 := y.2; omega); (have y := r153 q hx; have y1 := y.1; have y2 := y.2; omega); (have y := r158 q hx; have y1 := y.1; have y2 := y.2; omega)))
  replace hs103 := fun q hq => Nat.lt_of_lt_of_le (hs103 q hq) (ChgS.size C352)
  replace o321 := ownL.keep o321 (fun q hq => ChgS.block C352 q (hs121 q hq) (by intro hx; have x0 := r120 q hq; have x1 := x0.1; have x2 := x0.2; rcases hx with hx | hx | hx | hx | hx; (have y := r138 q hx; have y1 := y.1; have y2 := y.2; omega); (have y := r143 q hx; have y1 := y.1; have y2 := y.2; omega); (have y := r148 q hx; have y1 := y.1; have y2 := y.2; omega); (have y := r153 q hx; have y1 := y.1; have y2 := y.2; omega); (have y := r158 q hx; have y1 := y.1; have y2 := y.2; omega)))
  replace hs121 := fun q hq => Nat.lt_of_lt_of_le (hs121 q hq) (ChgS.size C352)
  replace hs139 := fun q hq => Nat.lt_of_lt_of_le (hs139 q hq) (ChgS.size C352)
  replace hs144 := fun q hq => Nat.lt_of_lt_of_le (hs144 q hq) (ChgS.size C352)
  replace hs149 := fun q hq => Nat.lt_of_lt_of_le (hs149 q hq) (ChgS.size C352)
  replace hs154 := fun q hq => Nat.lt_of_lt_of_le (hs154 q hq) (ChgS.size C352)
  replace hs159 := fun q hq => Nat.lt_of_lt_of_le (hs159 q hq) (ChgS.size C352)
  replace bx91 := Box.chg bx91 C352 (by intro hx; rcases hx with hx | hx | hx | hx | hx; (have y := r138 _ hx; have y1 := y.1; have y2 := y.2; omega); (have y := r143 _ hx; have y1 := y.1; have y2 := y.2; omega); (have y := r148 _ hx; have y1 := y.1; have y2 := y.2; omega); (have y := r153 _ hx; have y1 := y.1; have y2 := y.2; omega); (have y := r158 _ hx; have y1 := y.1; have y2 := y.2; omega))
  replace bx200 := Box.chg bx200 C352 (by intro hx; rcases hx with hx | hx | hx | hx | hx; (have y := r138 _ hx; have y1 := y.1; have y2 := y.2; omega); (have y := r143 _ hx; have y1 := y.1; have y2 := y.2; omega); (have y := r148 _ hx; have y1 := y.1; have y2 := y.2; omega); (have y := r153 _ hx; have y1 := y.1; have y2 := y.2; omega); (have y := r158 _ hx; have y1 := y.1; have y2 := y.2; omega))
  have z361 := ChgS.size C352
  replace zb0 : w.heap.size ≤ w351.heap.size := by omega
  replace za0 : w29.heap.size ≤ w351.heap.size := by omega
  have k362 : w351.cell? ⟨w29.heap.size, 0, none⟩ = some ((Value.slice a69 m70 c71)) := bx91.2 0 (by simp)
  have k363 : w351.cell? ⟨w29.heap.size, 1, none⟩ = some ((Value.slice a72 m73 c74)) := bx91.2 1 (by simp)
  have k364 : w351.cell? ⟨w29.heap.size, 2, none⟩ = some ((Value.slice a75 m76 c77)) := bx91.2 2 (by simp)
  have k365 : w351.cell? ⟨w29.heap.size, 3, none⟩ = some ((Value.slice a78 m79 c80)) := bx91.2 3 (by simp)
  have k366 : w351.cell? ⟨w29.heap.size, 4, none⟩ = some ((Value.slice a81 m82 c83)) := bx91.2 4 (by simp)
  have k367 : w351.cell? ⟨w133.heap.size, 0, none⟩ = some ((Value.slice a174 m175 c176)) := bx200.2 0 (by simp)
  have k368 : w351.cell? ⟨w133.heap.size, 1, none⟩ = some ((Value.slice a177 m178 c179)) := bx200.2 1 (by simp)
  have k369 : w351.cell? ⟨w133.heap.size, 2, none⟩ = some ((Value.slice a180 m181 c182)) := bx200.2 2 (by simp)
  have k370 : w351.cell? ⟨w133.heap.size, 3, none⟩ = some ((Value.slice a183 m184 c185)) := bx200.2 3 (by simp)
  have k371 : w351.cell? ⟨w133.heap.size, 4, none⟩ = some ((Value.slice a186 m187 c188)) := bx200.2 4 (by simp)
  go_wp2_with fail
  clear k362 k363 k364 k365 k366 k367 k368 k369 k370 k371
  refine (heldWorld_o _ _ _ _ _ _ _ _ hb160 (by omega) (by omega) (ownL.rds o353) (ownL.rds o354) (ownL.rds o355) (ownL.rds o356) (ownL.rds o357)).mono ?_
  rintro e w372 ⟨rfl, b373⟩
  have t374 := Below.trans t359 (Below.mono b373 zb0)
  have s375 := Below.trans s360 (Below.mono b373 za0)
  replace o304 := ownL.keep o304 (fun q hq => Below.block b373 q (hs103 q hq))
  replace hs103 := fun q hq => Nat.lt_of_lt_of_le (hs103 q hq) (Below.size b373)
  replace o321 := ownL.keep o321 (fun q hq => Below.block b373 q (hs121 q hq))
  replace hs121 := fun q hq => Nat.lt_of_lt_of_le (hs121 q hq) (Below.size b373)
  replace o353 := ownL.keep o353 (fun q hq => Below.block b373 q (hs139 q hq))
  replace hs139 := fun q hq => Nat.lt_of_lt_of_le (hs139 q hq) (Below.size b373)
  replace o354 := ownL.keep o354 (fun q hq => Below.block b373 q (hs144 q hq))
  replace hs144 := fun q hq => Nat.lt_of_lt_of_le (hs144 q hq) (Below.size b373)
  replace o355 := ownL.keep o355 (fun q hq => Below.block b373 q (hs149 q hq))
  replace hs149 := fun q hq => Nat.lt_of_lt_of_le (hs149 q hq) (Below.size b373)
  replace o356 := ownL.keep o356 (fun q hq => Below.block b373 q (hs154 q hq))
  replace hs154 := fun q hq => Nat.lt_of_lt_of_le (hs154 q hq) (Below.size b373)
  replace o357 := ownL.keep o357 (fun q hq => Below.block b373 q (hs159 q hq))
  replace hs159 := fun q hq => Nat.lt_of_lt_of_le (hs159 q hq) (Below.size b373)
  replace bx91 := Box.below bx91 b373
  replace bx200 := Box.below bx200 b373
  have z376 := Below.size b373
  replace zb0 : w.heap.size ≤ w372.heap.size := by omega
  replace za0 : w29.heap.size ≤ w372.heap.size := by omega
  have k377 : w372.cell? ⟨w29.heap.size, 0, none⟩ = some ((Value.slice a69 m70 c71)) := bx91.2 0 (by simp)
  have k378 : w372.cell? ⟨w29.heap.size, 1, none⟩ = some ((Value.slice a72 m73 c74)) := bx91.2 1 (by simp)
  have k379 : w372.cell? ⟨w29.heap.size, 2, none⟩ = some ((Value.slice a75 m76 c77)) := bx91.2 2 (by simp)
  have k380 : w372.cell? ⟨w29.heap.size, 3, none⟩ = some ((Value.slice a78 m79 c80)) := bx91.2 3 (by simp)
  have k381 : w372.cell? ⟨w29.heap.size, 4, none⟩ = some ((Value.slice a81 m82 c83)) := bx91.2 4 (by simp)
  have k382 : w372.cell? ⟨w133.heap.size, 0, none⟩ = some ((Value.slice a174 m175 c176)) := bx200.2 0 (by simp)
  have k383 : w372.cell? ⟨w133.heap.size, 1, none⟩ = some ((Value.slice a177 m178 c179)) := bx200.2 1 (by simp)
  have k384 : w372.cell? ⟨w133.heap.size, 2, none⟩ = some ((Value.slice a180 m181 c182)) := bx200.2 2 (by simp)
  have k385 : w372.cell? ⟨w133.heap.size, 3, none⟩ = some ((Value.slice a183 m184 c185)) := bx200.2 3 (by simp)
  have k386 : w372.cell? ⟨w133.heap.size, 4, none⟩ = some ((Value.slice a186 m187 c188)) := bx200.2 4 (by simp)
  go_wp2_with fail
  clear k377 k378 k379 k380 k381 k382 k383 k384 k385 k386
  refine (toIntS_o d_aValues (Value.slice a_aValues0 d_aValues.length c_aValues0) _ (rdsL.below h_aValues0 t374) hb_aValues).mono ?_
  rintro e w387 ⟨u389, S390, rfl, o391, r392, b388⟩
  have t394 := Below.trans t374 (Below.mono b388 zb0)
  have s395 := Below.trans s375 (Below.mono b388 za0)
  replace o304 := ownL.keep o304 (fun q hq => Below.block b388 q (hs103 q hq))
  replace hs103 := fun q hq => Nat.lt_of_lt_of_le (hs103 q hq) (Below.size b388)
  replace o321 := ownL.keep o321 (fun q hq => Below.block b388 q (hs121 q hq))
  replace hs121 := fun q hq => Nat.lt_of_lt_of_le (hs121 q hq) (Below.size b388)
  replace o353 := ownL.keep o353 (fun q hq => Below.block b388 q (hs139 q hq))
  replace hs139 := fun q hq => Nat.lt_of_lt_of_le (hs139 q hq) (Below.size b388)
  replace o354 := ownL.keep o354 (fun q hq => Below.block b388 q (hs144 q hq))
  replace hs144 := fun q hq => Nat.lt_of_lt_of_le (hs144 q hq) (Below.size b388)
  replace o355 := ownL.keep o355 (fun q hq => Below.block b388 q (hs149 q hq))
  replace hs149 := fun q hq => Nat.lt_of_lt_of_le (hs149 q hq) (Below.size b388)
  replace o356 := ownL.keep o356 (fun q hq => Below.block b388 q (hs154 q hq))
  replace hs154 := fun q hq => Nat.lt_of_lt_of_le (hs154 q hq) (Below.size b388)
  replace o357 := ownL.keep o357 (fun q hq => Below.block b388 q (hs159 q hq))
  replace hs159 := fun q hq => Nat.lt_of_lt_of_le (hs159 q hq) (Below.size b388)
  replace bx91 := Box.below bx91 b388
  replace bx200 := Box.below bx200 b388
  have z396 := Below.size b388
  replace zb0 : w.heap.size ≤ w387.heap.size := by omega
  replace za0 : w29.heap.size ≤ w387.heap.size := by omega
  obtain ⟨a397, m398, c399, rfl⟩ := ownL_shape o391
  have hs393 := fun q hq => (r392 q hq).2
  have k400 : w387.cell? ⟨w29.heap.size, 0, none⟩ = some ((Value.slice a69 m70 c71)) := bx91.2 0 (by simp)
  have k401 : w387.cell? ⟨w29.heap.size, 1, none⟩ = some ((Value.slice a72 m73 c74)) := bx91.2 1 (by simp)
  have k402 : w387.cell? ⟨w29.heap.size, 2, none⟩ = some ((Value.slice a75 m76 c77)) := bx91.2 2 (by simp)
  have k403 : w387.cell? ⟨w29.heap.size, 3, none⟩ = some ((Value.slice a78 m79 c80)) := bx91.2 3 (by simp)
  have k404 : w387.cell? ⟨w29.heap.size, 4, none⟩ = some ((Value.slice a81 m82 c83)) := bx91.2 4 (by simp)
  have k405 : w387.cell? ⟨w133.heap.size, 0, none⟩ = some ((Value.slice a174 m175 c176)) := bx200.2 0 (by simp)
  have k406 : w387.cell? ⟨w133.heap.size, 1, none⟩ = some ((Value.slice a177 m178 c179)) := bx200.2 1 (by simp)
  have k407 : w387.cell? ⟨w133.heap.size, 2, none⟩ = some ((Value.slice a180 m181 c182)) := bx200.2 2 (by simp)
  have k408 : w387.cell? ⟨w133.heap.size, 3, none⟩ = some ((Value.slice a183 m184 c185)) := bx200.2 3 (by simp)
  have k409 : w387.cell? ⟨w133.heap.size, 4, none⟩ = some ((Value.slice a186 m187 c188)) := bx200.2 4 (by simp)
  go_wp2_with fail
  clear k400 k401 k402 k403 k404 k405 k406 k407 k408 k409
  refine (toInstrSS_o d_aProgs (Value.slice a_aProgs0 d_aProgs.length c_aProgs0) _ (rdsL.below h_aProgs0 t394) hb_aProgs).mono ?_
  rintro e w410 ⟨u412, S413, rfl, o414, r415, b411⟩
  have t417 := Below.trans t394 (Below.mono b411 zb0)
  have s418 := Below.trans s395 (Below.mono b411 za0)
  replace o304 := ownL.keep o304 (fun q hq => Below.block b411 q (hs103 q hq))
  replace hs103 := fun q hq => Nat.lt_of_lt_of_le (hs103 q hq) (Below.size b411)
  replace o321 := ownL.keep o321 (fun q hq => Below.block b411 q (hs121 q hq))
  replace hs121 := fun q hq => Nat.lt_of_lt_of_le (hs121 q hq) (Below.size b411)
  replace o353 := ownL.keep o353 (fun q hq => Below.block b411 q (hs139 q hq))
  replace hs139 := fun q hq => Nat.lt_of_lt_of_le (hs139 q hq) (Below.size b411)
  replace o354 := ownL.keep o354 (fun q hq => Below.block b411 q (hs144 q hq))
  replace hs144 := fun q hq => Nat.lt_of_lt_of_le (hs144 q hq) (Below.size b411)
  replace o355 := ownL.keep o355 (fun q hq => Below.block b411 q (hs149 q hq))
  replace hs149 := fun q hq => Nat.lt_of_lt_of_le (hs149 q hq) (Below.size b411)
  replace o356 := ownL.keep o356 (fun q hq => Below.block b411 q (hs154 q hq))
  replace hs154 := fun q hq => Nat.lt_of_lt_of_le (hs154 q hq) (Below.size b411)
  replace o357 := ownL.keep o357 (fun q hq => Below.block b411 q (hs159 q hq))
  replace hs159 := fun q hq => Nat.lt_of_lt_of_le (hs159 q hq) (Below.size b411)
  replace o391 := ownL.keep o391 (fun q hq => Below.block b411 q (hs393 q hq))
  replace hs393 := fun q hq => Nat.lt_of_lt_of_le (hs393 q hq) (Below.size b411)
  replace bx91 := Box.below bx91 b411
  replace bx200 := Box.below bx200 b411
  have z419 := Below.size b411
  replace zb0 : w.heap.size ≤ w410.heap.size := by omega
  replace za0 : w29.heap.size ≤ w410.heap.size := by omega
  obtain ⟨a420, m421, c422, rfl⟩ := ownL_shape o414
  have hs416 := fun q hq => (r415 q hq).2
  have k423 : w410.cell? ⟨w29.heap.size, 0, none⟩ = some ((Value.slice a69 m70 c71)) := bx91.2 0 (by simp)
  have k424 : w410.cell? ⟨w29.heap.size, 1, none⟩ = some ((Value.slice a72 m73 c74)) := bx91.2 1 (by simp)
  have k425 : w410.cell? ⟨w29.heap.size, 2, none⟩ = some ((Value.slice a75 m76 c77)) := bx91.2 2 (by simp)
  have k426 : w410.cell? ⟨w29.heap.size, 3, none⟩ = some ((Value.slice a78 m79 c80)) := bx91.2 3 (by simp)
  have k427 : w410.cell? ⟨w29.heap.size, 4, none⟩ = some ((Value.slice a81 m82 c83)) := bx91.2 4 (by simp)
  have k428 : w410.cell? ⟨w133.heap.size, 0, none⟩ = some ((Value.slice a174 m175 c176)) := bx200.2 0 (by simp)
  have k429 : w410.cell? ⟨w133.heap.size, 1, none⟩ = some ((Value.slice a177 m178 c179)) := bx200.2 1 (by simp)
  have k430 : w410.cell? ⟨w133.heap.size, 2, none⟩ = some ((Value.slice a180 m181 c182)) := bx200.2 2 (by simp)
  have k431 : w410.cell? ⟨w133.heap.size, 3, none⟩ = some ((Value.slice a183 m184 c185)) := bx200.2 3 (by simp)
  have k432 : w410.cell? ⟨w133.heap.size, 4, none⟩ = some ((Value.slice a186 m187 c188)) := bx200.2 4 (by simp)
  go_wp2_with fail
  clear k423 k424 k425 k426 k427 k428 k429 k430 k431 k432
  refine (impl_NewWorldW d_aValues (Value.slice a397 m398 c399) d_aProgs (Value.slice a420 m421 c422) _ (ownL.rds o391) hb_aValues (ownL.rds o414) hb_aProgs).mono ?_
  rintro e w433 ⟨u435, u440, u445, u450, u455, S436, S441, S446, S451, S456, rfl, o437, o442, o447, o452, o457, r438, r443, r448, r453, r458, dj461, dj462, dj463, dj464, dj465, dj466, dj467, dj468, dj469, dj470, hb460, b434⟩
  have t471 := Below.trans t417 (Below.mono b434 zb0)
  have s472 := Below.trans s418 (Below.mono b434 za0)
  replace o304 := ownL.keep o304 (fun q hq => Below.block b434 q (hs103 q hq))
  replace hs103 := fun q hq => Nat.lt_of_lt_of_le (hs103 q hq) (Below.size b434)
  replace o321 := ownL.keep o321 (fun q hq => Below.block b434 q (hs121 q hq))
  replace hs121 := fun q hq => Nat.lt_of_lt_of_le (hs121 q hq) (Below.size b434)
  replace o353 := ownL.keep o353 (fun q hq => Below.block b434 q (hs139 q hq))
  replace hs139 := fun q hq => Nat.lt_of_lt_of_le (hs139 q hq) (Below.size b434)
  replace o354 := ownL.keep o354 (fun q hq => Below.block b434 q (hs144 q hq))
  replace hs144 := fun q hq => Nat.lt_of_lt_of_le (hs144 q hq) (Below.size b434)
  replace o355 := ownL.keep o355 (fun q hq => Below.block b434 q (hs149 q hq))
  replace hs149 := fun q hq => Nat.lt_of_lt_of_le (hs149 q hq) (Below.size b434)
  replace o356 := ownL.keep o356 (fun q hq => Below.block b434 q (hs154 q hq))
  replace hs154 := fun q hq => Nat.lt_of_lt_of_le (hs154 q hq) (Below.size b434)
  replace o357 := ownL.keep o357 (fun q hq => Below.block b434 q (hs159 q hq))
  replace hs159 := fun q hq => Nat.lt_of_lt_of_le (hs159 q hq) (Below.size b434)
  replace bx91 := Box.below bx91 b434
  replace bx200 := Box.below bx200 b434
  have z473 := Below.size b434
  replace zb0 : w.heap.size ≤ w433.heap.size := by omega
  replace za0 : w29.heap.size ≤ w433.heap.size := by omega
  obtain ⟨a474, m475, c476, rfl⟩ := ownL_shape o437
  have hs439 := fun q hq => (r438 q hq).2
  obtain ⟨a477, m478, c479, rfl⟩ := ownL_shape o442
  have hs444 := fun q hq => (r443 q hq).2
  obtain ⟨a480, m481, c482, rfl⟩ := ownL_shape o447
  have hs449 := fun q hq => (r448 q hq).2
  obtain ⟨a483, m484, c485, rfl⟩ := ownL_shape o452
  have hs454 := fun q hq => (r453 q hq).2
  obtain ⟨a486, m487, c488, rfl⟩ := ownL_shape o457
  have hs459 := fun q hq => (r458 q hq).2
  have k489 : w433.cell? ⟨w29.heap.size, 0, none⟩ = some ((Value.slice a69 m70 c71)) := bx91.2 0 (by simp)
  have k490 : w433.cell? ⟨w29.heap.size, 1, none⟩ = some ((Value.slice a72 m73 c74)) := bx91.2 1 (by simp)
  have k491 : w433.cell? ⟨w29.heap.size, 2, none⟩ = some ((Value.slice a75 m76 c77)) := bx91.2 2 (by simp)
  have k492 : w433.cell? ⟨w29.heap.size, 3, none⟩ = some ((Value.slice a78 m79 c80)) := bx91.2 3 (by simp)
  have k493 : w433.cell? ⟨w29.heap.size, 4, none⟩ = some ((Value.slice a81 m82 c83)) := bx91.2 4 (by simp)
  have k494 : w433.cell? ⟨w133.heap.size, 0, none⟩ = some ((Value.slice a174 m175 c176)) := bx200.2 0 (by simp)
  have k495 : w433.cell? ⟨w133.heap.size, 1, none⟩ = some ((Value.slice a177 m178 c179)) := bx200.2 1 (by simp)
  have k496 : w433.cell? ⟨w133.heap.size, 2, none⟩ = some ((Value.slice a180 m181 c182)) := bx200.2 2 (by simp)
  have k497 : w433.cell? ⟨w133.heap.size, 3, none⟩ = some ((Value.slice a183 m184 c185)) := bx200.2 3 (by simp)
  have k498 : w433.cell? ⟨w133.heap.size, 4, none⟩ = some ((Value.slice a186 m187 c188)) := bx200.2 4 (by simp)
  obtain ⟨X499, hX500⟩ : ∃ X, w433.alloc (.cells #[(Value.slice a474 m475 c476), (Value.slice a477 m478 c479), (Value.slice a480 m481 c482), (Value.slice a483 m484 c485), (Value.slice a486 m487 c488)] 32) = X := ⟨_, rfl⟩
  have bX501 : Below w433.heap.size w433 X499 := by rw [← hX500]; exact (Below.refl _ _).alloc (Nat.le_refl _) _
  have zX499 : X499.heap.size = w433.heap.size + 1 := by rw [← hX500]; simp
  have t502 := Below.trans t471 (Below.mono bX501 zb0)
  have s503 := Below.trans s472 (Below.mono bX501 za0)
  replace o304 := ownL.keep o304 (fun q hq => Below.block bX501 q (hs103 q hq))
  replace hs103 := fun q hq => Nat.lt_of_lt_of_le (hs103 q hq) (Below.size bX501)
  replace o321 := ownL.keep o321 (fun q hq => Below.block bX501 q (hs121 q hq))
  replace hs121 := fun q hq => Nat.lt_of_lt_of_le (hs121 q hq) (Below.size bX501)
  replace o353 := ownL.keep o353 (fun q hq => Below.block bX501 q (hs139 q hq))
  replace hs139 := fun q hq => Nat.lt_of_lt_of_le (hs139 q hq) (Below.size bX501)
  replace o354 := ownL.keep o354 (fun q hq => Below.block bX501 q (hs144 q hq))
  replace hs144 := fun q hq => Nat.lt_of_lt_of_le (hs144 q hq) (Below.size bX501)
  replace o355 := ownL.keep o355 (fun q hq => Below.block bX501 q (hs149 q hq))
  replace hs149 := fun q hq => Nat.lt_of_lt_of_le (hs149 q hq) (Below.size bX501)
  replace o356 := ownL.keep o356 (fun q hq => Below.block bX501 q (hs154 q hq))
  replace hs154 := fun q hq => Nat.lt_of_lt_of_le (hs154 q hq) (Below.size bX501)
  replace o357 := ownL.keep o357 (fun q hq => Below.block bX501 q (hs159 q hq))
  replace hs159 := fun q hq => Nat.lt_of_lt_of_le (hs159 q hq) (Below.size bX501)
  replace o437 := ownL.keep o437 (fun q hq => Below.block bX501 q (hs439 q hq))
  replace hs439 := fun q hq => Nat.lt_of_lt_of_le (hs439 q hq) (Below.size bX501)
  replace o442 := ownL.keep o442 (fun q hq => Below.block bX501 q (hs444 q hq))
  replace hs444 := fun q hq => Nat.lt_of_lt_of_le (hs444 q hq) (Below.size bX501)
  replace o447 := ownL.keep o447 (fun q hq => Below.block bX501 q (hs449 q hq))
  replace hs449 := fun q hq => Nat.lt_of_lt_of_le (hs449 q hq) (Below.size bX501)
  replace o452 := ownL.keep o452 (fun q hq => Below.block bX501 q (hs454 q hq))
  replace hs454 := fun q hq => Nat.lt_of_lt_of_le (hs454 q hq) (Below.size bX501)
  replace o457 := ownL.keep o457 (fun q hq => Below.block bX501 q (hs459 q hq))
  replace hs459 := fun q hq => Nat.lt_of_lt_of_le (hs459 q hq) (Below.size bX501)
  replace bx91 := Box.below bx91 bX501
  replace bx200 := Box.below bx200 bX501
  have z504 := Below.size bX501
  replace zb0 : w.heap.size ≤ X499.heap.size := by omega
  replace za0 : w29.heap.size ≤ X499.heap.size := by omega
  have bx505 : Box X499 (w433.heap.size) [(Value.slice a474 m475 c476), (Value.slice a477 m478 c479), (Value.slice a480 m481 c482), (Value.slice a483 m484 c485), (Value.slice a486 m487 c488)] := by rw [← hX500]; exact Box.alloc _ _ _
  have k506 : X499.cell? ⟨w29.heap.size, 0, none⟩ = some ((Value.slice a69 m70 c71)) := bx91.2 0 (by simp)
  have k507 : X499.cell? ⟨w29.heap.size, 1, none⟩ = some ((Value.slice a72 m73 c74)) := bx91.2 1 (by simp)
  have k508 : X499.cell? ⟨w29.heap.size, 2, none⟩ = some ((Value.slice a75 m76 c77)) := bx91.2 2 (by simp)
  have k509 : X499.cell? ⟨w29.heap.size, 3, none⟩ = some ((Value.slice a78 m79 c80)) := bx91.2 3 (by simp)
  have k510 : X499.cell? ⟨w29.heap.size, 4, none⟩ = some ((Value.slice a81 m82 c83)) := bx91.2 4 (by simp)
  have k511 : X499.cell? ⟨w133.heap.size, 0, none⟩ = some ((Value.slice a174 m175 c176)) := bx200.2 0 (by simp)
  have k512 : X499.cell? ⟨w133.heap.size, 1, none⟩ = some ((Value.slice a177 m178 c179)) := bx200.2 1 (by simp)
  have k513 : X499.cell? ⟨w133.heap.size, 2, none⟩ = some ((Value.slice a180 m181 c182)) := bx200.2 2 (by simp)
  have k514 : X499.cell? ⟨w133.heap.size, 3, none⟩ = some ((Value.slice a183 m184 c185)) := bx200.2 3 (by simp)
  have k515 : X499.cell? ⟨w133.heap.size, 4, none⟩ = some ((Value.slice a186 m187 c188)) := bx200.2 4 (by simp)
  have k516 : X499.cell? ⟨w433.heap.size, 0, none⟩ = some ((Value.slice a474 m475 c476)) := bx505.2 0 (by simp)
  have k517 : X499.cell? ⟨w433.heap.size, 1, none⟩ = some ((Value.slice a477 m478 c479)) := bx505.2 1 (by simp)
  have k518 : X499.cell? ⟨w433.heap.size, 2, none⟩ = some ((Value.slice a480 m481 c482)) := bx505.2 2 (by simp)
  have k519 : X499.cell? ⟨w433.heap.size, 3, none⟩ = some ((Value.slice a483 m484 c485)) := bx505.2 3 (by simp)
  have k520 : X499.cell? ⟨w433.heap.size, 4, none⟩ = some ((Value.slice a486 m487 c488)) := bx505.2 4 (by simp)
  go_wp2_with fail
  clear k489 k490 k491 k492 k493 k494 k495 k496 k497 k498 k506 k507 k508 k509 k510 k511 k512 k513 k514 k515 k516 k517 k518 k519 k520 hX500
  refine (eqWorld_o _ _ _ _ _ _ _ _ _ _ _ _ (ownL.rds o437) (ownL.rds o442) (ownL.rds o447) (ownL.rds o452) (ownL.rds o457) (rdsL.below o33 s503) (rdsL.below o38 s503) (rdsL.below o43 s503) (rdsL.below o48 s503) (rdsL.below o53 s503)).mono ?_
  rintro e w521 ⟨rfl, b522⟩
  have t523 := Below.trans t502 (Below.mono b522 zb0)
  have s524 := Below.trans s503 (Below.mono b522 za0)
  replace o304 := ownL.keep o304 (fun q hq => Below.block b522 q (hs103 q hq))
  replace hs103 := fun q hq => Nat.lt_of_lt_of_le (hs103 q hq) (Below.size b522)
  replace o321 := ownL.keep o321 (fun q hq => Below.block b522 q (hs121 q hq))
  replace hs121 := fun q hq => Nat.lt_of_lt_of_le (hs121 q hq) (Below.size b522)
  replace o353 := ownL.keep o353 (fun q hq => Below.block b522 q (hs139 q hq))
  replace hs139 := fun q hq => Nat.lt_of_lt_of_le (hs139 q hq) (Below.size b522)
  replace o354 := ownL.keep o354 (fun q hq => Below.block b522 q (hs144 q hq))
  replace hs144 := fun q hq => Nat.lt_of_lt_of_le (hs144 q hq) (Below.size b522)
  replace o355 := ownL.keep o355 (fun q hq => Below.block b522 q (hs149 q hq))
  replace hs149 := fun q hq => Nat.lt_of_lt_of_le (hs149 q hq) (Below.size b522)
  replace o356 := ownL.keep o356 (fun q hq => Below.block b522 q (hs154 q hq))
  replace hs154 := fun q hq => Nat.lt_of_lt_of_le (hs154 q hq) (Below.size b522)
  replace o357 := ownL.keep o357 (fun q hq => Below.block b522 q (hs159 q hq))
  replace hs159 := fun q hq => Nat.lt_of_lt_of_le (hs159 q hq) (Below.size b522)
  replace o437 := ownL.keep o437 (fun q hq => Below.block b522 q (hs439 q hq))
  replace hs439 := fun q hq => Nat.lt_of_lt_of_le (hs439 q hq) (Below.size b522)
  replace o442 := ownL.keep o442 (fun q hq => Below.block b522 q (hs444 q hq))
  replace hs444 := fun q hq => Nat.lt_of_lt_of_le (hs444 q hq) (Below.size b522)
  replace o447 := ownL.keep o447 (fun q hq => Below.block b522 q (hs449 q hq))
  replace hs449 := fun q hq => Nat.lt_of_lt_of_le (hs449 q hq) (Below.size b522)
  replace o452 := ownL.keep o452 (fun q hq => Below.block b522 q (hs454 q hq))
  replace hs454 := fun q hq => Nat.lt_of_lt_of_le (hs454 q hq) (Below.size b522)
  replace o457 := ownL.keep o457 (fun q hq => Below.block b522 q (hs459 q hq))
  replace hs459 := fun q hq => Nat.lt_of_lt_of_le (hs459 q hq) (Below.size b522)
  replace bx91 := Box.below bx91 b522
  replace bx200 := Box.below bx200 b522
  replace bx505 := Box.below bx505 b522
  have z525 := Below.size b522
  replace zb0 : w.heap.size ≤ w521.heap.size := by omega
  replace za0 : w29.heap.size ≤ w521.heap.size := by omega
  have k526 : w521.cell? ⟨w29.heap.size, 0, none⟩ = some ((Value.slice a69 m70 c71)) := bx91.2 0 (by simp)
  have k527 : w521.cell? ⟨w29.heap.size, 1, none⟩ = some ((Value.slice a72 m73 c74)) := bx91.2 1 (by simp)
  have k528 : w521.cell? ⟨w29.heap.size, 2, none⟩ = some ((Value.slice a75 m76 c77)) := bx91.2 2 (by simp)
  have k529 : w521.cell? ⟨w29.heap.size, 3, none⟩ = some ((Value.slice a78 m79 c80)) := bx91.2 3 (by simp)
  have k530 : w521.cell? ⟨w29.heap.size, 4, none⟩ = some ((Value.slice a81 m82 c83)) := bx91.2 4 (by simp)
  have k531 : w521.cell? ⟨w133.heap.size, 0, none⟩ = some ((Value.slice a174 m175 c176)) := bx200.2 0 (by simp)
  have k532 : w521.cell? ⟨w133.heap.size, 1, none⟩ = some ((Value.slice a177 m178 c179)) := bx200.2 1 (by simp)
  have k533 : w521.cell? ⟨w133.heap.size, 2, none⟩ = some ((Value.slice a180 m181 c182)) := bx200.2 2 (by simp)
  have k534 : w521.cell? ⟨w133.heap.size, 3, none⟩ = some ((Value.slice a183 m184 c185)) := bx200.2 3 (by simp)
  have k535 : w521.cell? ⟨w133.heap.size, 4, none⟩ = some ((Value.slice a186 m187 c188)) := bx200.2 4 (by simp)
  have k536 : w521.cell? ⟨w433.heap.size, 0, none⟩ = some ((Value.slice a474 m475 c476)) := bx505.2 0 (by simp)
  have k537 : w521.cell? ⟨w433.heap.size, 1, none⟩ = some ((Value.slice a477 m478 c479)) := bx505.2 1 (by simp)
  have k538 : w521.cell? ⟨w433.heap.size, 2, none⟩ = some ((Value.slice a480 m481 c482)) := bx505.2 2 (by simp)
  have k539 : w521.cell? ⟨w433.heap.size, 3, none⟩ = some ((Value.slice a483 m484 c485)) := bx505.2 3 (by simp)
  have k540 : w521.cell? ⟨w433.heap.size, 4, none⟩ = some ((Value.slice a486 m487 c488)) := bx505.2 4 (by simp)
  go_wp2_with fail
  clear k526 k527 k528 k529 k530 k531 k532 k533 k534 k535 k536 k537 k538 k539 k540
  refine (heldWorld_o _ _ _ _ _ _ _ _ hb160 (by omega) (by omega) (ownL.rds o353) (ownL.rds o354) (ownL.rds o355) (ownL.rds o356) (ownL.rds o357)).mono ?_
  rintro e w541 ⟨rfl, b542⟩
  have t543 := Below.trans t523 (Below.mono b542 zb0)
  have s544 := Below.trans s524 (Below.mono b542 za0)
  replace o304 := ownL.keep o304 (fun q hq => Below.block b542 q (hs103 q hq))
  replace hs103 := fun q hq => Nat.lt_of_lt_of_le (hs103 q hq) (Below.size b542)
  replace o321 := ownL.keep o321 (fun q hq => Below.block b542 q (hs121 q hq))
  replace hs121 := fun q hq => Nat.lt_of_lt_of_le (hs121 q hq) (Below.size b542)
  replace o353 := ownL.keep o353 (fun q hq => Below.block b542 q (hs139 q hq))
  replace hs139 := fun q hq => Nat.lt_of_lt_of_le (hs139 q hq) (Below.size b542)
  replace o354 := ownL.keep o354 (fun q hq => Below.block b542 q (hs144 q hq))
  replace hs144 := fun q hq => Nat.lt_of_lt_of_le (hs144 q hq) (Below.size b542)
  replace o355 := ownL.keep o355 (fun q hq => Below.block b542 q (hs149 q hq))
  replace hs149 := fun q hq => Nat.lt_of_lt_of_le (hs149 q hq) (Below.size b542)
  replace o356 := ownL.keep o356 (fun q hq => Below.block b542 q (hs154 q hq))
  replace hs154 := fun q hq => Nat.lt_of_lt_of_le (hs154 q hq) (Below.size b542)
  replace o357 := ownL.keep o357 (fun q hq => Below.block b542 q (hs159 q hq))
  replace hs159 := fun q hq => Nat.lt_of_lt_of_le (hs159 q hq) (Below.size b542)
  replace o437 := ownL.keep o437 (fun q hq => Below.block b542 q (hs439 q hq))
  replace hs439 := fun q hq => Nat.lt_of_lt_of_le (hs439 q hq) (Below.size b542)
  replace o442 := ownL.keep o442 (fun q hq => Below.block b542 q (hs444 q hq))
  replace hs444 := fun q hq => Nat.lt_of_lt_of_le (hs444 q hq) (Below.size b542)
  replace o447 := ownL.keep o447 (fun q hq => Below.block b542 q (hs449 q hq))
  replace hs449 := fun q hq => Nat.lt_of_lt_of_le (hs449 q hq) (Below.size b542)
  replace o452 := ownL.keep o452 (fun q hq => Below.block b542 q (hs454 q hq))
  replace hs454 := fun q hq => Nat.lt_of_lt_of_le (hs454 q hq) (Below.size b542)
  replace o457 := ownL.keep o457 (fun q hq => Below.block b542 q (hs459 q hq))
  replace hs459 := fun q hq => Nat.lt_of_lt_of_le (hs459 q hq) (Below.size b542)
  replace bx91 := Box.below bx91 b542
  replace bx200 := Box.below bx200 b542
  replace bx505 := Box.below bx505 b542
  have z545 := Below.size b542
  replace zb0 : w.heap.size ≤ w541.heap.size := by omega
  replace za0 : w29.heap.size ≤ w541.heap.size := by omega
  have k546 : w541.cell? ⟨w29.heap.size, 0, none⟩ = some ((Value.slice a69 m70 c71)) := bx91.2 0 (by simp)
  have k547 : w541.cell? ⟨w29.heap.size, 1, none⟩ = some ((Value.slice a72 m73 c74)) := bx91.2 1 (by simp)
  have k548 : w541.cell? ⟨w29.heap.size, 2, none⟩ = some ((Value.slice a75 m76 c77)) := bx91.2 2 (by simp)
  have k549 : w541.cell? ⟨w29.heap.size, 3, none⟩ = some ((Value.slice a78 m79 c80)) := bx91.2 3 (by simp)
  have k550 : w541.cell? ⟨w29.heap.size, 4, none⟩ = some ((Value.slice a81 m82 c83)) := bx91.2 4 (by simp)
  have k551 : w541.cell? ⟨w133.heap.size, 0, none⟩ = some ((Value.slice a174 m175 c176)) := bx200.2 0 (by simp)
  have k552 : w541.cell? ⟨w133.heap.size, 1, none⟩ = some ((Value.slice a177 m178 c179)) := bx200.2 1 (by simp)
  have k553 : w541.cell? ⟨w133.heap.size, 2, none⟩ = some ((Value.slice a180 m181 c182)) := bx200.2 2 (by simp)
  have k554 : w541.cell? ⟨w133.heap.size, 3, none⟩ = some ((Value.slice a183 m184 c185)) := bx200.2 3 (by simp)
  have k555 : w541.cell? ⟨w133.heap.size, 4, none⟩ = some ((Value.slice a186 m187 c188)) := bx200.2 4 (by simp)
  have k556 : w541.cell? ⟨w433.heap.size, 0, none⟩ = some ((Value.slice a474 m475 c476)) := bx505.2 0 (by simp)
  have k557 : w541.cell? ⟨w433.heap.size, 1, none⟩ = some ((Value.slice a477 m478 c479)) := bx505.2 1 (by simp)
  have k558 : w541.cell? ⟨w433.heap.size, 2, none⟩ = some ((Value.slice a480 m481 c482)) := bx505.2 2 (by simp)
  have k559 : w541.cell? ⟨w433.heap.size, 3, none⟩ = some ((Value.slice a483 m484 c485)) := bx505.2 3 (by simp)
  have k560 : w541.cell? ⟨w433.heap.size, 4, none⟩ = some ((Value.slice a486 m487 c488)) := bx505.2 4 (by simp)
  go_wp2_with fail
  clear k546 k547 k548 k549 k550 k551 k552 k553 k554 k555 k556 k557 k558 k559 k560
  try go_wp2
  go_ret
  exact ⟨rfl, hB0.trans (Below.mono t543 hB0.size)⟩

end Go.Proofs.Ytcafdihekamnkaa
