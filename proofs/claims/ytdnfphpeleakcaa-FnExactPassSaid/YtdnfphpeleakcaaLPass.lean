/- FnExactPass, walked. -/
import Derived.Test.YtdnfphpeleakcaaI3Pass
import Derived.Test.YtdnfphpeleakcaaS3Pass
import Derived.Test.YtdnfphpeleakcaaKeep
import Derived.Deep.RegionHeld3
import Derived.StillTailTactics
namespace Go.Proofs.Ytdnfphpeleakcaa
set_option maxRecDepth 100000
open Go.RowKit Go.Proofs Go.Own
set_option linter.unusedVariables false

set_option maxRecDepth 100000 in
set_option maxHeartbeats 8000000 in
theorem law_Pass (v_aY0 : Value) (x_aY0 : List Block) (v_aY1 : Value) (x_aY1 : List Int) (v_aY2 : Value) (x_aY2 : List Int) (v_aY3 : Value) (x_aY3 : List Gone) (s_aY4 : Int) (w : World) (h_aY0 : Blocks w v_aY0 x_aY0) (h_aY1 : Ints w v_aY1 x_aY1) (h_aY2 : Ints w v_aY2 x_aY2) (h_aY3 : Gones w v_aY3 x_aY3) (hgi_aY3 : GonesIn x_aY3) :
    Calls Try.prog 9 #[(.agg #[v_aY0, v_aY1, v_aY2, v_aY3, .int .i64 s_aY4])] w fun e w' => e = .returned (.bool true) ∧ Below w.heap.size w w' := by
  obtain ⟨ad_aY0, cap_aY0, rfl, hl_aY0, hm_aY0⟩ := Flat.form h_aY0
  obtain ⟨ad_aY1, cap_aY1, rfl, hl_aY1, hm_aY1⟩ := Flat.form h_aY1
  obtain ⟨ad_aY2, cap_aY2, rfl, hl_aY2, hm_aY2⟩ := Flat.form h_aY2
  obtain ⟨ad_aY3, cap_aY3, rfl, hl_aY3, hm_aY3⟩ := Flat.form h_aY3
  obtain ⟨W1, hW1⟩ : ∃ X, w.alloc (.cells #[Value.slice ad_aY0 x_aY0.length cap_aY0, Value.slice ad_aY1 x_aY1.length cap_aY1, Value.slice ad_aY2 x_aY2.length cap_aY2, Value.slice ad_aY3 x_aY3.length cap_aY3, Value.int .i64 s_aY4] 46) = X := ⟨_, rfl⟩
  have hbx1 : Below w.heap.size w W1 := by rw [← hW1]; exact (Below.refl _ _).alloc (Nat.le_refl _) _
  have bx_aY : Box W1 w.heap.size [Value.slice ad_aY0 x_aY0.length cap_aY0, Value.slice ad_aY1 x_aY1.length cap_aY1, Value.slice ad_aY2 x_aY2.length cap_aY2, Value.slice ad_aY3 x_aY3.length cap_aY3, Value.int .i64 s_aY4] := by rw [← hW1]; exact Box.alloc _ _ _
  have hB0 : Below w.heap.size w W1 := hbx1
  replace h_aY0 := Flat.below h_aY0 hB0
  replace h_aY1 := Flat.below h_aY1 hB0
  replace h_aY2 := Flat.below h_aY2 hB0
  replace h_aY3 := Flat.below h_aY3 hB0
  go_enter Try.func9, Try.ntmps9
  have k1 : W1.cell? ⟨w.heap.size, 0, none⟩ = some (Value.slice ad_aY0 x_aY0.length cap_aY0) := bx_aY.2 0 (by simp)
  have k2 : W1.cell? ⟨w.heap.size, 1, none⟩ = some (Value.slice ad_aY1 x_aY1.length cap_aY1) := bx_aY.2 1 (by simp)
  have k3 : W1.cell? ⟨w.heap.size, 2, none⟩ = some (Value.slice ad_aY2 x_aY2.length cap_aY2) := bx_aY.2 2 (by simp)
  have k4 : W1.cell? ⟨w.heap.size, 3, none⟩ = some (Value.slice ad_aY3 x_aY3.length cap_aY3) := bx_aY.2 3 (by simp)
  have k5 : W1.cell? ⟨w.heap.size, 4, none⟩ = some (Value.int .i64 s_aY4) := bx_aY.2 4 (by simp)
  go_wp2_with fail
  clear k1 k2 k3 k4 k5 hW1
  have hl0_aY : 0 ≤ (1048576 : Int) := by omega
  refine (szYard_c _ _ _ _ _ _ _ _ _ _ _ _ _ _ _ (by omega) (by omega) (by omega) (by omega) (by omega) (by omega)).mono ?_
  rintro e w6 ⟨rfl, b7⟩
  by_cases big_aY : (1048576 : Int) < (x_aY0.length : Int) + (x_aY1.length : Int) + (x_aY2.length : Int) + (x_aY3.length : Int)
  · rw [if_pos big_aY]
    go_wp2
    go_ret
    exact ⟨rfl, hB0.trans (Below.mono (Below.trans (Below.refl _ _ : Below W1.heap.size W1 W1) (Below.mono b7 (Below.refl _ _ : Below W1.heap.size W1 W1).size)) hB0.size)⟩
  rw [if_neg big_aY]
  have t8 := Below.trans (Below.refl _ _ : Below W1.heap.size W1 W1) (Below.mono b7 (Below.refl _ _ : Below W1.heap.size W1 W1).size)
  replace bx_aY := Box.below bx_aY b7
  have k9 : w6.cell? ⟨w.heap.size, 0, none⟩ = some (Value.slice ad_aY0 x_aY0.length cap_aY0) := bx_aY.2 0 (by simp)
  have k10 : w6.cell? ⟨w.heap.size, 1, none⟩ = some (Value.slice ad_aY1 x_aY1.length cap_aY1) := bx_aY.2 1 (by simp)
  have k11 : w6.cell? ⟨w.heap.size, 2, none⟩ = some (Value.slice ad_aY2 x_aY2.length cap_aY2) := bx_aY.2 2 (by simp)
  have k12 : w6.cell? ⟨w.heap.size, 3, none⟩ = some (Value.slice ad_aY3 x_aY3.length cap_aY3) := bx_aY.2 3 (by simp)
  have k13 : w6.cell? ⟨w.heap.size, 4, none⟩ = some (Value.int .i64 s_aY4) := bx_aY.2 4 (by simp)
  go_wp2_with fail
  clear k9 k10 k11 k12 k13
  have hx_aY0 : x_aY0.length ≤ 1048576 := by omega
  have hx_aY1 : x_aY1.length ≤ 1048576 := by omega
  have hx_aY2 : x_aY2.length ≤ 1048576 := by omega
  have hx_aY3 : x_aY3.length ≤ 1048576 := by omega
  refine (toYard_c _ x_aY0 _ x_aY1 _ x_aY2 _ x_aY3 s_aY4 _ hx_aY0 hx_aY1 hx_aY2 hx_aY3 (FlatB.flat (FlatB.below h_aY0 t8) t8.size) (FlatB.flat (FlatB.below h_aY1 t8) t8.size) (FlatB.flat (FlatB.below h_aY2 t8) t8.size) (FlatB.flat (FlatB.below h_aY3 t8) t8.size)).mono ?_
  rintro e w14 ⟨v16, v17, v18, v19, rfl, o20, o21, o22, o23, ap24, ap25, ap26, ap27, ap28, ap29, b15⟩
  obtain ⟨a30, m31, c32, rfl⟩ := owns_form3 o20
  obtain ⟨a33, m34, c35, rfl⟩ := owns_form3 o21
  obtain ⟨a36, m37, c38, rfl⟩ := owns_form3 o22
  obtain ⟨a39, m40, c41, rfl⟩ := owns_form3 o23
  have t42 := Below.trans t8 (Below.mono b15 t8.size)
  replace bx_aY := Box.below bx_aY b15
  have k43 : w14.cell? ⟨w.heap.size, 0, none⟩ = some (Value.slice ad_aY0 x_aY0.length cap_aY0) := bx_aY.2 0 (by simp)
  have k44 : w14.cell? ⟨w.heap.size, 1, none⟩ = some (Value.slice ad_aY1 x_aY1.length cap_aY1) := bx_aY.2 1 (by simp)
  have k45 : w14.cell? ⟨w.heap.size, 2, none⟩ = some (Value.slice ad_aY2 x_aY2.length cap_aY2) := bx_aY.2 2 (by simp)
  have k46 : w14.cell? ⟨w.heap.size, 3, none⟩ = some (Value.slice ad_aY3 x_aY3.length cap_aY3) := bx_aY.2 3 (by simp)
  have k47 : w14.cell? ⟨w.heap.size, 4, none⟩ = some (Value.int .i64 s_aY4) := bx_aY.2 4 (by simp)
  go_wp2_with fail
  clear k43 k44 k45 k46 k47
  have q48 := (bx_aY).1
  refine (spec_Pass _ x_aY0 _ x_aY1 _ x_aY2 _ x_aY3 s_aY4 _ (Flat.of_owns o20) hx_aY0 (Flat.of_owns o21) hx_aY1 (Flat.of_owns o22) hx_aY2 (Flat.of_owns o23) hx_aY3).mono ?_
  rintro e w49 ⟨v51, v54, v57, v60, rfl, o52, o55, o58, o61, b50⟩
  obtain ⟨a69, m70, c71, rfl⟩ := Flat.form3 o52
  obtain ⟨a72, m73, c74, rfl⟩ := Flat.form3 o55
  obtain ⟨a75, m76, c77, rfl⟩ := Flat.form3 o58
  obtain ⟨a78, m79, c80, rfl⟩ := Flat.form3 o61
  have t81 := Below.trans t42 (Below.mono b50 t42.size)
  replace bx_aY := Box.below bx_aY b50
  have s82 : Below w49.heap.size w49 w49 := Below.refl _ _
  have k83 : w49.cell? ⟨w.heap.size, 0, none⟩ = some (Value.slice ad_aY0 x_aY0.length cap_aY0) := bx_aY.2 0 (by simp)
  have k84 : w49.cell? ⟨w.heap.size, 1, none⟩ = some (Value.slice ad_aY1 x_aY1.length cap_aY1) := bx_aY.2 1 (by simp)
  have k85 : w49.cell? ⟨w.heap.size, 2, none⟩ = some (Value.slice ad_aY2 x_aY2.length cap_aY2) := bx_aY.2 2 (by simp)
  have k86 : w49.cell? ⟨w.heap.size, 3, none⟩ = some (Value.slice ad_aY3 x_aY3.length cap_aY3) := bx_aY.2 3 (by simp)
  have k87 : w49.cell? ⟨w.heap.size, 4, none⟩ = some (Value.int .i64 s_aY4) := bx_aY.2 4 (by simp)
  obtain ⟨X88, hX89⟩ : ∃ X, w49.alloc (.cells #[(Value.slice a69 m70 c71), (Value.slice a72 m73 c74), (Value.slice a75 m76 c77), (Value.slice a78 m79 c80), Value.int .i64 (passF ⟨⟨x_aY0, x_aY1⟩, x_aY2, x_aY3, s_aY4⟩).1.passes] 30) = X := ⟨_, rfl⟩
  have bX90 : Below w49.heap.size w49 X88 := by rw [← hX89]; exact (Below.refl _ _).alloc (Nat.le_refl _) _
  have t91 := Below.trans t81 (Below.mono bX90 t81.size)
  have s92 := Below.trans s82 (Below.mono bX90 s82.size)
  replace bx_aY := Box.below bx_aY bX90
  have bx93 : Box X88 (w49.heap.size) [(Value.slice a69 m70 c71), (Value.slice a72 m73 c74), (Value.slice a75 m76 c77), (Value.slice a78 m79 c80), Value.int .i64 (passF ⟨⟨x_aY0, x_aY1⟩, x_aY2, x_aY3, s_aY4⟩).1.passes] := by rw [← hX89]; exact Box.alloc _ _ _
  have k94 : X88.cell? ⟨w.heap.size, 0, none⟩ = some (Value.slice ad_aY0 x_aY0.length cap_aY0) := bx_aY.2 0 (by simp)
  have k95 : X88.cell? ⟨w.heap.size, 1, none⟩ = some (Value.slice ad_aY1 x_aY1.length cap_aY1) := bx_aY.2 1 (by simp)
  have k96 : X88.cell? ⟨w.heap.size, 2, none⟩ = some (Value.slice ad_aY2 x_aY2.length cap_aY2) := bx_aY.2 2 (by simp)
  have k97 : X88.cell? ⟨w.heap.size, 3, none⟩ = some (Value.slice ad_aY3 x_aY3.length cap_aY3) := bx_aY.2 3 (by simp)
  have k98 : X88.cell? ⟨w.heap.size, 4, none⟩ = some (Value.int .i64 s_aY4) := bx_aY.2 4 (by simp)
  have k99 : X88.cell? ⟨w49.heap.size, 0, none⟩ = some ((Value.slice a69 m70 c71)) := bx93.2 0 (by simp)
  have k100 : X88.cell? ⟨w49.heap.size, 1, none⟩ = some ((Value.slice a72 m73 c74)) := bx93.2 1 (by simp)
  have k101 : X88.cell? ⟨w49.heap.size, 2, none⟩ = some ((Value.slice a75 m76 c77)) := bx93.2 2 (by simp)
  have k102 : X88.cell? ⟨w49.heap.size, 3, none⟩ = some ((Value.slice a78 m79 c80)) := bx93.2 3 (by simp)
  have k103 : X88.cell? ⟨w49.heap.size, 4, none⟩ = some (Value.int .i64 (passF ⟨⟨x_aY0, x_aY1⟩, x_aY2, x_aY3, s_aY4⟩).1.passes) := bx93.2 4 (by simp)
  go_wp2_with fail
  clear k83 k84 k85 k86 k87 k94 k95 k96 k97 k98 k99 k100 k101 k102 k103 hX89
  have q104 := (bx_aY).1
  have q105 := (bx93).1
  refine (toYard_c _ x_aY0 _ x_aY1 _ x_aY2 _ x_aY3 s_aY4 _ hx_aY0 hx_aY1 hx_aY2 hx_aY3 (FlatB.flat (FlatB.below h_aY0 t91) t91.size) (FlatB.flat (FlatB.below h_aY1 t91) t91.size) (FlatB.flat (FlatB.below h_aY2 t91) t91.size) (FlatB.flat (FlatB.below h_aY3 t91) t91.size)).mono ?_
  rintro e w106 ⟨v108, v109, v110, v111, rfl, o112, o113, o114, o115, ap116, ap117, ap118, ap119, ap120, ap121, b107⟩
  obtain ⟨a122, m123, c124, rfl⟩ := owns_form3 o112
  obtain ⟨a125, m126, c127, rfl⟩ := owns_form3 o113
  obtain ⟨a128, m129, c130, rfl⟩ := owns_form3 o114
  obtain ⟨a131, m132, c133, rfl⟩ := owns_form3 o115
  have t134 := Below.trans t91 (Below.mono b107 t91.size)
  have s135 := Below.trans s92 (Below.mono b107 s92.size)
  replace bx_aY := Box.below bx_aY b107
  replace bx93 := Box.below bx93 b107
  have tb136 := Below.size t91
  have hb137 := Below.size s92
  have ne138 : ¬ (Value.slice a122 m123 c124).ownBlock = some (w.heap.size) := fun e => by have h1 := (World.ownsRow.lt o112 _ e).1; have h2 := q104; omega
  have ne139 : ¬ (Value.slice a122 m123 c124).ownBlock = some (w49.heap.size) := fun e => by have h1 := (World.ownsRow.lt o112 _ e).1; have h2 := q105; omega
  have ne140 : ¬ (Value.slice a125 m126 c127).ownBlock = some (w.heap.size) := fun e => by have h1 := (World.ownsRow.lt o113 _ e).1; have h2 := q104; omega
  have ne141 : ¬ (Value.slice a125 m126 c127).ownBlock = some (w49.heap.size) := fun e => by have h1 := (World.ownsRow.lt o113 _ e).1; have h2 := q105; omega
  have ne142 : ¬ (Value.slice a128 m129 c130).ownBlock = some (w.heap.size) := fun e => by have h1 := (World.ownsRow.lt o114 _ e).1; have h2 := q104; omega
  have ne143 : ¬ (Value.slice a128 m129 c130).ownBlock = some (w49.heap.size) := fun e => by have h1 := (World.ownsRow.lt o114 _ e).1; have h2 := q105; omega
  have ne144 : ¬ (Value.slice a131 m132 c133).ownBlock = some (w.heap.size) := fun e => by have h1 := (World.ownsRow.lt o115 _ e).1; have h2 := q104; omega
  have ne145 : ¬ (Value.slice a131 m132 c133).ownBlock = some (w49.heap.size) := fun e => by have h1 := (World.ownsRow.lt o115 _ e).1; have h2 := q105; omega
  have k146 : w106.cell? ⟨w.heap.size, 0, none⟩ = some (Value.slice ad_aY0 x_aY0.length cap_aY0) := bx_aY.2 0 (by simp)
  have k147 : w106.cell? ⟨w.heap.size, 1, none⟩ = some (Value.slice ad_aY1 x_aY1.length cap_aY1) := bx_aY.2 1 (by simp)
  have k148 : w106.cell? ⟨w.heap.size, 2, none⟩ = some (Value.slice ad_aY2 x_aY2.length cap_aY2) := bx_aY.2 2 (by simp)
  have k149 : w106.cell? ⟨w.heap.size, 3, none⟩ = some (Value.slice ad_aY3 x_aY3.length cap_aY3) := bx_aY.2 3 (by simp)
  have k150 : w106.cell? ⟨w.heap.size, 4, none⟩ = some (Value.int .i64 s_aY4) := bx_aY.2 4 (by simp)
  have k151 : w106.cell? ⟨w49.heap.size, 0, none⟩ = some ((Value.slice a69 m70 c71)) := bx93.2 0 (by simp)
  have k152 : w106.cell? ⟨w49.heap.size, 1, none⟩ = some ((Value.slice a72 m73 c74)) := bx93.2 1 (by simp)
  have k153 : w106.cell? ⟨w49.heap.size, 2, none⟩ = some ((Value.slice a75 m76 c77)) := bx93.2 2 (by simp)
  have k154 : w106.cell? ⟨w49.heap.size, 3, none⟩ = some ((Value.slice a78 m79 c80)) := bx93.2 3 (by simp)
  have k155 : w106.cell? ⟨w49.heap.size, 4, none⟩ = some (Value.int .i64 (passF ⟨⟨x_aY0, x_aY1⟩, x_aY2, x_aY3, s_aY4⟩).1.passes) := bx93.2 4 (by simp)
  obtain ⟨X156, hX157⟩ : ∃ X, w106.alloc (.cells #[(Value.slice a122 m123 c124), (Value.slice a125 m126 c127), (Value.slice a128 m129 c130), (Value.slice a131 m132 c133), Value.int .i64 s_aY4] 30) = X := ⟨_, rfl⟩
  have bX158 : Below w106.heap.size w106 X156 := by rw [← hX157]; exact (Below.refl _ _).alloc (Nat.le_refl _) _
  have ne159 : ¬ (Value.slice a122 m123 c124).ownBlock = some (w106.heap.size) := fun e => by have h1 := (World.ownsRow.lt o112 _ e).2; omega
  have ne160 : ¬ (Value.slice a125 m126 c127).ownBlock = some (w106.heap.size) := fun e => by have h1 := (World.ownsRow.lt o113 _ e).2; omega
  have ne161 : ¬ (Value.slice a128 m129 c130).ownBlock = some (w106.heap.size) := fun e => by have h1 := (World.ownsRow.lt o114 _ e).2; omega
  have ne162 : ¬ (Value.slice a131 m132 c133).ownBlock = some (w106.heap.size) := fun e => by have h1 := (World.ownsRow.lt o115 _ e).2; omega
  have t163 := Below.trans t134 (Below.mono bX158 t134.size)
  have s164 := Below.trans s135 (Below.mono bX158 s135.size)
  replace o112 := owns_below o112 bX158
  replace o113 := owns_below o113 bX158
  replace o114 := owns_below o114 bX158
  replace o115 := owns_below o115 bX158
  replace bx_aY := Box.below bx_aY bX158
  replace bx93 := Box.below bx93 bX158
  have bx165 : Box X156 (w106.heap.size) [(Value.slice a122 m123 c124), (Value.slice a125 m126 c127), (Value.slice a128 m129 c130), (Value.slice a131 m132 c133), Value.int .i64 s_aY4] := by rw [← hX157]; exact Box.alloc _ _ _
  have k166 : X156.cell? ⟨w.heap.size, 0, none⟩ = some (Value.slice ad_aY0 x_aY0.length cap_aY0) := bx_aY.2 0 (by simp)
  have k167 : X156.cell? ⟨w.heap.size, 1, none⟩ = some (Value.slice ad_aY1 x_aY1.length cap_aY1) := bx_aY.2 1 (by simp)
  have k168 : X156.cell? ⟨w.heap.size, 2, none⟩ = some (Value.slice ad_aY2 x_aY2.length cap_aY2) := bx_aY.2 2 (by simp)
  have k169 : X156.cell? ⟨w.heap.size, 3, none⟩ = some (Value.slice ad_aY3 x_aY3.length cap_aY3) := bx_aY.2 3 (by simp)
  have k170 : X156.cell? ⟨w.heap.size, 4, none⟩ = some (Value.int .i64 s_aY4) := bx_aY.2 4 (by simp)
  have k171 : X156.cell? ⟨w49.heap.size, 0, none⟩ = some ((Value.slice a69 m70 c71)) := bx93.2 0 (by simp)
  have k172 : X156.cell? ⟨w49.heap.size, 1, none⟩ = some ((Value.slice a72 m73 c74)) := bx93.2 1 (by simp)
  have k173 : X156.cell? ⟨w49.heap.size, 2, none⟩ = some ((Value.slice a75 m76 c77)) := bx93.2 2 (by simp)
  have k174 : X156.cell? ⟨w49.heap.size, 3, none⟩ = some ((Value.slice a78 m79 c80)) := bx93.2 3 (by simp)
  have k175 : X156.cell? ⟨w49.heap.size, 4, none⟩ = some (Value.int .i64 (passF ⟨⟨x_aY0, x_aY1⟩, x_aY2, x_aY3, s_aY4⟩).1.passes) := bx93.2 4 (by simp)
  have k176 : X156.cell? ⟨w106.heap.size, 0, none⟩ = some ((Value.slice a122 m123 c124)) := bx165.2 0 (by simp)
  have k177 : X156.cell? ⟨w106.heap.size, 1, none⟩ = some ((Value.slice a125 m126 c127)) := bx165.2 1 (by simp)
  have k178 : X156.cell? ⟨w106.heap.size, 2, none⟩ = some ((Value.slice a128 m129 c130)) := bx165.2 2 (by simp)
  have k179 : X156.cell? ⟨w106.heap.size, 3, none⟩ = some ((Value.slice a131 m132 c133)) := bx165.2 3 (by simp)
  have k180 : X156.cell? ⟨w106.heap.size, 4, none⟩ = some (Value.int .i64 s_aY4) := bx165.2 4 (by simp)
  go_wp2_with fail
  clear k146 k147 k148 k149 k150 k151 k152 k153 k154 k155 k166 k167 k168 k169 k170 k171 k172 k173 k174 k175 k176 k177 k178 k179 k180 hX157
  have p181 := o112
  have p182 := o113
  have p183 := o114
  have p184 := o115
  have q185 := (bx_aY).1
  have q186 := (bx93).1
  have q187 := (bx165).1
  refine (impl_Pass _ x_aY0 _ x_aY1 _ x_aY2 _ x_aY3 s_aY4 _ (Flat.of_owns o112) hx_aY0 (Flat.of_owns o113) hx_aY1 (Flat.of_owns o114) hx_aY2 (Flat.of_owns o115) hx_aY3).mono ?_
  rintro e w188 ⟨v190, v193, v196, v199, rfl, o191, l192, o194, l195, o197, l198, o200, l201, ap202, ap203, ap204, ap205, ap206, ap207, b189⟩
  obtain ⟨a208, m209, c210, rfl⟩ := owns_form3 o191
  obtain ⟨a211, m212, c213, rfl⟩ := owns_form3 o194
  obtain ⟨a214, m215, c216, rfl⟩ := owns_form3 o197
  obtain ⟨a217, m218, c219, rfl⟩ := owns_form3 o200
  have t220 := Below.trans t163 (Below.mono b189 t163.size)
  have s221 := Below.trans s164 (Below.mono b189 s164.size)
  replace o112 := owns_below o112 b189
  replace o113 := owns_below o113 b189
  replace o114 := owns_below o114 b189
  replace o115 := owns_below o115 b189
  replace bx_aY := Box.below bx_aY b189
  replace bx93 := Box.below bx93 b189
  replace bx165 := Box.below bx165 b189
  have tb222 := Below.size t163
  have hb223 := Below.size s164
  have ap224 := apart p181 (Nat.le_refl _) o191
  have ap225 := apart p182 (Nat.le_refl _) o191
  have ap226 := apart p183 (Nat.le_refl _) o191
  have ap227 := apart p184 (Nat.le_refl _) o191
  have ne228 : ¬ (Value.slice a208 m209 c210).ownBlock = some (w.heap.size) := fun e => by have h1 := (World.ownsRow.lt o191 _ e).1; have h2 := q185; omega
  have ne229 : ¬ (Value.slice a208 m209 c210).ownBlock = some (w49.heap.size) := fun e => by have h1 := (World.ownsRow.lt o191 _ e).1; have h2 := q186; omega
  have ne230 : ¬ (Value.slice a208 m209 c210).ownBlock = some (w106.heap.size) := fun e => by have h1 := (World.ownsRow.lt o191 _ e).1; have h2 := q187; omega
  have ap231 := apart p181 (Nat.le_refl _) o194
  have ap232 := apart p182 (Nat.le_refl _) o194
  have ap233 := apart p183 (Nat.le_refl _) o194
  have ap234 := apart p184 (Nat.le_refl _) o194
  have ne235 : ¬ (Value.slice a211 m212 c213).ownBlock = some (w.heap.size) := fun e => by have h1 := (World.ownsRow.lt o194 _ e).1; have h2 := q185; omega
  have ne236 : ¬ (Value.slice a211 m212 c213).ownBlock = some (w49.heap.size) := fun e => by have h1 := (World.ownsRow.lt o194 _ e).1; have h2 := q186; omega
  have ne237 : ¬ (Value.slice a211 m212 c213).ownBlock = some (w106.heap.size) := fun e => by have h1 := (World.ownsRow.lt o194 _ e).1; have h2 := q187; omega
  have ap238 := apart p181 (Nat.le_refl _) o197
  have ap239 := apart p182 (Nat.le_refl _) o197
  have ap240 := apart p183 (Nat.le_refl _) o197
  have ap241 := apart p184 (Nat.le_refl _) o197
  have ne242 : ¬ (Value.slice a214 m215 c216).ownBlock = some (w.heap.size) := fun e => by have h1 := (World.ownsRow.lt o197 _ e).1; have h2 := q185; omega
  have ne243 : ¬ (Value.slice a214 m215 c216).ownBlock = some (w49.heap.size) := fun e => by have h1 := (World.ownsRow.lt o197 _ e).1; have h2 := q186; omega
  have ne244 : ¬ (Value.slice a214 m215 c216).ownBlock = some (w106.heap.size) := fun e => by have h1 := (World.ownsRow.lt o197 _ e).1; have h2 := q187; omega
  have ap245 := apart p181 (Nat.le_refl _) o200
  have ap246 := apart p182 (Nat.le_refl _) o200
  have ap247 := apart p183 (Nat.le_refl _) o200
  have ap248 := apart p184 (Nat.le_refl _) o200
  have ne249 : ¬ (Value.slice a217 m218 c219).ownBlock = some (w.heap.size) := fun e => by have h1 := (World.ownsRow.lt o200 _ e).1; have h2 := q185; omega
  have ne250 : ¬ (Value.slice a217 m218 c219).ownBlock = some (w49.heap.size) := fun e => by have h1 := (World.ownsRow.lt o200 _ e).1; have h2 := q186; omega
  have ne251 : ¬ (Value.slice a217 m218 c219).ownBlock = some (w106.heap.size) := fun e => by have h1 := (World.ownsRow.lt o200 _ e).1; have h2 := q187; omega
  have k252 : w188.cell? ⟨w.heap.size, 0, none⟩ = some (Value.slice ad_aY0 x_aY0.length cap_aY0) := bx_aY.2 0 (by simp)
  have k253 : w188.cell? ⟨w.heap.size, 1, none⟩ = some (Value.slice ad_aY1 x_aY1.length cap_aY1) := bx_aY.2 1 (by simp)
  have k254 : w188.cell? ⟨w.heap.size, 2, none⟩ = some (Value.slice ad_aY2 x_aY2.length cap_aY2) := bx_aY.2 2 (by simp)
  have k255 : w188.cell? ⟨w.heap.size, 3, none⟩ = some (Value.slice ad_aY3 x_aY3.length cap_aY3) := bx_aY.2 3 (by simp)
  have k256 : w188.cell? ⟨w.heap.size, 4, none⟩ = some (Value.int .i64 s_aY4) := bx_aY.2 4 (by simp)
  have k257 : w188.cell? ⟨w49.heap.size, 0, none⟩ = some ((Value.slice a69 m70 c71)) := bx93.2 0 (by simp)
  have k258 : w188.cell? ⟨w49.heap.size, 1, none⟩ = some ((Value.slice a72 m73 c74)) := bx93.2 1 (by simp)
  have k259 : w188.cell? ⟨w49.heap.size, 2, none⟩ = some ((Value.slice a75 m76 c77)) := bx93.2 2 (by simp)
  have k260 : w188.cell? ⟨w49.heap.size, 3, none⟩ = some ((Value.slice a78 m79 c80)) := bx93.2 3 (by simp)
  have k261 : w188.cell? ⟨w49.heap.size, 4, none⟩ = some (Value.int .i64 (passF ⟨⟨x_aY0, x_aY1⟩, x_aY2, x_aY3, s_aY4⟩).1.passes) := bx93.2 4 (by simp)
  have k262 : w188.cell? ⟨w106.heap.size, 0, none⟩ = some ((Value.slice a122 m123 c124)) := bx165.2 0 (by simp)
  have k263 : w188.cell? ⟨w106.heap.size, 1, none⟩ = some ((Value.slice a125 m126 c127)) := bx165.2 1 (by simp)
  have k264 : w188.cell? ⟨w106.heap.size, 2, none⟩ = some ((Value.slice a128 m129 c130)) := bx165.2 2 (by simp)
  have k265 : w188.cell? ⟨w106.heap.size, 3, none⟩ = some ((Value.slice a131 m132 c133)) := bx165.2 3 (by simp)
  have k266 : w188.cell? ⟨w106.heap.size, 4, none⟩ = some (Value.int .i64 s_aY4) := bx165.2 4 (by simp)
  obtain ⟨X267, hX268⟩ : ∃ X, w188.alloc (.cells #[(Value.slice a208 m209 c210), (Value.slice a211 m212 c213), (Value.slice a214 m215 c216), (Value.slice a217 m218 c219), Value.int .i64 (passF ⟨⟨x_aY0, x_aY1⟩, x_aY2, x_aY3, s_aY4⟩).1.passes] 30) = X := ⟨_, rfl⟩
  have bX269 : Below w188.heap.size w188 X267 := by rw [← hX268]; exact (Below.refl _ _).alloc (Nat.le_refl _) _
  have ne270 : ¬ (Value.slice a122 m123 c124).ownBlock = some (w188.heap.size) := fun e => by have h1 := (World.ownsRow.lt o112 _ e).2; omega
  have ne271 : ¬ (Value.slice a125 m126 c127).ownBlock = some (w188.heap.size) := fun e => by have h1 := (World.ownsRow.lt o113 _ e).2; omega
  have ne272 : ¬ (Value.slice a128 m129 c130).ownBlock = some (w188.heap.size) := fun e => by have h1 := (World.ownsRow.lt o114 _ e).2; omega
  have ne273 : ¬ (Value.slice a131 m132 c133).ownBlock = some (w188.heap.size) := fun e => by have h1 := (World.ownsRow.lt o115 _ e).2; omega
  have ne274 : ¬ (Value.slice a208 m209 c210).ownBlock = some (w188.heap.size) := fun e => by have h1 := (World.ownsRow.lt o191 _ e).2; omega
  have ne275 : ¬ (Value.slice a211 m212 c213).ownBlock = some (w188.heap.size) := fun e => by have h1 := (World.ownsRow.lt o194 _ e).2; omega
  have ne276 : ¬ (Value.slice a214 m215 c216).ownBlock = some (w188.heap.size) := fun e => by have h1 := (World.ownsRow.lt o197 _ e).2; omega
  have ne277 : ¬ (Value.slice a217 m218 c219).ownBlock = some (w188.heap.size) := fun e => by have h1 := (World.ownsRow.lt o200 _ e).2; omega
  have t278 := Below.trans t220 (Below.mono bX269 t220.size)
  have s279 := Below.trans s221 (Below.mono bX269 s221.size)
  replace o112 := owns_below o112 bX269
  replace o113 := owns_below o113 bX269
  replace o114 := owns_below o114 bX269
  replace o115 := owns_below o115 bX269
  replace o191 := owns_below o191 bX269
  replace o194 := owns_below o194 bX269
  replace o197 := owns_below o197 bX269
  replace o200 := owns_below o200 bX269
  replace bx_aY := Box.below bx_aY bX269
  replace bx93 := Box.below bx93 bX269
  replace bx165 := Box.below bx165 bX269
  have bx280 : Box X267 (w188.heap.size) [(Value.slice a208 m209 c210), (Value.slice a211 m212 c213), (Value.slice a214 m215 c216), (Value.slice a217 m218 c219), Value.int .i64 (passF ⟨⟨x_aY0, x_aY1⟩, x_aY2, x_aY3, s_aY4⟩).1.passes] := by rw [← hX268]; exact Box.alloc _ _ _
  have k281 : X267.cell? ⟨w.heap.size, 0, none⟩ = some (Value.slice ad_aY0 x_aY0.length cap_aY0) := bx_aY.2 0 (by simp)
  have k282 : X267.cell? ⟨w.heap.size, 1, none⟩ = some (Value.slice ad_aY1 x_aY1.length cap_aY1) := bx_aY.2 1 (by simp)
  have k283 : X267.cell? ⟨w.heap.size, 2, none⟩ = some (Value.slice ad_aY2 x_aY2.length cap_aY2) := bx_aY.2 2 (by simp)
  have k284 : X267.cell? ⟨w.heap.size, 3, none⟩ = some (Value.slice ad_aY3 x_aY3.length cap_aY3) := bx_aY.2 3 (by simp)
  have k285 : X267.cell? ⟨w.heap.size, 4, none⟩ = some (Value.int .i64 s_aY4) := bx_aY.2 4 (by simp)
  have k286 : X267.cell? ⟨w49.heap.size, 0, none⟩ = some ((Value.slice a69 m70 c71)) := bx93.2 0 (by simp)
  have k287 : X267.cell? ⟨w49.heap.size, 1, none⟩ = some ((Value.slice a72 m73 c74)) := bx93.2 1 (by simp)
  have k288 : X267.cell? ⟨w49.heap.size, 2, none⟩ = some ((Value.slice a75 m76 c77)) := bx93.2 2 (by simp)
  have k289 : X267.cell? ⟨w49.heap.size, 3, none⟩ = some ((Value.slice a78 m79 c80)) := bx93.2 3 (by simp)
  have k290 : X267.cell? ⟨w49.heap.size, 4, none⟩ = some (Value.int .i64 (passF ⟨⟨x_aY0, x_aY1⟩, x_aY2, x_aY3, s_aY4⟩).1.passes) := bx93.2 4 (by simp)
  have k291 : X267.cell? ⟨w106.heap.size, 0, none⟩ = some ((Value.slice a122 m123 c124)) := bx165.2 0 (by simp)
  have k292 : X267.cell? ⟨w106.heap.size, 1, none⟩ = some ((Value.slice a125 m126 c127)) := bx165.2 1 (by simp)
  have k293 : X267.cell? ⟨w106.heap.size, 2, none⟩ = some ((Value.slice a128 m129 c130)) := bx165.2 2 (by simp)
  have k294 : X267.cell? ⟨w106.heap.size, 3, none⟩ = some ((Value.slice a131 m132 c133)) := bx165.2 3 (by simp)
  have k295 : X267.cell? ⟨w106.heap.size, 4, none⟩ = some (Value.int .i64 s_aY4) := bx165.2 4 (by simp)
  have k296 : X267.cell? ⟨w188.heap.size, 0, none⟩ = some ((Value.slice a208 m209 c210)) := bx280.2 0 (by simp)
  have k297 : X267.cell? ⟨w188.heap.size, 1, none⟩ = some ((Value.slice a211 m212 c213)) := bx280.2 1 (by simp)
  have k298 : X267.cell? ⟨w188.heap.size, 2, none⟩ = some ((Value.slice a214 m215 c216)) := bx280.2 2 (by simp)
  have k299 : X267.cell? ⟨w188.heap.size, 3, none⟩ = some ((Value.slice a217 m218 c219)) := bx280.2 3 (by simp)
  have k300 : X267.cell? ⟨w188.heap.size, 4, none⟩ = some (Value.int .i64 (passF ⟨⟨x_aY0, x_aY1⟩, x_aY2, x_aY3, s_aY4⟩).1.passes) := bx280.2 4 (by simp)
  go_wp2_with fail
  clear k252 k253 k254 k255 k256 k257 k258 k259 k260 k261 k262 k263 k264 k265 k266 k281 k282 k283 k284 k285 k286 k287 k288 k289 k290 k291 k292 k293 k294 k295 k296 k297 k298 k299 k300 hX268
  refine (eqYard_c _ _ _ _ _ _ _ _ _ _ _ _ _ _ (Flat.of_owns o191) (Flat.of_owns o194) (Flat.of_owns o197) (Flat.of_owns o200) (FlatB.flat (FlatB.below o52 s279) s279.size) (FlatB.flat (FlatB.below o55 s279) s279.size) (FlatB.flat (FlatB.below o58 s279) s279.size) (FlatB.flat (FlatB.below o61 s279) s279.size)).mono ?_
  rintro e w301 ⟨rfl, b302⟩
  have t303 := Below.trans t278 (Below.mono b302 t278.size)
  have s304 := Below.trans s279 (Below.mono b302 s279.size)
  replace o112 := owns_below o112 b302
  replace o113 := owns_below o113 b302
  replace o114 := owns_below o114 b302
  replace o115 := owns_below o115 b302
  replace o191 := owns_below o191 b302
  replace o194 := owns_below o194 b302
  replace o197 := owns_below o197 b302
  replace o200 := owns_below o200 b302
  replace bx_aY := Box.below bx_aY b302
  replace bx93 := Box.below bx93 b302
  replace bx165 := Box.below bx165 b302
  replace bx280 := Box.below bx280 b302
  have k305 : w301.cell? ⟨w.heap.size, 0, none⟩ = some (Value.slice ad_aY0 x_aY0.length cap_aY0) := bx_aY.2 0 (by simp)
  have k306 : w301.cell? ⟨w.heap.size, 1, none⟩ = some (Value.slice ad_aY1 x_aY1.length cap_aY1) := bx_aY.2 1 (by simp)
  have k307 : w301.cell? ⟨w.heap.size, 2, none⟩ = some (Value.slice ad_aY2 x_aY2.length cap_aY2) := bx_aY.2 2 (by simp)
  have k308 : w301.cell? ⟨w.heap.size, 3, none⟩ = some (Value.slice ad_aY3 x_aY3.length cap_aY3) := bx_aY.2 3 (by simp)
  have k309 : w301.cell? ⟨w.heap.size, 4, none⟩ = some (Value.int .i64 s_aY4) := bx_aY.2 4 (by simp)
  have k310 : w301.cell? ⟨w49.heap.size, 0, none⟩ = some ((Value.slice a69 m70 c71)) := bx93.2 0 (by simp)
  have k311 : w301.cell? ⟨w49.heap.size, 1, none⟩ = some ((Value.slice a72 m73 c74)) := bx93.2 1 (by simp)
  have k312 : w301.cell? ⟨w49.heap.size, 2, none⟩ = some ((Value.slice a75 m76 c77)) := bx93.2 2 (by simp)
  have k313 : w301.cell? ⟨w49.heap.size, 3, none⟩ = some ((Value.slice a78 m79 c80)) := bx93.2 3 (by simp)
  have k314 : w301.cell? ⟨w49.heap.size, 4, none⟩ = some (Value.int .i64 (passF ⟨⟨x_aY0, x_aY1⟩, x_aY2, x_aY3, s_aY4⟩).1.passes) := bx93.2 4 (by simp)
  have k315 : w301.cell? ⟨w106.heap.size, 0, none⟩ = some ((Value.slice a122 m123 c124)) := bx165.2 0 (by simp)
  have k316 : w301.cell? ⟨w106.heap.size, 1, none⟩ = some ((Value.slice a125 m126 c127)) := bx165.2 1 (by simp)
  have k317 : w301.cell? ⟨w106.heap.size, 2, none⟩ = some ((Value.slice a128 m129 c130)) := bx165.2 2 (by simp)
  have k318 : w301.cell? ⟨w106.heap.size, 3, none⟩ = some ((Value.slice a131 m132 c133)) := bx165.2 3 (by simp)
  have k319 : w301.cell? ⟨w106.heap.size, 4, none⟩ = some (Value.int .i64 s_aY4) := bx165.2 4 (by simp)
  have k320 : w301.cell? ⟨w188.heap.size, 0, none⟩ = some ((Value.slice a208 m209 c210)) := bx280.2 0 (by simp)
  have k321 : w301.cell? ⟨w188.heap.size, 1, none⟩ = some ((Value.slice a211 m212 c213)) := bx280.2 1 (by simp)
  have k322 : w301.cell? ⟨w188.heap.size, 2, none⟩ = some ((Value.slice a214 m215 c216)) := bx280.2 2 (by simp)
  have k323 : w301.cell? ⟨w188.heap.size, 3, none⟩ = some ((Value.slice a217 m218 c219)) := bx280.2 3 (by simp)
  have k324 : w301.cell? ⟨w188.heap.size, 4, none⟩ = some (Value.int .i64 (passF ⟨⟨x_aY0, x_aY1⟩, x_aY2, x_aY3, s_aY4⟩).1.passes) := bx280.2 4 (by simp)
  go_wp2_with fail
  clear k305 k306 k307 k308 k309 k310 k311 k312 k313 k314 k315 k316 k317 k318 k319 k320 k321 k322 k323 k324
  have lt347 := (bx_aY).1
  have lt348 := (bx93).1
  have lt349 := (bx165).1
  have lt350 := (bx280).1
  have k351 : w301.cell? ⟨w.heap.size, 0, none⟩ = some (Value.slice ad_aY0 x_aY0.length cap_aY0) := bx_aY.2 0 (by simp)
  have k352 : w301.cell? ⟨w.heap.size, 1, none⟩ = some (Value.slice ad_aY1 x_aY1.length cap_aY1) := bx_aY.2 1 (by simp)
  have k353 : w301.cell? ⟨w.heap.size, 2, none⟩ = some (Value.slice ad_aY2 x_aY2.length cap_aY2) := bx_aY.2 2 (by simp)
  have k354 : w301.cell? ⟨w.heap.size, 3, none⟩ = some (Value.slice ad_aY3 x_aY3.length cap_aY3) := bx_aY.2 3 (by simp)
  have k355 : w301.cell? ⟨w.heap.size, 4, none⟩ = some (Value.int .i64 s_aY4) := bx_aY.2 4 (by simp)
  have k356 : w301.cell? ⟨w49.heap.size, 0, none⟩ = some ((Value.slice a69 m70 c71)) := bx93.2 0 (by simp)
  have k357 : w301.cell? ⟨w49.heap.size, 1, none⟩ = some ((Value.slice a72 m73 c74)) := bx93.2 1 (by simp)
  have k358 : w301.cell? ⟨w49.heap.size, 2, none⟩ = some ((Value.slice a75 m76 c77)) := bx93.2 2 (by simp)
  have k359 : w301.cell? ⟨w49.heap.size, 3, none⟩ = some ((Value.slice a78 m79 c80)) := bx93.2 3 (by simp)
  have k360 : w301.cell? ⟨w49.heap.size, 4, none⟩ = some (Value.int .i64 (passF ⟨⟨x_aY0, x_aY1⟩, x_aY2, x_aY3, s_aY4⟩).1.passes) := bx93.2 4 (by simp)
  have k361 : w301.cell? ⟨w106.heap.size, 0, none⟩ = some ((Value.slice a122 m123 c124)) := bx165.2 0 (by simp)
  have k362 : w301.cell? ⟨w106.heap.size, 1, none⟩ = some ((Value.slice a125 m126 c127)) := bx165.2 1 (by simp)
  have k363 : w301.cell? ⟨w106.heap.size, 2, none⟩ = some ((Value.slice a128 m129 c130)) := bx165.2 2 (by simp)
  have k364 : w301.cell? ⟨w106.heap.size, 3, none⟩ = some ((Value.slice a131 m132 c133)) := bx165.2 3 (by simp)
  have k365 : w301.cell? ⟨w106.heap.size, 4, none⟩ = some (Value.int .i64 s_aY4) := bx165.2 4 (by simp)
  have k366 : w301.cell? ⟨w188.heap.size, 0, none⟩ = some ((Value.slice a208 m209 c210)) := bx280.2 0 (by simp)
  have k367 : w301.cell? ⟨w188.heap.size, 1, none⟩ = some ((Value.slice a211 m212 c213)) := bx280.2 1 (by simp)
  have k368 : w301.cell? ⟨w188.heap.size, 2, none⟩ = some ((Value.slice a214 m215 c216)) := bx280.2 2 (by simp)
  have k369 : w301.cell? ⟨w188.heap.size, 3, none⟩ = some ((Value.slice a217 m218 c219)) := bx280.2 3 (by simp)
  have k370 : w301.cell? ⟨w188.heap.size, 4, none⟩ = some (Value.int .i64 (passF ⟨⟨x_aY0, x_aY1⟩, x_aY2, x_aY3, s_aY4⟩).1.passes) := bx280.2 4 (by simp)
  go_region_held3 (fun w' => Below w301.heap.size w301 w' ∧ w301.heap.size ≤ w'.heap.size ∧ w'.cell? ⟨w.heap.size, 0, none⟩ = some (Value.slice ad_aY0 x_aY0.length cap_aY0) ∧ w'.cell? ⟨w.heap.size, 1, none⟩ = some (Value.slice ad_aY1 x_aY1.length cap_aY1) ∧ w'.cell? ⟨w.heap.size, 2, none⟩ = some (Value.slice ad_aY2 x_aY2.length cap_aY2) ∧ w'.cell? ⟨w.heap.size, 3, none⟩ = some (Value.slice ad_aY3 x_aY3.length cap_aY3) ∧ w'.cell? ⟨w.heap.size, 4, none⟩ = some (Value.int .i64 s_aY4) ∧ w'.cell? ⟨w49.heap.size, 0, none⟩ = some ((Value.slice a69 m70 c71)) ∧ w'.cell? ⟨w49.heap.size, 1, none⟩ = some ((Value.slice a72 m73 c74)) ∧ w'.cell? ⟨w49.heap.size, 2, none⟩ = some ((Value.slice a75 m76 c77)) ∧ w'.cell? ⟨w49.heap.size, 3, none⟩ = some ((Value.slice a78 m79 c80)) ∧ w'.cell? ⟨w49.heap.size, 4, none⟩ = some (Value.int .i64 (passF ⟨⟨x_aY0, x_aY1⟩, x_aY2, x_aY3, s_aY4⟩).1.passes) ∧ w'.cell? ⟨w106.heap.size, 0, none⟩ = some ((Value.slice a122 m123 c124)) ∧ w'.cell? ⟨w106.heap.size, 1, none⟩ = some ((Value.slice a125 m126 c127)) ∧ w'.cell? ⟨w106.heap.size, 2, none⟩ = some ((Value.slice a128 m129 c130)) ∧ w'.cell? ⟨w106.heap.size, 3, none⟩ = some ((Value.slice a131 m132 c133)) ∧ w'.cell? ⟨w106.heap.size, 4, none⟩ = some (Value.int .i64 s_aY4) ∧ w'.cell? ⟨w188.heap.size, 0, none⟩ = some ((Value.slice a208 m209 c210)) ∧ w'.cell? ⟨w188.heap.size, 1, none⟩ = some ((Value.slice a211 m212 c213)) ∧ w'.cell? ⟨w188.heap.size, 2, none⟩ = some ((Value.slice a214 m215 c216)) ∧ w'.cell? ⟨w188.heap.size, 3, none⟩ = some ((Value.slice a217 m218 c219)) ∧ w'.cell? ⟨w188.heap.size, 4, none⟩ = some (Value.int .i64 (passF ⟨⟨x_aY0, x_aY1⟩, x_aY2, x_aY3, s_aY4⟩).1.passes))
    (first | exact ⟨(Below.refl _ _).drew, Nat.le_refl _, k351, k352, k353, k354, k355, k356, k357, k358, k359, k360, k361, k362, k363, k364, k365, k366, k367, k368, k369, k370⟩ | exact keepBox20 (by omega) ‹_› ‹_›)
    (first
    | (go_at_call 21; refine (toYard_c _ x_aY0 _ x_aY1 _ x_aY2 _ x_aY3 s_aY4 _ hx_aY0 hx_aY1 hx_aY2 hx_aY3 (Flat.below (FlatB.flat (FlatB.below h_aY0 t303) t303.size) (by first | exact (Below.refl _ _).drew | exact And.left ‹_›)) (Flat.below (FlatB.flat (FlatB.below h_aY1 t303) t303.size) (by first | exact (Below.refl _ _).drew | exact And.left ‹_›)) (Flat.below (FlatB.flat (FlatB.below h_aY2 t303) t303.size) (by first | exact (Below.refl _ _).drew | exact And.left ‹_›)) (Flat.below (FlatB.flat (FlatB.below h_aY3 t303) t303.size) (by first | exact (Below.refl _ _).drew | exact And.left ‹_›))).mono ?_; rintro e w325 ⟨v327, v328, v329, v330, rfl, o331, o332, o333, o334, ap335, ap336, ap337, ap338, ap339, ap340, b326⟩)
    | (go_at_call 23; refine (eqYard_c _ _ _ _ _ _ _ _ _ _ _ _ _ _ (Flat.below (Flat.below (Flat.of_owns o112) ((Below.refl _ _).drew : Below w301.heap.size w301 w301.drew)) b326) (Flat.below (Flat.below (Flat.of_owns o113) ((Below.refl _ _).drew : Below w301.heap.size w301 w301.drew)) b326) (Flat.below (Flat.below (Flat.of_owns o114) ((Below.refl _ _).drew : Below w301.heap.size w301 w301.drew)) b326) (Flat.below (Flat.below (Flat.of_owns o115) ((Below.refl _ _).drew : Below w301.heap.size w301 w301.drew)) b326) (Flat.of_owns o331) (Flat.of_owns o332) (Flat.of_owns o333) (Flat.of_owns o334)).mono ?_; rintro e w341 ⟨rfl, b342⟩))
  clear k351 k352 k353 k354 k355 k356 k357 k358 k359 k360 k361 k362 k363 k364 k365 k366 k367 k368 k369 k370
  have d371 : Below w301.heap.size w301 w301.drew := (Below.refl _ _).drew
  have t372 := Below.trans t303 (Below.mono d371 t303.size)
  have s373 := Below.trans s304 (Below.mono d371 s304.size)
  replace o112 := owns_below o112 d371
  replace o113 := owns_below o113 d371
  replace o114 := owns_below o114 d371
  replace o115 := owns_below o115 d371
  replace o191 := owns_below o191 d371
  replace o194 := owns_below o194 d371
  replace o197 := owns_below o197 d371
  replace o200 := owns_below o200 d371
  replace bx_aY := Box.below bx_aY d371
  replace bx93 := Box.below bx93 d371
  replace bx165 := Box.below bx165 d371
  replace bx280 := Box.below bx280 d371
  have t374 := Below.trans t372 (Below.mono b326 t372.size)
  have s375 := Below.trans s373 (Below.mono b326 s373.size)
  replace o112 := owns_below o112 b326
  replace o113 := owns_below o113 b326
  replace o114 := owns_below o114 b326
  replace o115 := owns_below o115 b326
  replace o191 := owns_below o191 b326
  replace o194 := owns_below o194 b326
  replace o197 := owns_below o197 b326
  replace o200 := owns_below o200 b326
  replace bx_aY := Box.below bx_aY b326
  replace bx93 := Box.below bx93 b326
  replace bx165 := Box.below bx165 b326
  replace bx280 := Box.below bx280 b326
  have t376 := Below.trans t374 (Below.mono b342 t374.size)
  have s377 := Below.trans s375 (Below.mono b342 s375.size)
  replace o112 := owns_below o112 b342
  replace o113 := owns_below o113 b342
  replace o114 := owns_below o114 b342
  replace o115 := owns_below o115 b342
  replace o191 := owns_below o191 b342
  replace o194 := owns_below o194 b342
  replace o197 := owns_below o197 b342
  replace o200 := owns_below o200 b342
  replace bx_aY := Box.below bx_aY b342
  replace bx93 := Box.below bx93 b342
  replace bx165 := Box.below bx165 b342
  replace bx280 := Box.below bx280 b342
  have k378 : w341.cell? ⟨w.heap.size, 0, none⟩ = some (Value.slice ad_aY0 x_aY0.length cap_aY0) := bx_aY.2 0 (by simp)
  have k379 : w341.cell? ⟨w.heap.size, 1, none⟩ = some (Value.slice ad_aY1 x_aY1.length cap_aY1) := bx_aY.2 1 (by simp)
  have k380 : w341.cell? ⟨w.heap.size, 2, none⟩ = some (Value.slice ad_aY2 x_aY2.length cap_aY2) := bx_aY.2 2 (by simp)
  have k381 : w341.cell? ⟨w.heap.size, 3, none⟩ = some (Value.slice ad_aY3 x_aY3.length cap_aY3) := bx_aY.2 3 (by simp)
  have k382 : w341.cell? ⟨w.heap.size, 4, none⟩ = some (Value.int .i64 s_aY4) := bx_aY.2 4 (by simp)
  have k383 : w341.cell? ⟨w49.heap.size, 0, none⟩ = some ((Value.slice a69 m70 c71)) := bx93.2 0 (by simp)
  have k384 : w341.cell? ⟨w49.heap.size, 1, none⟩ = some ((Value.slice a72 m73 c74)) := bx93.2 1 (by simp)
  have k385 : w341.cell? ⟨w49.heap.size, 2, none⟩ = some ((Value.slice a75 m76 c77)) := bx93.2 2 (by simp)
  have k386 : w341.cell? ⟨w49.heap.size, 3, none⟩ = some ((Value.slice a78 m79 c80)) := bx93.2 3 (by simp)
  have k387 : w341.cell? ⟨w49.heap.size, 4, none⟩ = some (Value.int .i64 (passF ⟨⟨x_aY0, x_aY1⟩, x_aY2, x_aY3, s_aY4⟩).1.passes) := bx93.2 4 (by simp)
  have k388 : w341.cell? ⟨w106.heap.size, 0, none⟩ = some ((Value.slice a122 m123 c124)) := bx165.2 0 (by simp)
  have k389 : w341.cell? ⟨w106.heap.size, 1, none⟩ = some ((Value.slice a125 m126 c127)) := bx165.2 1 (by simp)
  have k390 : w341.cell? ⟨w106.heap.size, 2, none⟩ = some ((Value.slice a128 m129 c130)) := bx165.2 2 (by simp)
  have k391 : w341.cell? ⟨w106.heap.size, 3, none⟩ = some ((Value.slice a131 m132 c133)) := bx165.2 3 (by simp)
  have k392 : w341.cell? ⟨w106.heap.size, 4, none⟩ = some (Value.int .i64 s_aY4) := bx165.2 4 (by simp)
  have k393 : w341.cell? ⟨w188.heap.size, 0, none⟩ = some ((Value.slice a208 m209 c210)) := bx280.2 0 (by simp)
  have k394 : w341.cell? ⟨w188.heap.size, 1, none⟩ = some ((Value.slice a211 m212 c213)) := bx280.2 1 (by simp)
  have k395 : w341.cell? ⟨w188.heap.size, 2, none⟩ = some ((Value.slice a214 m215 c216)) := bx280.2 2 (by simp)
  have k396 : w341.cell? ⟨w188.heap.size, 3, none⟩ = some ((Value.slice a217 m218 c219)) := bx280.2 3 (by simp)
  have k397 : w341.cell? ⟨w188.heap.size, 4, none⟩ = some (Value.int .i64 (passF ⟨⟨x_aY0, x_aY1⟩, x_aY2, x_aY3, s_aY4⟩).1.passes) := bx280.2 4 (by simp)
  go_wp2_with fail
  clear k378 k379 k380 k381 k382 k383 k384 k385 k386 k387 k388 k389 k390 k391 k392 k393 k394 k395 k396 k397
  refine (markYard_c _ _ _ _ _ _ _ _ _ _ _ _ _ _ _ _ (by omega) (by omega) (by omega) (by omega) (by omega) (by omega) o112 o113 o114 o115 ⟨ap116.1, ap116.2⟩ ⟨ap117.1, ap117.2⟩ ⟨ap118.1, ap118.2⟩ ⟨ap119.1, ap119.2⟩ ⟨ap120.1, ap120.2⟩ ⟨ap121.1, ap121.2⟩).mono ?_
  rintro e w398 ⟨z407, z408, z409, rfl, o403, o404, o405, o406, g399, g400, g401, g402⟩
  have t410 := Below.trans t376 (below_of_mark2 o112 g399 tb136 (Below.size t376))
  have s411 := Below.trans s377 (below_of_mark2 o112 g399 hb137 (Below.size s377))
  replace o191 := World.ownsRow.kept o191 g399 ap224.2
  replace o194 := World.ownsRow.kept o194 g399 ap231.2
  replace o197 := World.ownsRow.kept o197 g399 ap238.2
  replace o200 := World.ownsRow.kept o200 g399 ap245.2
  replace bx_aY := Box.grown bx_aY g399 ne138
  replace bx93 := Box.grown bx93 g399 ne139
  replace bx165 := Box.grown bx165 g399 ne159
  replace bx280 := Box.grown bx280 g399 ne270
  have t412 := Below.trans t410 (below_of_mark2 o113 g400 tb136 (Below.size t410))
  have s413 := Below.trans s411 (below_of_mark2 o113 g400 hb137 (Below.size s411))
  replace o191 := World.ownsRow.kept o191 g400 ap225.2
  replace o194 := World.ownsRow.kept o194 g400 ap232.2
  replace o197 := World.ownsRow.kept o197 g400 ap239.2
  replace o200 := World.ownsRow.kept o200 g400 ap246.2
  replace bx_aY := Box.grown bx_aY g400 ne140
  replace bx93 := Box.grown bx93 g400 ne141
  replace bx165 := Box.grown bx165 g400 ne160
  replace bx280 := Box.grown bx280 g400 ne271
  have t414 := Below.trans t412 (below_of_mark2 o114 g401 tb136 (Below.size t412))
  have s415 := Below.trans s413 (below_of_mark2 o114 g401 hb137 (Below.size s413))
  replace o191 := World.ownsRow.kept o191 g401 ap226.2
  replace o194 := World.ownsRow.kept o194 g401 ap233.2
  replace o197 := World.ownsRow.kept o197 g401 ap240.2
  replace o200 := World.ownsRow.kept o200 g401 ap247.2
  replace bx_aY := Box.grown bx_aY g401 ne142
  replace bx93 := Box.grown bx93 g401 ne143
  replace bx165 := Box.grown bx165 g401 ne161
  replace bx280 := Box.grown bx280 g401 ne272
  have t416 := Below.trans t414 (below_of_mark2 o115 g402 tb136 (Below.size t414))
  have s417 := Below.trans s415 (below_of_mark2 o115 g402 hb137 (Below.size s415))
  replace o191 := World.ownsRow.kept o191 g402 ap227.2
  replace o194 := World.ownsRow.kept o194 g402 ap234.2
  replace o197 := World.ownsRow.kept o197 g402 ap241.2
  replace o200 := World.ownsRow.kept o200 g402 ap248.2
  replace bx_aY := Box.grown bx_aY g402 ne144
  replace bx93 := Box.grown bx93 g402 ne145
  replace bx165 := Box.grown bx165 g402 ne162
  replace bx280 := Box.grown bx280 g402 ne273
  have k418 : w398.cell? ⟨w.heap.size, 0, none⟩ = some (Value.slice ad_aY0 x_aY0.length cap_aY0) := bx_aY.2 0 (by simp)
  have k419 : w398.cell? ⟨w.heap.size, 1, none⟩ = some (Value.slice ad_aY1 x_aY1.length cap_aY1) := bx_aY.2 1 (by simp)
  have k420 : w398.cell? ⟨w.heap.size, 2, none⟩ = some (Value.slice ad_aY2 x_aY2.length cap_aY2) := bx_aY.2 2 (by simp)
  have k421 : w398.cell? ⟨w.heap.size, 3, none⟩ = some (Value.slice ad_aY3 x_aY3.length cap_aY3) := bx_aY.2 3 (by simp)
  have k422 : w398.cell? ⟨w.heap.size, 4, none⟩ = some (Value.int .i64 s_aY4) := bx_aY.2 4 (by simp)
  have k423 : w398.cell? ⟨w49.heap.size, 0, none⟩ = some ((Value.slice a69 m70 c71)) := bx93.2 0 (by simp)
  have k424 : w398.cell? ⟨w49.heap.size, 1, none⟩ = some ((Value.slice a72 m73 c74)) := bx93.2 1 (by simp)
  have k425 : w398.cell? ⟨w49.heap.size, 2, none⟩ = some ((Value.slice a75 m76 c77)) := bx93.2 2 (by simp)
  have k426 : w398.cell? ⟨w49.heap.size, 3, none⟩ = some ((Value.slice a78 m79 c80)) := bx93.2 3 (by simp)
  have k427 : w398.cell? ⟨w49.heap.size, 4, none⟩ = some (Value.int .i64 (passF ⟨⟨x_aY0, x_aY1⟩, x_aY2, x_aY3, s_aY4⟩).1.passes) := bx93.2 4 (by simp)
  have k428 : w398.cell? ⟨w106.heap.size, 0, none⟩ = some ((Value.slice a122 m123 c124)) := bx165.2 0 (by simp)
  have k429 : w398.cell? ⟨w106.heap.size, 1, none⟩ = some ((Value.slice a125 m126 c127)) := bx165.2 1 (by simp)
  have k430 : w398.cell? ⟨w106.heap.size, 2, none⟩ = some ((Value.slice a128 m129 c130)) := bx165.2 2 (by simp)
  have k431 : w398.cell? ⟨w106.heap.size, 3, none⟩ = some ((Value.slice a131 m132 c133)) := bx165.2 3 (by simp)
  have k432 : w398.cell? ⟨w106.heap.size, 4, none⟩ = some (Value.int .i64 s_aY4) := bx165.2 4 (by simp)
  have k433 : w398.cell? ⟨w188.heap.size, 0, none⟩ = some ((Value.slice a208 m209 c210)) := bx280.2 0 (by simp)
  have k434 : w398.cell? ⟨w188.heap.size, 1, none⟩ = some ((Value.slice a211 m212 c213)) := bx280.2 1 (by simp)
  have k435 : w398.cell? ⟨w188.heap.size, 2, none⟩ = some ((Value.slice a214 m215 c216)) := bx280.2 2 (by simp)
  have k436 : w398.cell? ⟨w188.heap.size, 3, none⟩ = some ((Value.slice a217 m218 c219)) := bx280.2 3 (by simp)
  have k437 : w398.cell? ⟨w188.heap.size, 4, none⟩ = some (Value.int .i64 (passF ⟨⟨x_aY0, x_aY1⟩, x_aY2, x_aY3, s_aY4⟩).1.passes) := bx280.2 4 (by simp)
  go_wp2_with fail
  clear k418 k419 k420 k421 k422 k423 k424 k425 k426 k427 k428 k429 k430 k431 k432 k433 k434 k435 k436 k437
  refine (eqYard_c _ _ _ _ _ _ _ _ _ _ _ _ _ _ (Flat.of_owns o191) (Flat.of_owns o194) (Flat.of_owns o197) (Flat.of_owns o200) (FlatB.flat (FlatB.below o52 s417) s417.size) (FlatB.flat (FlatB.below o55 s417) s417.size) (FlatB.flat (FlatB.below o58 s417) s417.size) (FlatB.flat (FlatB.below o61 s417) s417.size)).mono ?_
  rintro e w438 ⟨rfl, b439⟩
  have t440 := Below.trans t416 (Below.mono b439 t416.size)
  have s441 := Below.trans s417 (Below.mono b439 s417.size)
  replace o403 := owns_below o403 b439
  replace o404 := owns_below o404 b439
  replace o405 := owns_below o405 b439
  replace o406 := owns_below o406 b439
  replace o191 := owns_below o191 b439
  replace o194 := owns_below o194 b439
  replace o197 := owns_below o197 b439
  replace o200 := owns_below o200 b439
  replace bx_aY := Box.below bx_aY b439
  replace bx93 := Box.below bx93 b439
  replace bx165 := Box.below bx165 b439
  replace bx280 := Box.below bx280 b439
  have k442 : w438.cell? ⟨w.heap.size, 0, none⟩ = some (Value.slice ad_aY0 x_aY0.length cap_aY0) := bx_aY.2 0 (by simp)
  have k443 : w438.cell? ⟨w.heap.size, 1, none⟩ = some (Value.slice ad_aY1 x_aY1.length cap_aY1) := bx_aY.2 1 (by simp)
  have k444 : w438.cell? ⟨w.heap.size, 2, none⟩ = some (Value.slice ad_aY2 x_aY2.length cap_aY2) := bx_aY.2 2 (by simp)
  have k445 : w438.cell? ⟨w.heap.size, 3, none⟩ = some (Value.slice ad_aY3 x_aY3.length cap_aY3) := bx_aY.2 3 (by simp)
  have k446 : w438.cell? ⟨w.heap.size, 4, none⟩ = some (Value.int .i64 s_aY4) := bx_aY.2 4 (by simp)
  have k447 : w438.cell? ⟨w49.heap.size, 0, none⟩ = some ((Value.slice a69 m70 c71)) := bx93.2 0 (by simp)
  have k448 : w438.cell? ⟨w49.heap.size, 1, none⟩ = some ((Value.slice a72 m73 c74)) := bx93.2 1 (by simp)
  have k449 : w438.cell? ⟨w49.heap.size, 2, none⟩ = some ((Value.slice a75 m76 c77)) := bx93.2 2 (by simp)
  have k450 : w438.cell? ⟨w49.heap.size, 3, none⟩ = some ((Value.slice a78 m79 c80)) := bx93.2 3 (by simp)
  have k451 : w438.cell? ⟨w49.heap.size, 4, none⟩ = some (Value.int .i64 (passF ⟨⟨x_aY0, x_aY1⟩, x_aY2, x_aY3, s_aY4⟩).1.passes) := bx93.2 4 (by simp)
  have k452 : w438.cell? ⟨w106.heap.size, 0, none⟩ = some ((Value.slice a122 m123 c124)) := bx165.2 0 (by simp)
  have k453 : w438.cell? ⟨w106.heap.size, 1, none⟩ = some ((Value.slice a125 m126 c127)) := bx165.2 1 (by simp)
  have k454 : w438.cell? ⟨w106.heap.size, 2, none⟩ = some ((Value.slice a128 m129 c130)) := bx165.2 2 (by simp)
  have k455 : w438.cell? ⟨w106.heap.size, 3, none⟩ = some ((Value.slice a131 m132 c133)) := bx165.2 3 (by simp)
  have k456 : w438.cell? ⟨w106.heap.size, 4, none⟩ = some (Value.int .i64 s_aY4) := bx165.2 4 (by simp)
  have k457 : w438.cell? ⟨w188.heap.size, 0, none⟩ = some ((Value.slice a208 m209 c210)) := bx280.2 0 (by simp)
  have k458 : w438.cell? ⟨w188.heap.size, 1, none⟩ = some ((Value.slice a211 m212 c213)) := bx280.2 1 (by simp)
  have k459 : w438.cell? ⟨w188.heap.size, 2, none⟩ = some ((Value.slice a214 m215 c216)) := bx280.2 2 (by simp)
  have k460 : w438.cell? ⟨w188.heap.size, 3, none⟩ = some ((Value.slice a217 m218 c219)) := bx280.2 3 (by simp)
  have k461 : w438.cell? ⟨w188.heap.size, 4, none⟩ = some (Value.int .i64 (passF ⟨⟨x_aY0, x_aY1⟩, x_aY2, x_aY3, s_aY4⟩).1.passes) := bx280.2 4 (by simp)
  go_wp2_with fail
  clear k442 k443 k444 k445 k446 k447 k448 k449 k450 k451 k452 k453 k454 k455 k456 k457 k458 k459 k460 k461
  refine (markYard_c _ _ _ _ _ _ _ _ _ _ _ _ _ _ _ _ (by omega) (by omega) (by omega) (by omega) (by omega) (by omega) o191 o194 o197 o200 ⟨ap202.1, ap202.2⟩ ⟨ap203.1, ap203.2⟩ ⟨ap204.1, ap204.2⟩ ⟨ap205.1, ap205.2⟩ ⟨ap206.1, ap206.2⟩ ⟨ap207.1, ap207.2⟩).mono ?_
  rintro e w462 ⟨z471, z472, z473, rfl, o467, o468, o469, o470, g463, g464, g465, g466⟩
  have t474 := Below.trans t440 (below_of_mark2 o191 g463 tb222 (Below.size t440))
  have s475 := Below.trans s441 (below_of_mark2 o191 g463 hb223 (Below.size s441))
  replace o403 := World.ownsRow.kept o403 g463 ap224.1
  replace o404 := World.ownsRow.kept o404 g463 ap225.1
  replace o405 := World.ownsRow.kept o405 g463 ap226.1
  replace o406 := World.ownsRow.kept o406 g463 ap227.1
  replace bx_aY := Box.grown bx_aY g463 ne228
  replace bx93 := Box.grown bx93 g463 ne229
  replace bx165 := Box.grown bx165 g463 ne230
  replace bx280 := Box.grown bx280 g463 ne274
  have t476 := Below.trans t474 (below_of_mark2 o194 g464 tb222 (Below.size t474))
  have s477 := Below.trans s475 (below_of_mark2 o194 g464 hb223 (Below.size s475))
  replace o403 := World.ownsRow.kept o403 g464 ap231.1
  replace o404 := World.ownsRow.kept o404 g464 ap232.1
  replace o405 := World.ownsRow.kept o405 g464 ap233.1
  replace o406 := World.ownsRow.kept o406 g464 ap234.1
  replace bx_aY := Box.grown bx_aY g464 ne235
  replace bx93 := Box.grown bx93 g464 ne236
  replace bx165 := Box.grown bx165 g464 ne237
  replace bx280 := Box.grown bx280 g464 ne275
  have t478 := Below.trans t476 (below_of_mark2 o197 g465 tb222 (Below.size t476))
  have s479 := Below.trans s477 (below_of_mark2 o197 g465 hb223 (Below.size s477))
  replace o403 := World.ownsRow.kept o403 g465 ap238.1
  replace o404 := World.ownsRow.kept o404 g465 ap239.1
  replace o405 := World.ownsRow.kept o405 g465 ap240.1
  replace o406 := World.ownsRow.kept o406 g465 ap241.1
  replace bx_aY := Box.grown bx_aY g465 ne242
  replace bx93 := Box.grown bx93 g465 ne243
  replace bx165 := Box.grown bx165 g465 ne244
  replace bx280 := Box.grown bx280 g465 ne276
  have t480 := Below.trans t478 (below_of_mark2 o200 g466 tb222 (Below.size t478))
  have s481 := Below.trans s479 (below_of_mark2 o200 g466 hb223 (Below.size s479))
  replace o403 := World.ownsRow.kept o403 g466 ap245.1
  replace o404 := World.ownsRow.kept o404 g466 ap246.1
  replace o405 := World.ownsRow.kept o405 g466 ap247.1
  replace o406 := World.ownsRow.kept o406 g466 ap248.1
  replace bx_aY := Box.grown bx_aY g466 ne249
  replace bx93 := Box.grown bx93 g466 ne250
  replace bx165 := Box.grown bx165 g466 ne251
  replace bx280 := Box.grown bx280 g466 ne277
  have k482 : w462.cell? ⟨w.heap.size, 0, none⟩ = some (Value.slice ad_aY0 x_aY0.length cap_aY0) := bx_aY.2 0 (by simp)
  have k483 : w462.cell? ⟨w.heap.size, 1, none⟩ = some (Value.slice ad_aY1 x_aY1.length cap_aY1) := bx_aY.2 1 (by simp)
  have k484 : w462.cell? ⟨w.heap.size, 2, none⟩ = some (Value.slice ad_aY2 x_aY2.length cap_aY2) := bx_aY.2 2 (by simp)
  have k485 : w462.cell? ⟨w.heap.size, 3, none⟩ = some (Value.slice ad_aY3 x_aY3.length cap_aY3) := bx_aY.2 3 (by simp)
  have k486 : w462.cell? ⟨w.heap.size, 4, none⟩ = some (Value.int .i64 s_aY4) := bx_aY.2 4 (by simp)
  have k487 : w462.cell? ⟨w49.heap.size, 0, none⟩ = some ((Value.slice a69 m70 c71)) := bx93.2 0 (by simp)
  have k488 : w462.cell? ⟨w49.heap.size, 1, none⟩ = some ((Value.slice a72 m73 c74)) := bx93.2 1 (by simp)
  have k489 : w462.cell? ⟨w49.heap.size, 2, none⟩ = some ((Value.slice a75 m76 c77)) := bx93.2 2 (by simp)
  have k490 : w462.cell? ⟨w49.heap.size, 3, none⟩ = some ((Value.slice a78 m79 c80)) := bx93.2 3 (by simp)
  have k491 : w462.cell? ⟨w49.heap.size, 4, none⟩ = some (Value.int .i64 (passF ⟨⟨x_aY0, x_aY1⟩, x_aY2, x_aY3, s_aY4⟩).1.passes) := bx93.2 4 (by simp)
  have k492 : w462.cell? ⟨w106.heap.size, 0, none⟩ = some ((Value.slice a122 m123 c124)) := bx165.2 0 (by simp)
  have k493 : w462.cell? ⟨w106.heap.size, 1, none⟩ = some ((Value.slice a125 m126 c127)) := bx165.2 1 (by simp)
  have k494 : w462.cell? ⟨w106.heap.size, 2, none⟩ = some ((Value.slice a128 m129 c130)) := bx165.2 2 (by simp)
  have k495 : w462.cell? ⟨w106.heap.size, 3, none⟩ = some ((Value.slice a131 m132 c133)) := bx165.2 3 (by simp)
  have k496 : w462.cell? ⟨w106.heap.size, 4, none⟩ = some (Value.int .i64 s_aY4) := bx165.2 4 (by simp)
  have k497 : w462.cell? ⟨w188.heap.size, 0, none⟩ = some ((Value.slice a208 m209 c210)) := bx280.2 0 (by simp)
  have k498 : w462.cell? ⟨w188.heap.size, 1, none⟩ = some ((Value.slice a211 m212 c213)) := bx280.2 1 (by simp)
  have k499 : w462.cell? ⟨w188.heap.size, 2, none⟩ = some ((Value.slice a214 m215 c216)) := bx280.2 2 (by simp)
  have k500 : w462.cell? ⟨w188.heap.size, 3, none⟩ = some ((Value.slice a217 m218 c219)) := bx280.2 3 (by simp)
  have k501 : w462.cell? ⟨w188.heap.size, 4, none⟩ = some (Value.int .i64 (passF ⟨⟨x_aY0, x_aY1⟩, x_aY2, x_aY3, s_aY4⟩).1.passes) := bx280.2 4 (by simp)
  go_wp2_with fail
  clear k482 k483 k484 k485 k486 k487 k488 k489 k490 k491 k492 k493 k494 k495 k496 k497 k498 k499 k500 k501
  refine (heldYard_c _ _ _ _ _ _ _ _ _ _ _ (by omega) (by omega) (by omega) (by omega) (by omega) (by omega) (Flat.of_owns o467) (Flat.of_owns o468) (Flat.of_owns o469) (Flat.of_owns o470)).mono ?_
  rintro e w502 ⟨rfl, b503⟩
  have t504 := Below.trans t480 (Below.mono b503 t480.size)
  have s505 := Below.trans s481 (Below.mono b503 s481.size)
  replace o403 := owns_below o403 b503
  replace o404 := owns_below o404 b503
  replace o405 := owns_below o405 b503
  replace o406 := owns_below o406 b503
  replace o467 := owns_below o467 b503
  replace o468 := owns_below o468 b503
  replace o469 := owns_below o469 b503
  replace o470 := owns_below o470 b503
  replace bx_aY := Box.below bx_aY b503
  replace bx93 := Box.below bx93 b503
  replace bx165 := Box.below bx165 b503
  replace bx280 := Box.below bx280 b503
  have k506 : w502.cell? ⟨w.heap.size, 0, none⟩ = some (Value.slice ad_aY0 x_aY0.length cap_aY0) := bx_aY.2 0 (by simp)
  have k507 : w502.cell? ⟨w.heap.size, 1, none⟩ = some (Value.slice ad_aY1 x_aY1.length cap_aY1) := bx_aY.2 1 (by simp)
  have k508 : w502.cell? ⟨w.heap.size, 2, none⟩ = some (Value.slice ad_aY2 x_aY2.length cap_aY2) := bx_aY.2 2 (by simp)
  have k509 : w502.cell? ⟨w.heap.size, 3, none⟩ = some (Value.slice ad_aY3 x_aY3.length cap_aY3) := bx_aY.2 3 (by simp)
  have k510 : w502.cell? ⟨w.heap.size, 4, none⟩ = some (Value.int .i64 s_aY4) := bx_aY.2 4 (by simp)
  have k511 : w502.cell? ⟨w49.heap.size, 0, none⟩ = some ((Value.slice a69 m70 c71)) := bx93.2 0 (by simp)
  have k512 : w502.cell? ⟨w49.heap.size, 1, none⟩ = some ((Value.slice a72 m73 c74)) := bx93.2 1 (by simp)
  have k513 : w502.cell? ⟨w49.heap.size, 2, none⟩ = some ((Value.slice a75 m76 c77)) := bx93.2 2 (by simp)
  have k514 : w502.cell? ⟨w49.heap.size, 3, none⟩ = some ((Value.slice a78 m79 c80)) := bx93.2 3 (by simp)
  have k515 : w502.cell? ⟨w49.heap.size, 4, none⟩ = some (Value.int .i64 (passF ⟨⟨x_aY0, x_aY1⟩, x_aY2, x_aY3, s_aY4⟩).1.passes) := bx93.2 4 (by simp)
  have k516 : w502.cell? ⟨w106.heap.size, 0, none⟩ = some ((Value.slice a122 m123 c124)) := bx165.2 0 (by simp)
  have k517 : w502.cell? ⟨w106.heap.size, 1, none⟩ = some ((Value.slice a125 m126 c127)) := bx165.2 1 (by simp)
  have k518 : w502.cell? ⟨w106.heap.size, 2, none⟩ = some ((Value.slice a128 m129 c130)) := bx165.2 2 (by simp)
  have k519 : w502.cell? ⟨w106.heap.size, 3, none⟩ = some ((Value.slice a131 m132 c133)) := bx165.2 3 (by simp)
  have k520 : w502.cell? ⟨w106.heap.size, 4, none⟩ = some (Value.int .i64 s_aY4) := bx165.2 4 (by simp)
  have k521 : w502.cell? ⟨w188.heap.size, 0, none⟩ = some ((Value.slice a208 m209 c210)) := bx280.2 0 (by simp)
  have k522 : w502.cell? ⟨w188.heap.size, 1, none⟩ = some ((Value.slice a211 m212 c213)) := bx280.2 1 (by simp)
  have k523 : w502.cell? ⟨w188.heap.size, 2, none⟩ = some ((Value.slice a214 m215 c216)) := bx280.2 2 (by simp)
  have k524 : w502.cell? ⟨w188.heap.size, 3, none⟩ = some ((Value.slice a217 m218 c219)) := bx280.2 3 (by simp)
  have k525 : w502.cell? ⟨w188.heap.size, 4, none⟩ = some (Value.int .i64 (passF ⟨⟨x_aY0, x_aY1⟩, x_aY2, x_aY3, s_aY4⟩).1.passes) := bx280.2 4 (by simp)
  go_wp2_with fail
  clear k506 k507 k508 k509 k510 k511 k512 k513 k514 k515 k516 k517 k518 k519 k520 k521 k522 k523 k524 k525
  refine (toYard_c _ x_aY0 _ x_aY1 _ x_aY2 _ x_aY3 s_aY4 _ hx_aY0 hx_aY1 hx_aY2 hx_aY3 (FlatB.flat (FlatB.below h_aY0 t504) t504.size) (FlatB.flat (FlatB.below h_aY1 t504) t504.size) (FlatB.flat (FlatB.below h_aY2 t504) t504.size) (FlatB.flat (FlatB.below h_aY3 t504) t504.size)).mono ?_
  rintro e w526 ⟨v528, v529, v530, v531, rfl, o532, o533, o534, o535, ap536, ap537, ap538, ap539, ap540, ap541, b527⟩
  obtain ⟨a542, m543, c544, rfl⟩ := owns_form3 o532
  obtain ⟨a545, m546, c547, rfl⟩ := owns_form3 o533
  obtain ⟨a548, m549, c550, rfl⟩ := owns_form3 o534
  obtain ⟨a551, m552, c553, rfl⟩ := owns_form3 o535
  have t554 := Below.trans t504 (Below.mono b527 t504.size)
  have s555 := Below.trans s505 (Below.mono b527 s505.size)
  replace o403 := owns_below o403 b527
  replace o404 := owns_below o404 b527
  replace o405 := owns_below o405 b527
  replace o406 := owns_below o406 b527
  replace o467 := owns_below o467 b527
  replace o468 := owns_below o468 b527
  replace o469 := owns_below o469 b527
  replace o470 := owns_below o470 b527
  replace bx_aY := Box.below bx_aY b527
  replace bx93 := Box.below bx93 b527
  replace bx165 := Box.below bx165 b527
  replace bx280 := Box.below bx280 b527
  have k556 : w526.cell? ⟨w.heap.size, 0, none⟩ = some (Value.slice ad_aY0 x_aY0.length cap_aY0) := bx_aY.2 0 (by simp)
  have k557 : w526.cell? ⟨w.heap.size, 1, none⟩ = some (Value.slice ad_aY1 x_aY1.length cap_aY1) := bx_aY.2 1 (by simp)
  have k558 : w526.cell? ⟨w.heap.size, 2, none⟩ = some (Value.slice ad_aY2 x_aY2.length cap_aY2) := bx_aY.2 2 (by simp)
  have k559 : w526.cell? ⟨w.heap.size, 3, none⟩ = some (Value.slice ad_aY3 x_aY3.length cap_aY3) := bx_aY.2 3 (by simp)
  have k560 : w526.cell? ⟨w.heap.size, 4, none⟩ = some (Value.int .i64 s_aY4) := bx_aY.2 4 (by simp)
  have k561 : w526.cell? ⟨w49.heap.size, 0, none⟩ = some ((Value.slice a69 m70 c71)) := bx93.2 0 (by simp)
  have k562 : w526.cell? ⟨w49.heap.size, 1, none⟩ = some ((Value.slice a72 m73 c74)) := bx93.2 1 (by simp)
  have k563 : w526.cell? ⟨w49.heap.size, 2, none⟩ = some ((Value.slice a75 m76 c77)) := bx93.2 2 (by simp)
  have k564 : w526.cell? ⟨w49.heap.size, 3, none⟩ = some ((Value.slice a78 m79 c80)) := bx93.2 3 (by simp)
  have k565 : w526.cell? ⟨w49.heap.size, 4, none⟩ = some (Value.int .i64 (passF ⟨⟨x_aY0, x_aY1⟩, x_aY2, x_aY3, s_aY4⟩).1.passes) := bx93.2 4 (by simp)
  have k566 : w526.cell? ⟨w106.heap.size, 0, none⟩ = some ((Value.slice a122 m123 c124)) := bx165.2 0 (by simp)
  have k567 : w526.cell? ⟨w106.heap.size, 1, none⟩ = some ((Value.slice a125 m126 c127)) := bx165.2 1 (by simp)
  have k568 : w526.cell? ⟨w106.heap.size, 2, none⟩ = some ((Value.slice a128 m129 c130)) := bx165.2 2 (by simp)
  have k569 : w526.cell? ⟨w106.heap.size, 3, none⟩ = some ((Value.slice a131 m132 c133)) := bx165.2 3 (by simp)
  have k570 : w526.cell? ⟨w106.heap.size, 4, none⟩ = some (Value.int .i64 s_aY4) := bx165.2 4 (by simp)
  have k571 : w526.cell? ⟨w188.heap.size, 0, none⟩ = some ((Value.slice a208 m209 c210)) := bx280.2 0 (by simp)
  have k572 : w526.cell? ⟨w188.heap.size, 1, none⟩ = some ((Value.slice a211 m212 c213)) := bx280.2 1 (by simp)
  have k573 : w526.cell? ⟨w188.heap.size, 2, none⟩ = some ((Value.slice a214 m215 c216)) := bx280.2 2 (by simp)
  have k574 : w526.cell? ⟨w188.heap.size, 3, none⟩ = some ((Value.slice a217 m218 c219)) := bx280.2 3 (by simp)
  have k575 : w526.cell? ⟨w188.heap.size, 4, none⟩ = some (Value.int .i64 (passF ⟨⟨x_aY0, x_aY1⟩, x_aY2, x_aY3, s_aY4⟩).1.passes) := bx280.2 4 (by simp)
  go_wp2_with fail
  clear k556 k557 k558 k559 k560 k561 k562 k563 k564 k565 k566 k567 k568 k569 k570 k571 k572 k573 k574 k575
  have p576 := o403
  have p577 := o404
  have p578 := o405
  have p579 := o406
  have p580 := o467
  have p581 := o468
  have p582 := o469
  have p583 := o470
  have q584 := (bx_aY).1
  have q585 := (bx93).1
  have q586 := (bx165).1
  have q587 := (bx280).1
  refine (impl_Pass _ x_aY0 _ x_aY1 _ x_aY2 _ x_aY3 s_aY4 _ (Flat.of_owns o532) hx_aY0 (Flat.of_owns o533) hx_aY1 (Flat.of_owns o534) hx_aY2 (Flat.of_owns o535) hx_aY3).mono ?_
  rintro e w588 ⟨v590, v593, v596, v599, rfl, o591, l592, o594, l595, o597, l598, o600, l601, ap602, ap603, ap604, ap605, ap606, ap607, b589⟩
  obtain ⟨a608, m609, c610, rfl⟩ := owns_form3 o591
  obtain ⟨a611, m612, c613, rfl⟩ := owns_form3 o594
  obtain ⟨a614, m615, c616, rfl⟩ := owns_form3 o597
  obtain ⟨a617, m618, c619, rfl⟩ := owns_form3 o600
  have t620 := Below.trans t554 (Below.mono b589 t554.size)
  have s621 := Below.trans s555 (Below.mono b589 s555.size)
  replace o403 := owns_below o403 b589
  replace o404 := owns_below o404 b589
  replace o405 := owns_below o405 b589
  replace o406 := owns_below o406 b589
  replace o467 := owns_below o467 b589
  replace o468 := owns_below o468 b589
  replace o469 := owns_below o469 b589
  replace o470 := owns_below o470 b589
  replace bx_aY := Box.below bx_aY b589
  replace bx93 := Box.below bx93 b589
  replace bx165 := Box.below bx165 b589
  replace bx280 := Box.below bx280 b589
  have tb622 := Below.size t554
  have hb623 := Below.size s555
  have ap624 := apart p576 (Nat.le_refl _) o591
  have ap625 := apart p577 (Nat.le_refl _) o591
  have ap626 := apart p578 (Nat.le_refl _) o591
  have ap627 := apart p579 (Nat.le_refl _) o591
  have ap628 := apart p580 (Nat.le_refl _) o591
  have ap629 := apart p581 (Nat.le_refl _) o591
  have ap630 := apart p582 (Nat.le_refl _) o591
  have ap631 := apart p583 (Nat.le_refl _) o591
  have ne632 : ¬ (Value.slice a608 m609 c610).ownBlock = some (w.heap.size) := fun e => by have h1 := (World.ownsRow.lt o591 _ e).1; have h2 := q584; omega
  have ne633 : ¬ (Value.slice a608 m609 c610).ownBlock = some (w49.heap.size) := fun e => by have h1 := (World.ownsRow.lt o591 _ e).1; have h2 := q585; omega
  have ne634 : ¬ (Value.slice a608 m609 c610).ownBlock = some (w106.heap.size) := fun e => by have h1 := (World.ownsRow.lt o591 _ e).1; have h2 := q586; omega
  have ne635 : ¬ (Value.slice a608 m609 c610).ownBlock = some (w188.heap.size) := fun e => by have h1 := (World.ownsRow.lt o591 _ e).1; have h2 := q587; omega
  have ap636 := apart p576 (Nat.le_refl _) o594
  have ap637 := apart p577 (Nat.le_refl _) o594
  have ap638 := apart p578 (Nat.le_refl _) o594
  have ap639 := apart p579 (Nat.le_refl _) o594
  have ap640 := apart p580 (Nat.le_refl _) o594
  have ap641 := apart p581 (Nat.le_refl _) o594
  have ap642 := apart p582 (Nat.le_refl _) o594
  have ap643 := apart p583 (Nat.le_refl _) o594
  have ne644 : ¬ (Value.slice a611 m612 c613).ownBlock = some (w.heap.size) := fun e => by have h1 := (World.ownsRow.lt o594 _ e).1; have h2 := q584; omega
  have ne645 : ¬ (Value.slice a611 m612 c613).ownBlock = some (w49.heap.size) := fun e => by have h1 := (World.ownsRow.lt o594 _ e).1; have h2 := q585; omega
  have ne646 : ¬ (Value.slice a611 m612 c613).ownBlock = some (w106.heap.size) := fun e => by have h1 := (World.ownsRow.lt o594 _ e).1; have h2 := q586; omega
  have ne647 : ¬ (Value.slice a611 m612 c613).ownBlock = some (w188.heap.size) := fun e => by have h1 := (World.ownsRow.lt o594 _ e).1; have h2 := q587; omega
  have ap648 := apart p576 (Nat.le_refl _) o597
  have ap649 := apart p577 (Nat.le_refl _) o597
  have ap650 := apart p578 (Nat.le_refl _) o597
  have ap651 := apart p579 (Nat.le_refl _) o597
  have ap652 := apart p580 (Nat.le_refl _) o597
  have ap653 := apart p581 (Nat.le_refl _) o597
  have ap654 := apart p582 (Nat.le_refl _) o597
  have ap655 := apart p583 (Nat.le_refl _) o597
  have ne656 : ¬ (Value.slice a614 m615 c616).ownBlock = some (w.heap.size) := fun e => by have h1 := (World.ownsRow.lt o597 _ e).1; have h2 := q584; omega
  have ne657 : ¬ (Value.slice a614 m615 c616).ownBlock = some (w49.heap.size) := fun e => by have h1 := (World.ownsRow.lt o597 _ e).1; have h2 := q585; omega
  have ne658 : ¬ (Value.slice a614 m615 c616).ownBlock = some (w106.heap.size) := fun e => by have h1 := (World.ownsRow.lt o597 _ e).1; have h2 := q586; omega
  have ne659 : ¬ (Value.slice a614 m615 c616).ownBlock = some (w188.heap.size) := fun e => by have h1 := (World.ownsRow.lt o597 _ e).1; have h2 := q587; omega
  have ap660 := apart p576 (Nat.le_refl _) o600
  have ap661 := apart p577 (Nat.le_refl _) o600
  have ap662 := apart p578 (Nat.le_refl _) o600
  have ap663 := apart p579 (Nat.le_refl _) o600
  have ap664 := apart p580 (Nat.le_refl _) o600
  have ap665 := apart p581 (Nat.le_refl _) o600
  have ap666 := apart p582 (Nat.le_refl _) o600
  have ap667 := apart p583 (Nat.le_refl _) o600
  have ne668 : ¬ (Value.slice a617 m618 c619).ownBlock = some (w.heap.size) := fun e => by have h1 := (World.ownsRow.lt o600 _ e).1; have h2 := q584; omega
  have ne669 : ¬ (Value.slice a617 m618 c619).ownBlock = some (w49.heap.size) := fun e => by have h1 := (World.ownsRow.lt o600 _ e).1; have h2 := q585; omega
  have ne670 : ¬ (Value.slice a617 m618 c619).ownBlock = some (w106.heap.size) := fun e => by have h1 := (World.ownsRow.lt o600 _ e).1; have h2 := q586; omega
  have ne671 : ¬ (Value.slice a617 m618 c619).ownBlock = some (w188.heap.size) := fun e => by have h1 := (World.ownsRow.lt o600 _ e).1; have h2 := q587; omega
  have k672 : w588.cell? ⟨w.heap.size, 0, none⟩ = some (Value.slice ad_aY0 x_aY0.length cap_aY0) := bx_aY.2 0 (by simp)
  have k673 : w588.cell? ⟨w.heap.size, 1, none⟩ = some (Value.slice ad_aY1 x_aY1.length cap_aY1) := bx_aY.2 1 (by simp)
  have k674 : w588.cell? ⟨w.heap.size, 2, none⟩ = some (Value.slice ad_aY2 x_aY2.length cap_aY2) := bx_aY.2 2 (by simp)
  have k675 : w588.cell? ⟨w.heap.size, 3, none⟩ = some (Value.slice ad_aY3 x_aY3.length cap_aY3) := bx_aY.2 3 (by simp)
  have k676 : w588.cell? ⟨w.heap.size, 4, none⟩ = some (Value.int .i64 s_aY4) := bx_aY.2 4 (by simp)
  have k677 : w588.cell? ⟨w49.heap.size, 0, none⟩ = some ((Value.slice a69 m70 c71)) := bx93.2 0 (by simp)
  have k678 : w588.cell? ⟨w49.heap.size, 1, none⟩ = some ((Value.slice a72 m73 c74)) := bx93.2 1 (by simp)
  have k679 : w588.cell? ⟨w49.heap.size, 2, none⟩ = some ((Value.slice a75 m76 c77)) := bx93.2 2 (by simp)
  have k680 : w588.cell? ⟨w49.heap.size, 3, none⟩ = some ((Value.slice a78 m79 c80)) := bx93.2 3 (by simp)
  have k681 : w588.cell? ⟨w49.heap.size, 4, none⟩ = some (Value.int .i64 (passF ⟨⟨x_aY0, x_aY1⟩, x_aY2, x_aY3, s_aY4⟩).1.passes) := bx93.2 4 (by simp)
  have k682 : w588.cell? ⟨w106.heap.size, 0, none⟩ = some ((Value.slice a122 m123 c124)) := bx165.2 0 (by simp)
  have k683 : w588.cell? ⟨w106.heap.size, 1, none⟩ = some ((Value.slice a125 m126 c127)) := bx165.2 1 (by simp)
  have k684 : w588.cell? ⟨w106.heap.size, 2, none⟩ = some ((Value.slice a128 m129 c130)) := bx165.2 2 (by simp)
  have k685 : w588.cell? ⟨w106.heap.size, 3, none⟩ = some ((Value.slice a131 m132 c133)) := bx165.2 3 (by simp)
  have k686 : w588.cell? ⟨w106.heap.size, 4, none⟩ = some (Value.int .i64 s_aY4) := bx165.2 4 (by simp)
  have k687 : w588.cell? ⟨w188.heap.size, 0, none⟩ = some ((Value.slice a208 m209 c210)) := bx280.2 0 (by simp)
  have k688 : w588.cell? ⟨w188.heap.size, 1, none⟩ = some ((Value.slice a211 m212 c213)) := bx280.2 1 (by simp)
  have k689 : w588.cell? ⟨w188.heap.size, 2, none⟩ = some ((Value.slice a214 m215 c216)) := bx280.2 2 (by simp)
  have k690 : w588.cell? ⟨w188.heap.size, 3, none⟩ = some ((Value.slice a217 m218 c219)) := bx280.2 3 (by simp)
  have k691 : w588.cell? ⟨w188.heap.size, 4, none⟩ = some (Value.int .i64 (passF ⟨⟨x_aY0, x_aY1⟩, x_aY2, x_aY3, s_aY4⟩).1.passes) := bx280.2 4 (by simp)
  obtain ⟨X692, hX693⟩ : ∃ X, w588.alloc (.cells #[(Value.slice a608 m609 c610), (Value.slice a611 m612 c613), (Value.slice a614 m615 c616), (Value.slice a617 m618 c619), Value.int .i64 (passF ⟨⟨x_aY0, x_aY1⟩, x_aY2, x_aY3, s_aY4⟩).1.passes] 30) = X := ⟨_, rfl⟩
  have bX694 : Below w588.heap.size w588 X692 := by rw [← hX693]; exact (Below.refl _ _).alloc (Nat.le_refl _) _
  have ne695 : ¬ (Value.slice a122 m123 c124).ownBlock = some (w588.heap.size) := fun e => by have h1 := (World.ownsRow.lt o403 _ e).2; omega
  have ne696 : ¬ (Value.slice a125 m126 c127).ownBlock = some (w588.heap.size) := fun e => by have h1 := (World.ownsRow.lt o404 _ e).2; omega
  have ne697 : ¬ (Value.slice a128 m129 c130).ownBlock = some (w588.heap.size) := fun e => by have h1 := (World.ownsRow.lt o405 _ e).2; omega
  have ne698 : ¬ (Value.slice a131 m132 c133).ownBlock = some (w588.heap.size) := fun e => by have h1 := (World.ownsRow.lt o406 _ e).2; omega
  have ne699 : ¬ (Value.slice a208 m209 c210).ownBlock = some (w588.heap.size) := fun e => by have h1 := (World.ownsRow.lt o467 _ e).2; omega
  have ne700 : ¬ (Value.slice a211 m212 c213).ownBlock = some (w588.heap.size) := fun e => by have h1 := (World.ownsRow.lt o468 _ e).2; omega
  have ne701 : ¬ (Value.slice a214 m215 c216).ownBlock = some (w588.heap.size) := fun e => by have h1 := (World.ownsRow.lt o469 _ e).2; omega
  have ne702 : ¬ (Value.slice a217 m218 c219).ownBlock = some (w588.heap.size) := fun e => by have h1 := (World.ownsRow.lt o470 _ e).2; omega
  have ne703 : ¬ (Value.slice a608 m609 c610).ownBlock = some (w588.heap.size) := fun e => by have h1 := (World.ownsRow.lt o591 _ e).2; omega
  have ne704 : ¬ (Value.slice a611 m612 c613).ownBlock = some (w588.heap.size) := fun e => by have h1 := (World.ownsRow.lt o594 _ e).2; omega
  have ne705 : ¬ (Value.slice a614 m615 c616).ownBlock = some (w588.heap.size) := fun e => by have h1 := (World.ownsRow.lt o597 _ e).2; omega
  have ne706 : ¬ (Value.slice a617 m618 c619).ownBlock = some (w588.heap.size) := fun e => by have h1 := (World.ownsRow.lt o600 _ e).2; omega
  have t707 := Below.trans t620 (Below.mono bX694 t620.size)
  have s708 := Below.trans s621 (Below.mono bX694 s621.size)
  replace o403 := owns_below o403 bX694
  replace o404 := owns_below o404 bX694
  replace o405 := owns_below o405 bX694
  replace o406 := owns_below o406 bX694
  replace o467 := owns_below o467 bX694
  replace o468 := owns_below o468 bX694
  replace o469 := owns_below o469 bX694
  replace o470 := owns_below o470 bX694
  replace o591 := owns_below o591 bX694
  replace o594 := owns_below o594 bX694
  replace o597 := owns_below o597 bX694
  replace o600 := owns_below o600 bX694
  replace bx_aY := Box.below bx_aY bX694
  replace bx93 := Box.below bx93 bX694
  replace bx165 := Box.below bx165 bX694
  replace bx280 := Box.below bx280 bX694
  have bx709 : Box X692 (w588.heap.size) [(Value.slice a608 m609 c610), (Value.slice a611 m612 c613), (Value.slice a614 m615 c616), (Value.slice a617 m618 c619), Value.int .i64 (passF ⟨⟨x_aY0, x_aY1⟩, x_aY2, x_aY3, s_aY4⟩).1.passes] := by rw [← hX693]; exact Box.alloc _ _ _
  have k710 : X692.cell? ⟨w.heap.size, 0, none⟩ = some (Value.slice ad_aY0 x_aY0.length cap_aY0) := bx_aY.2 0 (by simp)
  have k711 : X692.cell? ⟨w.heap.size, 1, none⟩ = some (Value.slice ad_aY1 x_aY1.length cap_aY1) := bx_aY.2 1 (by simp)
  have k712 : X692.cell? ⟨w.heap.size, 2, none⟩ = some (Value.slice ad_aY2 x_aY2.length cap_aY2) := bx_aY.2 2 (by simp)
  have k713 : X692.cell? ⟨w.heap.size, 3, none⟩ = some (Value.slice ad_aY3 x_aY3.length cap_aY3) := bx_aY.2 3 (by simp)
  have k714 : X692.cell? ⟨w.heap.size, 4, none⟩ = some (Value.int .i64 s_aY4) := bx_aY.2 4 (by simp)
  have k715 : X692.cell? ⟨w49.heap.size, 0, none⟩ = some ((Value.slice a69 m70 c71)) := bx93.2 0 (by simp)
  have k716 : X692.cell? ⟨w49.heap.size, 1, none⟩ = some ((Value.slice a72 m73 c74)) := bx93.2 1 (by simp)
  have k717 : X692.cell? ⟨w49.heap.size, 2, none⟩ = some ((Value.slice a75 m76 c77)) := bx93.2 2 (by simp)
  have k718 : X692.cell? ⟨w49.heap.size, 3, none⟩ = some ((Value.slice a78 m79 c80)) := bx93.2 3 (by simp)
  have k719 : X692.cell? ⟨w49.heap.size, 4, none⟩ = some (Value.int .i64 (passF ⟨⟨x_aY0, x_aY1⟩, x_aY2, x_aY3, s_aY4⟩).1.passes) := bx93.2 4 (by simp)
  have k720 : X692.cell? ⟨w106.heap.size, 0, none⟩ = some ((Value.slice a122 m123 c124)) := bx165.2 0 (by simp)
  have k721 : X692.cell? ⟨w106.heap.size, 1, none⟩ = some ((Value.slice a125 m126 c127)) := bx165.2 1 (by simp)
  have k722 : X692.cell? ⟨w106.heap.size, 2, none⟩ = some ((Value.slice a128 m129 c130)) := bx165.2 2 (by simp)
  have k723 : X692.cell? ⟨w106.heap.size, 3, none⟩ = some ((Value.slice a131 m132 c133)) := bx165.2 3 (by simp)
  have k724 : X692.cell? ⟨w106.heap.size, 4, none⟩ = some (Value.int .i64 s_aY4) := bx165.2 4 (by simp)
  have k725 : X692.cell? ⟨w188.heap.size, 0, none⟩ = some ((Value.slice a208 m209 c210)) := bx280.2 0 (by simp)
  have k726 : X692.cell? ⟨w188.heap.size, 1, none⟩ = some ((Value.slice a211 m212 c213)) := bx280.2 1 (by simp)
  have k727 : X692.cell? ⟨w188.heap.size, 2, none⟩ = some ((Value.slice a214 m215 c216)) := bx280.2 2 (by simp)
  have k728 : X692.cell? ⟨w188.heap.size, 3, none⟩ = some ((Value.slice a217 m218 c219)) := bx280.2 3 (by simp)
  have k729 : X692.cell? ⟨w188.heap.size, 4, none⟩ = some (Value.int .i64 (passF ⟨⟨x_aY0, x_aY1⟩, x_aY2, x_aY3, s_aY4⟩).1.passes) := bx280.2 4 (by simp)
  have k730 : X692.cell? ⟨w588.heap.size, 0, none⟩ = some ((Value.slice a608 m609 c610)) := bx709.2 0 (by simp)
  have k731 : X692.cell? ⟨w588.heap.size, 1, none⟩ = some ((Value.slice a611 m612 c613)) := bx709.2 1 (by simp)
  have k732 : X692.cell? ⟨w588.heap.size, 2, none⟩ = some ((Value.slice a614 m615 c616)) := bx709.2 2 (by simp)
  have k733 : X692.cell? ⟨w588.heap.size, 3, none⟩ = some ((Value.slice a617 m618 c619)) := bx709.2 3 (by simp)
  have k734 : X692.cell? ⟨w588.heap.size, 4, none⟩ = some (Value.int .i64 (passF ⟨⟨x_aY0, x_aY1⟩, x_aY2, x_aY3, s_aY4⟩).1.passes) := bx709.2 4 (by simp)
  go_wp2_with fail
  clear k672 k673 k674 k675 k676 k677 k678 k679 k680 k681 k682 k683 k684 k685 k686 k687 k688 k689 k690 k691 k710 k711 k712 k713 k714 k715 k716 k717 k718 k719 k720 k721 k722 k723 k724 k725 k726 k727 k728 k729 k730 k731 k732 k733 k734 hX693
  refine (eqYard_c _ _ _ _ _ _ _ _ _ _ _ _ _ _ (Flat.of_owns o591) (Flat.of_owns o594) (Flat.of_owns o597) (Flat.of_owns o600) (FlatB.flat (FlatB.below o52 s708) s708.size) (FlatB.flat (FlatB.below o55 s708) s708.size) (FlatB.flat (FlatB.below o58 s708) s708.size) (FlatB.flat (FlatB.below o61 s708) s708.size)).mono ?_
  rintro e w735 ⟨rfl, b736⟩
  have t737 := Below.trans t707 (Below.mono b736 t707.size)
  have s738 := Below.trans s708 (Below.mono b736 s708.size)
  replace o403 := owns_below o403 b736
  replace o404 := owns_below o404 b736
  replace o405 := owns_below o405 b736
  replace o406 := owns_below o406 b736
  replace o467 := owns_below o467 b736
  replace o468 := owns_below o468 b736
  replace o469 := owns_below o469 b736
  replace o470 := owns_below o470 b736
  replace o591 := owns_below o591 b736
  replace o594 := owns_below o594 b736
  replace o597 := owns_below o597 b736
  replace o600 := owns_below o600 b736
  replace bx_aY := Box.below bx_aY b736
  replace bx93 := Box.below bx93 b736
  replace bx165 := Box.below bx165 b736
  replace bx280 := Box.below bx280 b736
  replace bx709 := Box.below bx709 b736
  have k739 : w735.cell? ⟨w.heap.size, 0, none⟩ = some (Value.slice ad_aY0 x_aY0.length cap_aY0) := bx_aY.2 0 (by simp)
  have k740 : w735.cell? ⟨w.heap.size, 1, none⟩ = some (Value.slice ad_aY1 x_aY1.length cap_aY1) := bx_aY.2 1 (by simp)
  have k741 : w735.cell? ⟨w.heap.size, 2, none⟩ = some (Value.slice ad_aY2 x_aY2.length cap_aY2) := bx_aY.2 2 (by simp)
  have k742 : w735.cell? ⟨w.heap.size, 3, none⟩ = some (Value.slice ad_aY3 x_aY3.length cap_aY3) := bx_aY.2 3 (by simp)
  have k743 : w735.cell? ⟨w.heap.size, 4, none⟩ = some (Value.int .i64 s_aY4) := bx_aY.2 4 (by simp)
  have k744 : w735.cell? ⟨w49.heap.size, 0, none⟩ = some ((Value.slice a69 m70 c71)) := bx93.2 0 (by simp)
  have k745 : w735.cell? ⟨w49.heap.size, 1, none⟩ = some ((Value.slice a72 m73 c74)) := bx93.2 1 (by simp)
  have k746 : w735.cell? ⟨w49.heap.size, 2, none⟩ = some ((Value.slice a75 m76 c77)) := bx93.2 2 (by simp)
  have k747 : w735.cell? ⟨w49.heap.size, 3, none⟩ = some ((Value.slice a78 m79 c80)) := bx93.2 3 (by simp)
  have k748 : w735.cell? ⟨w49.heap.size, 4, none⟩ = some (Value.int .i64 (passF ⟨⟨x_aY0, x_aY1⟩, x_aY2, x_aY3, s_aY4⟩).1.passes) := bx93.2 4 (by simp)
  have k749 : w735.cell? ⟨w106.heap.size, 0, none⟩ = some ((Value.slice a122 m123 c124)) := bx165.2 0 (by simp)
  have k750 : w735.cell? ⟨w106.heap.size, 1, none⟩ = some ((Value.slice a125 m126 c127)) := bx165.2 1 (by simp)
  have k751 : w735.cell? ⟨w106.heap.size, 2, none⟩ = some ((Value.slice a128 m129 c130)) := bx165.2 2 (by simp)
  have k752 : w735.cell? ⟨w106.heap.size, 3, none⟩ = some ((Value.slice a131 m132 c133)) := bx165.2 3 (by simp)
  have k753 : w735.cell? ⟨w106.heap.size, 4, none⟩ = some (Value.int .i64 s_aY4) := bx165.2 4 (by simp)
  have k754 : w735.cell? ⟨w188.heap.size, 0, none⟩ = some ((Value.slice a208 m209 c210)) := bx280.2 0 (by simp)
  have k755 : w735.cell? ⟨w188.heap.size, 1, none⟩ = some ((Value.slice a211 m212 c213)) := bx280.2 1 (by simp)
  have k756 : w735.cell? ⟨w188.heap.size, 2, none⟩ = some ((Value.slice a214 m215 c216)) := bx280.2 2 (by simp)
  have k757 : w735.cell? ⟨w188.heap.size, 3, none⟩ = some ((Value.slice a217 m218 c219)) := bx280.2 3 (by simp)
  have k758 : w735.cell? ⟨w188.heap.size, 4, none⟩ = some (Value.int .i64 (passF ⟨⟨x_aY0, x_aY1⟩, x_aY2, x_aY3, s_aY4⟩).1.passes) := bx280.2 4 (by simp)
  have k759 : w735.cell? ⟨w588.heap.size, 0, none⟩ = some ((Value.slice a608 m609 c610)) := bx709.2 0 (by simp)
  have k760 : w735.cell? ⟨w588.heap.size, 1, none⟩ = some ((Value.slice a611 m612 c613)) := bx709.2 1 (by simp)
  have k761 : w735.cell? ⟨w588.heap.size, 2, none⟩ = some ((Value.slice a614 m615 c616)) := bx709.2 2 (by simp)
  have k762 : w735.cell? ⟨w588.heap.size, 3, none⟩ = some ((Value.slice a617 m618 c619)) := bx709.2 3 (by simp)
  have k763 : w735.cell? ⟨w588.heap.size, 4, none⟩ = some (Value.int .i64 (passF ⟨⟨x_aY0, x_aY1⟩, x_aY2, x_aY3, s_aY4⟩).1.passes) := bx709.2 4 (by simp)
  go_wp2_with fail
  clear k739 k740 k741 k742 k743 k744 k745 k746 k747 k748 k749 k750 k751 k752 k753 k754 k755 k756 k757 k758 k759 k760 k761 k762 k763
  refine (heldYard_c _ _ _ _ _ _ _ _ _ _ _ (by omega) (by omega) (by omega) (by omega) (by omega) (by omega) (Flat.of_owns o467) (Flat.of_owns o468) (Flat.of_owns o469) (Flat.of_owns o470)).mono ?_
  rintro e w764 ⟨rfl, b765⟩
  have t766 := Below.trans t737 (Below.mono b765 t737.size)
  have s767 := Below.trans s738 (Below.mono b765 s738.size)
  replace o403 := owns_below o403 b765
  replace o404 := owns_below o404 b765
  replace o405 := owns_below o405 b765
  replace o406 := owns_below o406 b765
  replace o467 := owns_below o467 b765
  replace o468 := owns_below o468 b765
  replace o469 := owns_below o469 b765
  replace o470 := owns_below o470 b765
  replace o591 := owns_below o591 b765
  replace o594 := owns_below o594 b765
  replace o597 := owns_below o597 b765
  replace o600 := owns_below o600 b765
  replace bx_aY := Box.below bx_aY b765
  replace bx93 := Box.below bx93 b765
  replace bx165 := Box.below bx165 b765
  replace bx280 := Box.below bx280 b765
  replace bx709 := Box.below bx709 b765
  have k768 : w764.cell? ⟨w.heap.size, 0, none⟩ = some (Value.slice ad_aY0 x_aY0.length cap_aY0) := bx_aY.2 0 (by simp)
  have k769 : w764.cell? ⟨w.heap.size, 1, none⟩ = some (Value.slice ad_aY1 x_aY1.length cap_aY1) := bx_aY.2 1 (by simp)
  have k770 : w764.cell? ⟨w.heap.size, 2, none⟩ = some (Value.slice ad_aY2 x_aY2.length cap_aY2) := bx_aY.2 2 (by simp)
  have k771 : w764.cell? ⟨w.heap.size, 3, none⟩ = some (Value.slice ad_aY3 x_aY3.length cap_aY3) := bx_aY.2 3 (by simp)
  have k772 : w764.cell? ⟨w.heap.size, 4, none⟩ = some (Value.int .i64 s_aY4) := bx_aY.2 4 (by simp)
  have k773 : w764.cell? ⟨w49.heap.size, 0, none⟩ = some ((Value.slice a69 m70 c71)) := bx93.2 0 (by simp)
  have k774 : w764.cell? ⟨w49.heap.size, 1, none⟩ = some ((Value.slice a72 m73 c74)) := bx93.2 1 (by simp)
  have k775 : w764.cell? ⟨w49.heap.size, 2, none⟩ = some ((Value.slice a75 m76 c77)) := bx93.2 2 (by simp)
  have k776 : w764.cell? ⟨w49.heap.size, 3, none⟩ = some ((Value.slice a78 m79 c80)) := bx93.2 3 (by simp)
  have k777 : w764.cell? ⟨w49.heap.size, 4, none⟩ = some (Value.int .i64 (passF ⟨⟨x_aY0, x_aY1⟩, x_aY2, x_aY3, s_aY4⟩).1.passes) := bx93.2 4 (by simp)
  have k778 : w764.cell? ⟨w106.heap.size, 0, none⟩ = some ((Value.slice a122 m123 c124)) := bx165.2 0 (by simp)
  have k779 : w764.cell? ⟨w106.heap.size, 1, none⟩ = some ((Value.slice a125 m126 c127)) := bx165.2 1 (by simp)
  have k780 : w764.cell? ⟨w106.heap.size, 2, none⟩ = some ((Value.slice a128 m129 c130)) := bx165.2 2 (by simp)
  have k781 : w764.cell? ⟨w106.heap.size, 3, none⟩ = some ((Value.slice a131 m132 c133)) := bx165.2 3 (by simp)
  have k782 : w764.cell? ⟨w106.heap.size, 4, none⟩ = some (Value.int .i64 s_aY4) := bx165.2 4 (by simp)
  have k783 : w764.cell? ⟨w188.heap.size, 0, none⟩ = some ((Value.slice a208 m209 c210)) := bx280.2 0 (by simp)
  have k784 : w764.cell? ⟨w188.heap.size, 1, none⟩ = some ((Value.slice a211 m212 c213)) := bx280.2 1 (by simp)
  have k785 : w764.cell? ⟨w188.heap.size, 2, none⟩ = some ((Value.slice a214 m215 c216)) := bx280.2 2 (by simp)
  have k786 : w764.cell? ⟨w188.heap.size, 3, none⟩ = some ((Value.slice a217 m218 c219)) := bx280.2 3 (by simp)
  have k787 : w764.cell? ⟨w188.heap.size, 4, none⟩ = some (Value.int .i64 (passF ⟨⟨x_aY0, x_aY1⟩, x_aY2, x_aY3, s_aY4⟩).1.passes) := bx280.2 4 (by simp)
  have k788 : w764.cell? ⟨w588.heap.size, 0, none⟩ = some ((Value.slice a608 m609 c610)) := bx709.2 0 (by simp)
  have k789 : w764.cell? ⟨w588.heap.size, 1, none⟩ = some ((Value.slice a611 m612 c613)) := bx709.2 1 (by simp)
  have k790 : w764.cell? ⟨w588.heap.size, 2, none⟩ = some ((Value.slice a614 m615 c616)) := bx709.2 2 (by simp)
  have k791 : w764.cell? ⟨w588.heap.size, 3, none⟩ = some ((Value.slice a617 m618 c619)) := bx709.2 3 (by simp)
  have k792 : w764.cell? ⟨w588.heap.size, 4, none⟩ = some (Value.int .i64 (passF ⟨⟨x_aY0, x_aY1⟩, x_aY2, x_aY3, s_aY4⟩).1.passes) := bx709.2 4 (by simp)
  go_wp2_with fail
  clear k768 k769 k770 k771 k772 k773 k774 k775 k776 k777 k778 k779 k780 k781 k782 k783 k784 k785 k786 k787 k788 k789 k790 k791 k792
  try go_wp2
  go_ret
  exact ⟨rfl, hB0.trans (Below.mono t766 hB0.size)⟩

end Go.Proofs.Ytdnfphpeleakcaa
