/- FnExactNewYard, walked. -/
import Derived.Test.YtdnfphpeleakcaaI3NewYard
import Derived.Test.YtdnfphpeleakcaaS3NewYard
import Derived.Test.YtdnfphpeleakcaaKeep
import Derived.Deep.RegionHeld3
import Derived.StillTailTactics
namespace Go.Proofs.Ytdnfphpeleakcaa
set_option maxRecDepth 100000
open Go.RowKit Go.Proofs Go.Own
set_option linter.unusedVariables false

set_option maxRecDepth 100000 in
set_option maxHeartbeats 8000000 in
theorem law_NewYard (s_aBlocks0 : Int) (s_aThreads0 : Int) (w : World) (hi_s_aBlocks0 : InI s_aBlocks0) (hi_s_aThreads0 : InI s_aThreads0) :
    Calls Try.prog 5 #[(.int .i64 s_aBlocks0), (.int .i64 s_aThreads0)] w fun e w' => e = .returned (.bool true) ∧ Below w.heap.size w w' := by
  have hB0 : Below w.heap.size w w := Below.refl _ _
  go_enter Try.func5, Try.ntmps5
  go_wp2_with fail
  refine (spec_NewYard s_aBlocks0 s_aThreads0 _ ).mono ?_
  rintro e w1 ⟨v3, v6, v9, v12, rfl, o4, o7, o10, o13, b2⟩
  obtain ⟨a21, m22, c23, rfl⟩ := Flat.form3 o4
  obtain ⟨a24, m25, c26, rfl⟩ := Flat.form3 o7
  obtain ⟨a27, m28, c29, rfl⟩ := Flat.form3 o10
  obtain ⟨a30, m31, c32, rfl⟩ := Flat.form3 o13
  have t33 := Below.trans (Below.refl _ _ : Below w.heap.size w w) (Below.mono b2 (Below.refl _ _ : Below w.heap.size w w).size)
  have s34 : Below w1.heap.size w1 w1 := Below.refl _ _
  obtain ⟨X35, hX36⟩ : ∃ X, w1.alloc (.cells #[(Value.slice a21 m22 c23), (Value.slice a24 m25 c26), (Value.slice a27 m28 c29), (Value.slice a30 m31 c32), Value.int .i64 (newYardF s_aBlocks0 s_aThreads0).1.passes] 30) = X := ⟨_, rfl⟩
  have bX37 : Below w1.heap.size w1 X35 := by rw [← hX36]; exact (Below.refl _ _).alloc (Nat.le_refl _) _
  have t38 := Below.trans t33 (Below.mono bX37 t33.size)
  have s39 := Below.trans s34 (Below.mono bX37 s34.size)
  have bx40 : Box X35 (w1.heap.size) [(Value.slice a21 m22 c23), (Value.slice a24 m25 c26), (Value.slice a27 m28 c29), (Value.slice a30 m31 c32), Value.int .i64 (newYardF s_aBlocks0 s_aThreads0).1.passes] := by rw [← hX36]; exact Box.alloc _ _ _
  have k41 : X35.cell? ⟨w1.heap.size, 0, none⟩ = some ((Value.slice a21 m22 c23)) := bx40.2 0 (by simp)
  have k42 : X35.cell? ⟨w1.heap.size, 1, none⟩ = some ((Value.slice a24 m25 c26)) := bx40.2 1 (by simp)
  have k43 : X35.cell? ⟨w1.heap.size, 2, none⟩ = some ((Value.slice a27 m28 c29)) := bx40.2 2 (by simp)
  have k44 : X35.cell? ⟨w1.heap.size, 3, none⟩ = some ((Value.slice a30 m31 c32)) := bx40.2 3 (by simp)
  have k45 : X35.cell? ⟨w1.heap.size, 4, none⟩ = some (Value.int .i64 (newYardF s_aBlocks0 s_aThreads0).1.passes) := bx40.2 4 (by simp)
  go_wp2_with fail
  clear k41 k42 k43 k44 k45 hX36
  have q46 := (bx40).1
  refine (impl_NewYard s_aBlocks0 s_aThreads0 _ ).mono ?_
  rintro e w47 ⟨v49, v52, v55, v58, rfl, o50, l51, o53, l54, o56, l57, o59, l60, ap61, ap62, ap63, ap64, ap65, ap66, b48⟩
  obtain ⟨a67, m68, c69, rfl⟩ := owns_form3 o50
  obtain ⟨a70, m71, c72, rfl⟩ := owns_form3 o53
  obtain ⟨a73, m74, c75, rfl⟩ := owns_form3 o56
  obtain ⟨a76, m77, c78, rfl⟩ := owns_form3 o59
  have t79 := Below.trans t38 (Below.mono b48 t38.size)
  have s80 := Below.trans s39 (Below.mono b48 s39.size)
  replace bx40 := Box.below bx40 b48
  have tb81 := Below.size t38
  have hb82 := Below.size s39
  have ne83 : ¬ (Value.slice a67 m68 c69).ownBlock = some (w1.heap.size) := fun e => by have h1 := (World.ownsRow.lt o50 _ e).1; have h2 := q46; omega
  have ne84 : ¬ (Value.slice a70 m71 c72).ownBlock = some (w1.heap.size) := fun e => by have h1 := (World.ownsRow.lt o53 _ e).1; have h2 := q46; omega
  have ne85 : ¬ (Value.slice a73 m74 c75).ownBlock = some (w1.heap.size) := fun e => by have h1 := (World.ownsRow.lt o56 _ e).1; have h2 := q46; omega
  have ne86 : ¬ (Value.slice a76 m77 c78).ownBlock = some (w1.heap.size) := fun e => by have h1 := (World.ownsRow.lt o59 _ e).1; have h2 := q46; omega
  have k87 : w47.cell? ⟨w1.heap.size, 0, none⟩ = some ((Value.slice a21 m22 c23)) := bx40.2 0 (by simp)
  have k88 : w47.cell? ⟨w1.heap.size, 1, none⟩ = some ((Value.slice a24 m25 c26)) := bx40.2 1 (by simp)
  have k89 : w47.cell? ⟨w1.heap.size, 2, none⟩ = some ((Value.slice a27 m28 c29)) := bx40.2 2 (by simp)
  have k90 : w47.cell? ⟨w1.heap.size, 3, none⟩ = some ((Value.slice a30 m31 c32)) := bx40.2 3 (by simp)
  have k91 : w47.cell? ⟨w1.heap.size, 4, none⟩ = some (Value.int .i64 (newYardF s_aBlocks0 s_aThreads0).1.passes) := bx40.2 4 (by simp)
  obtain ⟨X92, hX93⟩ : ∃ X, w47.alloc (.cells #[(Value.slice a67 m68 c69), (Value.slice a70 m71 c72), (Value.slice a73 m74 c75), (Value.slice a76 m77 c78), Value.int .i64 (newYardF s_aBlocks0 s_aThreads0).1.passes] 30) = X := ⟨_, rfl⟩
  have bX94 : Below w47.heap.size w47 X92 := by rw [← hX93]; exact (Below.refl _ _).alloc (Nat.le_refl _) _
  have ne95 : ¬ (Value.slice a67 m68 c69).ownBlock = some (w47.heap.size) := fun e => by have h1 := (World.ownsRow.lt o50 _ e).2; omega
  have ne96 : ¬ (Value.slice a70 m71 c72).ownBlock = some (w47.heap.size) := fun e => by have h1 := (World.ownsRow.lt o53 _ e).2; omega
  have ne97 : ¬ (Value.slice a73 m74 c75).ownBlock = some (w47.heap.size) := fun e => by have h1 := (World.ownsRow.lt o56 _ e).2; omega
  have ne98 : ¬ (Value.slice a76 m77 c78).ownBlock = some (w47.heap.size) := fun e => by have h1 := (World.ownsRow.lt o59 _ e).2; omega
  have t99 := Below.trans t79 (Below.mono bX94 t79.size)
  have s100 := Below.trans s80 (Below.mono bX94 s80.size)
  replace o50 := owns_below o50 bX94
  replace o53 := owns_below o53 bX94
  replace o56 := owns_below o56 bX94
  replace o59 := owns_below o59 bX94
  replace bx40 := Box.below bx40 bX94
  have bx101 : Box X92 (w47.heap.size) [(Value.slice a67 m68 c69), (Value.slice a70 m71 c72), (Value.slice a73 m74 c75), (Value.slice a76 m77 c78), Value.int .i64 (newYardF s_aBlocks0 s_aThreads0).1.passes] := by rw [← hX93]; exact Box.alloc _ _ _
  have k102 : X92.cell? ⟨w1.heap.size, 0, none⟩ = some ((Value.slice a21 m22 c23)) := bx40.2 0 (by simp)
  have k103 : X92.cell? ⟨w1.heap.size, 1, none⟩ = some ((Value.slice a24 m25 c26)) := bx40.2 1 (by simp)
  have k104 : X92.cell? ⟨w1.heap.size, 2, none⟩ = some ((Value.slice a27 m28 c29)) := bx40.2 2 (by simp)
  have k105 : X92.cell? ⟨w1.heap.size, 3, none⟩ = some ((Value.slice a30 m31 c32)) := bx40.2 3 (by simp)
  have k106 : X92.cell? ⟨w1.heap.size, 4, none⟩ = some (Value.int .i64 (newYardF s_aBlocks0 s_aThreads0).1.passes) := bx40.2 4 (by simp)
  have k107 : X92.cell? ⟨w47.heap.size, 0, none⟩ = some ((Value.slice a67 m68 c69)) := bx101.2 0 (by simp)
  have k108 : X92.cell? ⟨w47.heap.size, 1, none⟩ = some ((Value.slice a70 m71 c72)) := bx101.2 1 (by simp)
  have k109 : X92.cell? ⟨w47.heap.size, 2, none⟩ = some ((Value.slice a73 m74 c75)) := bx101.2 2 (by simp)
  have k110 : X92.cell? ⟨w47.heap.size, 3, none⟩ = some ((Value.slice a76 m77 c78)) := bx101.2 3 (by simp)
  have k111 : X92.cell? ⟨w47.heap.size, 4, none⟩ = some (Value.int .i64 (newYardF s_aBlocks0 s_aThreads0).1.passes) := bx101.2 4 (by simp)
  go_wp2_with fail
  clear k87 k88 k89 k90 k91 k102 k103 k104 k105 k106 k107 k108 k109 k110 k111 hX93
  refine (eqYard_c _ _ _ _ _ _ _ _ _ _ _ _ _ _ (Flat.of_owns o50) (Flat.of_owns o53) (Flat.of_owns o56) (Flat.of_owns o59) (FlatB.flat (FlatB.below o4 s100) s100.size) (FlatB.flat (FlatB.below o7 s100) s100.size) (FlatB.flat (FlatB.below o10 s100) s100.size) (FlatB.flat (FlatB.below o13 s100) s100.size)).mono ?_
  rintro e w112 ⟨rfl, b113⟩
  have t114 := Below.trans t99 (Below.mono b113 t99.size)
  have s115 := Below.trans s100 (Below.mono b113 s100.size)
  replace o50 := owns_below o50 b113
  replace o53 := owns_below o53 b113
  replace o56 := owns_below o56 b113
  replace o59 := owns_below o59 b113
  replace bx40 := Box.below bx40 b113
  replace bx101 := Box.below bx101 b113
  have k116 : w112.cell? ⟨w1.heap.size, 0, none⟩ = some ((Value.slice a21 m22 c23)) := bx40.2 0 (by simp)
  have k117 : w112.cell? ⟨w1.heap.size, 1, none⟩ = some ((Value.slice a24 m25 c26)) := bx40.2 1 (by simp)
  have k118 : w112.cell? ⟨w1.heap.size, 2, none⟩ = some ((Value.slice a27 m28 c29)) := bx40.2 2 (by simp)
  have k119 : w112.cell? ⟨w1.heap.size, 3, none⟩ = some ((Value.slice a30 m31 c32)) := bx40.2 3 (by simp)
  have k120 : w112.cell? ⟨w1.heap.size, 4, none⟩ = some (Value.int .i64 (newYardF s_aBlocks0 s_aThreads0).1.passes) := bx40.2 4 (by simp)
  have k121 : w112.cell? ⟨w47.heap.size, 0, none⟩ = some ((Value.slice a67 m68 c69)) := bx101.2 0 (by simp)
  have k122 : w112.cell? ⟨w47.heap.size, 1, none⟩ = some ((Value.slice a70 m71 c72)) := bx101.2 1 (by simp)
  have k123 : w112.cell? ⟨w47.heap.size, 2, none⟩ = some ((Value.slice a73 m74 c75)) := bx101.2 2 (by simp)
  have k124 : w112.cell? ⟨w47.heap.size, 3, none⟩ = some ((Value.slice a76 m77 c78)) := bx101.2 3 (by simp)
  have k125 : w112.cell? ⟨w47.heap.size, 4, none⟩ = some (Value.int .i64 (newYardF s_aBlocks0 s_aThreads0).1.passes) := bx101.2 4 (by simp)
  go_wp2_with fail
  clear k116 k117 k118 k119 k120 k121 k122 k123 k124 k125
  refine (markYard_c _ _ _ _ _ _ _ _ _ _ _ _ _ _ _ _ (by omega) (by omega) (by omega) (by omega) (by omega) (by omega) o50 o53 o56 o59 ⟨ap61.1, ap61.2⟩ ⟨ap62.1, ap62.2⟩ ⟨ap63.1, ap63.2⟩ ⟨ap64.1, ap64.2⟩ ⟨ap65.1, ap65.2⟩ ⟨ap66.1, ap66.2⟩).mono ?_
  rintro e w126 ⟨z135, z136, z137, rfl, o131, o132, o133, o134, g127, g128, g129, g130⟩
  have t138 := Below.trans t114 (below_of_mark2 o50 g127 tb81 (Below.size t114))
  have s139 := Below.trans s115 (below_of_mark2 o50 g127 hb82 (Below.size s115))
  replace bx40 := Box.grown bx40 g127 ne83
  replace bx101 := Box.grown bx101 g127 ne95
  have t140 := Below.trans t138 (below_of_mark2 o53 g128 tb81 (Below.size t138))
  have s141 := Below.trans s139 (below_of_mark2 o53 g128 hb82 (Below.size s139))
  replace bx40 := Box.grown bx40 g128 ne84
  replace bx101 := Box.grown bx101 g128 ne96
  have t142 := Below.trans t140 (below_of_mark2 o56 g129 tb81 (Below.size t140))
  have s143 := Below.trans s141 (below_of_mark2 o56 g129 hb82 (Below.size s141))
  replace bx40 := Box.grown bx40 g129 ne85
  replace bx101 := Box.grown bx101 g129 ne97
  have t144 := Below.trans t142 (below_of_mark2 o59 g130 tb81 (Below.size t142))
  have s145 := Below.trans s143 (below_of_mark2 o59 g130 hb82 (Below.size s143))
  replace bx40 := Box.grown bx40 g130 ne86
  replace bx101 := Box.grown bx101 g130 ne98
  have k146 : w126.cell? ⟨w1.heap.size, 0, none⟩ = some ((Value.slice a21 m22 c23)) := bx40.2 0 (by simp)
  have k147 : w126.cell? ⟨w1.heap.size, 1, none⟩ = some ((Value.slice a24 m25 c26)) := bx40.2 1 (by simp)
  have k148 : w126.cell? ⟨w1.heap.size, 2, none⟩ = some ((Value.slice a27 m28 c29)) := bx40.2 2 (by simp)
  have k149 : w126.cell? ⟨w1.heap.size, 3, none⟩ = some ((Value.slice a30 m31 c32)) := bx40.2 3 (by simp)
  have k150 : w126.cell? ⟨w1.heap.size, 4, none⟩ = some (Value.int .i64 (newYardF s_aBlocks0 s_aThreads0).1.passes) := bx40.2 4 (by simp)
  have k151 : w126.cell? ⟨w47.heap.size, 0, none⟩ = some ((Value.slice a67 m68 c69)) := bx101.2 0 (by simp)
  have k152 : w126.cell? ⟨w47.heap.size, 1, none⟩ = some ((Value.slice a70 m71 c72)) := bx101.2 1 (by simp)
  have k153 : w126.cell? ⟨w47.heap.size, 2, none⟩ = some ((Value.slice a73 m74 c75)) := bx101.2 2 (by simp)
  have k154 : w126.cell? ⟨w47.heap.size, 3, none⟩ = some ((Value.slice a76 m77 c78)) := bx101.2 3 (by simp)
  have k155 : w126.cell? ⟨w47.heap.size, 4, none⟩ = some (Value.int .i64 (newYardF s_aBlocks0 s_aThreads0).1.passes) := bx101.2 4 (by simp)
  go_wp2_with fail
  clear k146 k147 k148 k149 k150 k151 k152 k153 k154 k155
  refine (heldYard_c _ _ _ _ _ _ _ _ _ _ _ (by omega) (by omega) (by omega) (by omega) (by omega) (by omega) (Flat.of_owns o131) (Flat.of_owns o132) (Flat.of_owns o133) (Flat.of_owns o134)).mono ?_
  rintro e w156 ⟨rfl, b157⟩
  have t158 := Below.trans t144 (Below.mono b157 t144.size)
  have s159 := Below.trans s145 (Below.mono b157 s145.size)
  replace o131 := owns_below o131 b157
  replace o132 := owns_below o132 b157
  replace o133 := owns_below o133 b157
  replace o134 := owns_below o134 b157
  replace bx40 := Box.below bx40 b157
  replace bx101 := Box.below bx101 b157
  have k160 : w156.cell? ⟨w1.heap.size, 0, none⟩ = some ((Value.slice a21 m22 c23)) := bx40.2 0 (by simp)
  have k161 : w156.cell? ⟨w1.heap.size, 1, none⟩ = some ((Value.slice a24 m25 c26)) := bx40.2 1 (by simp)
  have k162 : w156.cell? ⟨w1.heap.size, 2, none⟩ = some ((Value.slice a27 m28 c29)) := bx40.2 2 (by simp)
  have k163 : w156.cell? ⟨w1.heap.size, 3, none⟩ = some ((Value.slice a30 m31 c32)) := bx40.2 3 (by simp)
  have k164 : w156.cell? ⟨w1.heap.size, 4, none⟩ = some (Value.int .i64 (newYardF s_aBlocks0 s_aThreads0).1.passes) := bx40.2 4 (by simp)
  have k165 : w156.cell? ⟨w47.heap.size, 0, none⟩ = some ((Value.slice a67 m68 c69)) := bx101.2 0 (by simp)
  have k166 : w156.cell? ⟨w47.heap.size, 1, none⟩ = some ((Value.slice a70 m71 c72)) := bx101.2 1 (by simp)
  have k167 : w156.cell? ⟨w47.heap.size, 2, none⟩ = some ((Value.slice a73 m74 c75)) := bx101.2 2 (by simp)
  have k168 : w156.cell? ⟨w47.heap.size, 3, none⟩ = some ((Value.slice a76 m77 c78)) := bx101.2 3 (by simp)
  have k169 : w156.cell? ⟨w47.heap.size, 4, none⟩ = some (Value.int .i64 (newYardF s_aBlocks0 s_aThreads0).1.passes) := bx101.2 4 (by simp)
  go_wp2_with fail
  clear k160 k161 k162 k163 k164 k165 k166 k167 k168 k169
  have p170 := o131
  have p171 := o132
  have p172 := o133
  have p173 := o134
  have q174 := (bx40).1
  have q175 := (bx101).1
  refine (impl_NewYard s_aBlocks0 s_aThreads0 _ ).mono ?_
  rintro e w176 ⟨v178, v181, v184, v187, rfl, o179, l180, o182, l183, o185, l186, o188, l189, ap190, ap191, ap192, ap193, ap194, ap195, b177⟩
  obtain ⟨a196, m197, c198, rfl⟩ := owns_form3 o179
  obtain ⟨a199, m200, c201, rfl⟩ := owns_form3 o182
  obtain ⟨a202, m203, c204, rfl⟩ := owns_form3 o185
  obtain ⟨a205, m206, c207, rfl⟩ := owns_form3 o188
  have t208 := Below.trans t158 (Below.mono b177 t158.size)
  have s209 := Below.trans s159 (Below.mono b177 s159.size)
  replace o131 := owns_below o131 b177
  replace o132 := owns_below o132 b177
  replace o133 := owns_below o133 b177
  replace o134 := owns_below o134 b177
  replace bx40 := Box.below bx40 b177
  replace bx101 := Box.below bx101 b177
  have tb210 := Below.size t158
  have hb211 := Below.size s159
  have ap212 := apart p170 (Nat.le_refl _) o179
  have ap213 := apart p171 (Nat.le_refl _) o179
  have ap214 := apart p172 (Nat.le_refl _) o179
  have ap215 := apart p173 (Nat.le_refl _) o179
  have ne216 : ¬ (Value.slice a196 m197 c198).ownBlock = some (w1.heap.size) := fun e => by have h1 := (World.ownsRow.lt o179 _ e).1; have h2 := q174; omega
  have ne217 : ¬ (Value.slice a196 m197 c198).ownBlock = some (w47.heap.size) := fun e => by have h1 := (World.ownsRow.lt o179 _ e).1; have h2 := q175; omega
  have ap218 := apart p170 (Nat.le_refl _) o182
  have ap219 := apart p171 (Nat.le_refl _) o182
  have ap220 := apart p172 (Nat.le_refl _) o182
  have ap221 := apart p173 (Nat.le_refl _) o182
  have ne222 : ¬ (Value.slice a199 m200 c201).ownBlock = some (w1.heap.size) := fun e => by have h1 := (World.ownsRow.lt o182 _ e).1; have h2 := q174; omega
  have ne223 : ¬ (Value.slice a199 m200 c201).ownBlock = some (w47.heap.size) := fun e => by have h1 := (World.ownsRow.lt o182 _ e).1; have h2 := q175; omega
  have ap224 := apart p170 (Nat.le_refl _) o185
  have ap225 := apart p171 (Nat.le_refl _) o185
  have ap226 := apart p172 (Nat.le_refl _) o185
  have ap227 := apart p173 (Nat.le_refl _) o185
  have ne228 : ¬ (Value.slice a202 m203 c204).ownBlock = some (w1.heap.size) := fun e => by have h1 := (World.ownsRow.lt o185 _ e).1; have h2 := q174; omega
  have ne229 : ¬ (Value.slice a202 m203 c204).ownBlock = some (w47.heap.size) := fun e => by have h1 := (World.ownsRow.lt o185 _ e).1; have h2 := q175; omega
  have ap230 := apart p170 (Nat.le_refl _) o188
  have ap231 := apart p171 (Nat.le_refl _) o188
  have ap232 := apart p172 (Nat.le_refl _) o188
  have ap233 := apart p173 (Nat.le_refl _) o188
  have ne234 : ¬ (Value.slice a205 m206 c207).ownBlock = some (w1.heap.size) := fun e => by have h1 := (World.ownsRow.lt o188 _ e).1; have h2 := q174; omega
  have ne235 : ¬ (Value.slice a205 m206 c207).ownBlock = some (w47.heap.size) := fun e => by have h1 := (World.ownsRow.lt o188 _ e).1; have h2 := q175; omega
  have k236 : w176.cell? ⟨w1.heap.size, 0, none⟩ = some ((Value.slice a21 m22 c23)) := bx40.2 0 (by simp)
  have k237 : w176.cell? ⟨w1.heap.size, 1, none⟩ = some ((Value.slice a24 m25 c26)) := bx40.2 1 (by simp)
  have k238 : w176.cell? ⟨w1.heap.size, 2, none⟩ = some ((Value.slice a27 m28 c29)) := bx40.2 2 (by simp)
  have k239 : w176.cell? ⟨w1.heap.size, 3, none⟩ = some ((Value.slice a30 m31 c32)) := bx40.2 3 (by simp)
  have k240 : w176.cell? ⟨w1.heap.size, 4, none⟩ = some (Value.int .i64 (newYardF s_aBlocks0 s_aThreads0).1.passes) := bx40.2 4 (by simp)
  have k241 : w176.cell? ⟨w47.heap.size, 0, none⟩ = some ((Value.slice a67 m68 c69)) := bx101.2 0 (by simp)
  have k242 : w176.cell? ⟨w47.heap.size, 1, none⟩ = some ((Value.slice a70 m71 c72)) := bx101.2 1 (by simp)
  have k243 : w176.cell? ⟨w47.heap.size, 2, none⟩ = some ((Value.slice a73 m74 c75)) := bx101.2 2 (by simp)
  have k244 : w176.cell? ⟨w47.heap.size, 3, none⟩ = some ((Value.slice a76 m77 c78)) := bx101.2 3 (by simp)
  have k245 : w176.cell? ⟨w47.heap.size, 4, none⟩ = some (Value.int .i64 (newYardF s_aBlocks0 s_aThreads0).1.passes) := bx101.2 4 (by simp)
  obtain ⟨X246, hX247⟩ : ∃ X, w176.alloc (.cells #[(Value.slice a196 m197 c198), (Value.slice a199 m200 c201), (Value.slice a202 m203 c204), (Value.slice a205 m206 c207), Value.int .i64 (newYardF s_aBlocks0 s_aThreads0).1.passes] 30) = X := ⟨_, rfl⟩
  have bX248 : Below w176.heap.size w176 X246 := by rw [← hX247]; exact (Below.refl _ _).alloc (Nat.le_refl _) _
  have ne249 : ¬ (Value.slice a67 m68 c69).ownBlock = some (w176.heap.size) := fun e => by have h1 := (World.ownsRow.lt o131 _ e).2; omega
  have ne250 : ¬ (Value.slice a70 m71 c72).ownBlock = some (w176.heap.size) := fun e => by have h1 := (World.ownsRow.lt o132 _ e).2; omega
  have ne251 : ¬ (Value.slice a73 m74 c75).ownBlock = some (w176.heap.size) := fun e => by have h1 := (World.ownsRow.lt o133 _ e).2; omega
  have ne252 : ¬ (Value.slice a76 m77 c78).ownBlock = some (w176.heap.size) := fun e => by have h1 := (World.ownsRow.lt o134 _ e).2; omega
  have ne253 : ¬ (Value.slice a196 m197 c198).ownBlock = some (w176.heap.size) := fun e => by have h1 := (World.ownsRow.lt o179 _ e).2; omega
  have ne254 : ¬ (Value.slice a199 m200 c201).ownBlock = some (w176.heap.size) := fun e => by have h1 := (World.ownsRow.lt o182 _ e).2; omega
  have ne255 : ¬ (Value.slice a202 m203 c204).ownBlock = some (w176.heap.size) := fun e => by have h1 := (World.ownsRow.lt o185 _ e).2; omega
  have ne256 : ¬ (Value.slice a205 m206 c207).ownBlock = some (w176.heap.size) := fun e => by have h1 := (World.ownsRow.lt o188 _ e).2; omega
  have t257 := Below.trans t208 (Below.mono bX248 t208.size)
  have s258 := Below.trans s209 (Below.mono bX248 s209.size)
  replace o131 := owns_below o131 bX248
  replace o132 := owns_below o132 bX248
  replace o133 := owns_below o133 bX248
  replace o134 := owns_below o134 bX248
  replace o179 := owns_below o179 bX248
  replace o182 := owns_below o182 bX248
  replace o185 := owns_below o185 bX248
  replace o188 := owns_below o188 bX248
  replace bx40 := Box.below bx40 bX248
  replace bx101 := Box.below bx101 bX248
  have bx259 : Box X246 (w176.heap.size) [(Value.slice a196 m197 c198), (Value.slice a199 m200 c201), (Value.slice a202 m203 c204), (Value.slice a205 m206 c207), Value.int .i64 (newYardF s_aBlocks0 s_aThreads0).1.passes] := by rw [← hX247]; exact Box.alloc _ _ _
  have k260 : X246.cell? ⟨w1.heap.size, 0, none⟩ = some ((Value.slice a21 m22 c23)) := bx40.2 0 (by simp)
  have k261 : X246.cell? ⟨w1.heap.size, 1, none⟩ = some ((Value.slice a24 m25 c26)) := bx40.2 1 (by simp)
  have k262 : X246.cell? ⟨w1.heap.size, 2, none⟩ = some ((Value.slice a27 m28 c29)) := bx40.2 2 (by simp)
  have k263 : X246.cell? ⟨w1.heap.size, 3, none⟩ = some ((Value.slice a30 m31 c32)) := bx40.2 3 (by simp)
  have k264 : X246.cell? ⟨w1.heap.size, 4, none⟩ = some (Value.int .i64 (newYardF s_aBlocks0 s_aThreads0).1.passes) := bx40.2 4 (by simp)
  have k265 : X246.cell? ⟨w47.heap.size, 0, none⟩ = some ((Value.slice a67 m68 c69)) := bx101.2 0 (by simp)
  have k266 : X246.cell? ⟨w47.heap.size, 1, none⟩ = some ((Value.slice a70 m71 c72)) := bx101.2 1 (by simp)
  have k267 : X246.cell? ⟨w47.heap.size, 2, none⟩ = some ((Value.slice a73 m74 c75)) := bx101.2 2 (by simp)
  have k268 : X246.cell? ⟨w47.heap.size, 3, none⟩ = some ((Value.slice a76 m77 c78)) := bx101.2 3 (by simp)
  have k269 : X246.cell? ⟨w47.heap.size, 4, none⟩ = some (Value.int .i64 (newYardF s_aBlocks0 s_aThreads0).1.passes) := bx101.2 4 (by simp)
  have k270 : X246.cell? ⟨w176.heap.size, 0, none⟩ = some ((Value.slice a196 m197 c198)) := bx259.2 0 (by simp)
  have k271 : X246.cell? ⟨w176.heap.size, 1, none⟩ = some ((Value.slice a199 m200 c201)) := bx259.2 1 (by simp)
  have k272 : X246.cell? ⟨w176.heap.size, 2, none⟩ = some ((Value.slice a202 m203 c204)) := bx259.2 2 (by simp)
  have k273 : X246.cell? ⟨w176.heap.size, 3, none⟩ = some ((Value.slice a205 m206 c207)) := bx259.2 3 (by simp)
  have k274 : X246.cell? ⟨w176.heap.size, 4, none⟩ = some (Value.int .i64 (newYardF s_aBlocks0 s_aThreads0).1.passes) := bx259.2 4 (by simp)
  go_wp2_with fail
  clear k236 k237 k238 k239 k240 k241 k242 k243 k244 k245 k260 k261 k262 k263 k264 k265 k266 k267 k268 k269 k270 k271 k272 k273 k274 hX247
  refine (eqYard_c _ _ _ _ _ _ _ _ _ _ _ _ _ _ (Flat.of_owns o179) (Flat.of_owns o182) (Flat.of_owns o185) (Flat.of_owns o188) (FlatB.flat (FlatB.below o4 s258) s258.size) (FlatB.flat (FlatB.below o7 s258) s258.size) (FlatB.flat (FlatB.below o10 s258) s258.size) (FlatB.flat (FlatB.below o13 s258) s258.size)).mono ?_
  rintro e w275 ⟨rfl, b276⟩
  have t277 := Below.trans t257 (Below.mono b276 t257.size)
  have s278 := Below.trans s258 (Below.mono b276 s258.size)
  replace o131 := owns_below o131 b276
  replace o132 := owns_below o132 b276
  replace o133 := owns_below o133 b276
  replace o134 := owns_below o134 b276
  replace o179 := owns_below o179 b276
  replace o182 := owns_below o182 b276
  replace o185 := owns_below o185 b276
  replace o188 := owns_below o188 b276
  replace bx40 := Box.below bx40 b276
  replace bx101 := Box.below bx101 b276
  replace bx259 := Box.below bx259 b276
  have k279 : w275.cell? ⟨w1.heap.size, 0, none⟩ = some ((Value.slice a21 m22 c23)) := bx40.2 0 (by simp)
  have k280 : w275.cell? ⟨w1.heap.size, 1, none⟩ = some ((Value.slice a24 m25 c26)) := bx40.2 1 (by simp)
  have k281 : w275.cell? ⟨w1.heap.size, 2, none⟩ = some ((Value.slice a27 m28 c29)) := bx40.2 2 (by simp)
  have k282 : w275.cell? ⟨w1.heap.size, 3, none⟩ = some ((Value.slice a30 m31 c32)) := bx40.2 3 (by simp)
  have k283 : w275.cell? ⟨w1.heap.size, 4, none⟩ = some (Value.int .i64 (newYardF s_aBlocks0 s_aThreads0).1.passes) := bx40.2 4 (by simp)
  have k284 : w275.cell? ⟨w47.heap.size, 0, none⟩ = some ((Value.slice a67 m68 c69)) := bx101.2 0 (by simp)
  have k285 : w275.cell? ⟨w47.heap.size, 1, none⟩ = some ((Value.slice a70 m71 c72)) := bx101.2 1 (by simp)
  have k286 : w275.cell? ⟨w47.heap.size, 2, none⟩ = some ((Value.slice a73 m74 c75)) := bx101.2 2 (by simp)
  have k287 : w275.cell? ⟨w47.heap.size, 3, none⟩ = some ((Value.slice a76 m77 c78)) := bx101.2 3 (by simp)
  have k288 : w275.cell? ⟨w47.heap.size, 4, none⟩ = some (Value.int .i64 (newYardF s_aBlocks0 s_aThreads0).1.passes) := bx101.2 4 (by simp)
  have k289 : w275.cell? ⟨w176.heap.size, 0, none⟩ = some ((Value.slice a196 m197 c198)) := bx259.2 0 (by simp)
  have k290 : w275.cell? ⟨w176.heap.size, 1, none⟩ = some ((Value.slice a199 m200 c201)) := bx259.2 1 (by simp)
  have k291 : w275.cell? ⟨w176.heap.size, 2, none⟩ = some ((Value.slice a202 m203 c204)) := bx259.2 2 (by simp)
  have k292 : w275.cell? ⟨w176.heap.size, 3, none⟩ = some ((Value.slice a205 m206 c207)) := bx259.2 3 (by simp)
  have k293 : w275.cell? ⟨w176.heap.size, 4, none⟩ = some (Value.int .i64 (newYardF s_aBlocks0 s_aThreads0).1.passes) := bx259.2 4 (by simp)
  go_wp2_with fail
  clear k279 k280 k281 k282 k283 k284 k285 k286 k287 k288 k289 k290 k291 k292 k293
  refine (heldYard_c _ _ _ _ _ _ _ _ _ _ _ (by omega) (by omega) (by omega) (by omega) (by omega) (by omega) (Flat.of_owns o131) (Flat.of_owns o132) (Flat.of_owns o133) (Flat.of_owns o134)).mono ?_
  rintro e w294 ⟨rfl, b295⟩
  have t296 := Below.trans t277 (Below.mono b295 t277.size)
  have s297 := Below.trans s278 (Below.mono b295 s278.size)
  replace o131 := owns_below o131 b295
  replace o132 := owns_below o132 b295
  replace o133 := owns_below o133 b295
  replace o134 := owns_below o134 b295
  replace o179 := owns_below o179 b295
  replace o182 := owns_below o182 b295
  replace o185 := owns_below o185 b295
  replace o188 := owns_below o188 b295
  replace bx40 := Box.below bx40 b295
  replace bx101 := Box.below bx101 b295
  replace bx259 := Box.below bx259 b295
  have k298 : w294.cell? ⟨w1.heap.size, 0, none⟩ = some ((Value.slice a21 m22 c23)) := bx40.2 0 (by simp)
  have k299 : w294.cell? ⟨w1.heap.size, 1, none⟩ = some ((Value.slice a24 m25 c26)) := bx40.2 1 (by simp)
  have k300 : w294.cell? ⟨w1.heap.size, 2, none⟩ = some ((Value.slice a27 m28 c29)) := bx40.2 2 (by simp)
  have k301 : w294.cell? ⟨w1.heap.size, 3, none⟩ = some ((Value.slice a30 m31 c32)) := bx40.2 3 (by simp)
  have k302 : w294.cell? ⟨w1.heap.size, 4, none⟩ = some (Value.int .i64 (newYardF s_aBlocks0 s_aThreads0).1.passes) := bx40.2 4 (by simp)
  have k303 : w294.cell? ⟨w47.heap.size, 0, none⟩ = some ((Value.slice a67 m68 c69)) := bx101.2 0 (by simp)
  have k304 : w294.cell? ⟨w47.heap.size, 1, none⟩ = some ((Value.slice a70 m71 c72)) := bx101.2 1 (by simp)
  have k305 : w294.cell? ⟨w47.heap.size, 2, none⟩ = some ((Value.slice a73 m74 c75)) := bx101.2 2 (by simp)
  have k306 : w294.cell? ⟨w47.heap.size, 3, none⟩ = some ((Value.slice a76 m77 c78)) := bx101.2 3 (by simp)
  have k307 : w294.cell? ⟨w47.heap.size, 4, none⟩ = some (Value.int .i64 (newYardF s_aBlocks0 s_aThreads0).1.passes) := bx101.2 4 (by simp)
  have k308 : w294.cell? ⟨w176.heap.size, 0, none⟩ = some ((Value.slice a196 m197 c198)) := bx259.2 0 (by simp)
  have k309 : w294.cell? ⟨w176.heap.size, 1, none⟩ = some ((Value.slice a199 m200 c201)) := bx259.2 1 (by simp)
  have k310 : w294.cell? ⟨w176.heap.size, 2, none⟩ = some ((Value.slice a202 m203 c204)) := bx259.2 2 (by simp)
  have k311 : w294.cell? ⟨w176.heap.size, 3, none⟩ = some ((Value.slice a205 m206 c207)) := bx259.2 3 (by simp)
  have k312 : w294.cell? ⟨w176.heap.size, 4, none⟩ = some (Value.int .i64 (newYardF s_aBlocks0 s_aThreads0).1.passes) := bx259.2 4 (by simp)
  go_wp2_with fail
  clear k298 k299 k300 k301 k302 k303 k304 k305 k306 k307 k308 k309 k310 k311 k312
  try go_wp2
  go_ret
  exact ⟨rfl, hB0.trans (Below.mono t296 hB0.size)⟩

end Go.Proofs.Ytdnfphpeleakcaa
