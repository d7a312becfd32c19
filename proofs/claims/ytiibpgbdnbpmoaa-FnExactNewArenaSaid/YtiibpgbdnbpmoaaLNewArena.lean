/- FnExactNewArena, walked. -/
import Derived.Test.YtiibpgbdnbpmoaaI2new
import Derived.Test.YtiibpgbdnbpmoaaS2new
import Derived.Test.YtiibpgbdnbpmoaaDeep2
import Derived.Deep.RegionHeld3
import Derived.StillTailTactics
namespace Go.Proofs.Ytiibpgbdnbpmoaa
open Go.RowKit Go.Proofs Go.Own
set_option linter.unusedVariables false

set_option maxRecDepth 100000 in
set_option maxHeartbeats 8000000 in
theorem law_NewArena (s_aN0 : Int) (w : World) (hi_s_aN0 : InI s_aN0) :
    Calls Try.prog 4 #[(.int .i64 s_aN0)] w fun e w' => e = .returned (.bool true) ∧ Below w.heap.size w w' := by
  have hB0 : Below w.heap.size w w := Below.refl _ _
  go_enter Try.func4, Try.ntmps4
  go_wp2_with fail
  refine (spec_NewArena s_aN0 _ ).mono ?_
  rintro e w1 ⟨v3, v6, rfl, o4, o7, b2⟩
  obtain ⟨a10, m11, c12, rfl⟩ := Flat.form3 o4
  obtain ⟨a13, m14, c15, rfl⟩ := Flat.form3 o7
  have t16 := Below.trans (Below.refl _ _ : Below w.heap.size w w) (Below.mono b2 (Below.refl _ _ : Below w.heap.size w w).size)
  have s17 : Below w1.heap.size w1 w1 := Below.refl _ _
  obtain ⟨X18, hX19⟩ : ∃ X, w1.alloc (.cells #[(Value.slice a10 m11 c12), (Value.slice a13 m14 c15)] 30) = X := ⟨_, rfl⟩
  have bX20 : Below w1.heap.size w1 X18 := by rw [← hX19]; exact (Below.refl _ _).alloc (Nat.le_refl _) _
  have t21 := Below.trans t16 (Below.mono bX20 t16.size)
  have s22 := Below.trans s17 (Below.mono bX20 s17.size)
  have bx23 : Box X18 (w1.heap.size) [(Value.slice a10 m11 c12), (Value.slice a13 m14 c15)] := by rw [← hX19]; exact Box.alloc _ _ _
  have k24 : X18.cell? ⟨w1.heap.size, 0, none⟩ = some ((Value.slice a10 m11 c12)) := bx23.2 0 (by simp)
  have k25 : X18.cell? ⟨w1.heap.size, 1, none⟩ = some ((Value.slice a13 m14 c15)) := bx23.2 1 (by simp)
  go_wp2_with fail
  clear k24 k25 hX19
  have q26 := (bx23).1
  refine (impl_NewArena s_aN0 _ ).mono ?_
  rintro e w27 ⟨v29, v32, rfl, o30, l31, o33, l34, ap35, b28⟩
  obtain ⟨a36, m37, c38, rfl⟩ := owns_form3 o30
  obtain ⟨a39, m40, c41, rfl⟩ := owns_form3 o33
  have t42 := Below.trans t21 (Below.mono b28 t21.size)
  have s43 := Below.trans s22 (Below.mono b28 s22.size)
  replace bx23 := Box.below bx23 b28
  have tb44 := Below.size t21
  have hb45 := Below.size s22
  have ne46 : ¬ (Value.slice a36 m37 c38).ownBlock = some (w1.heap.size) := fun e => by have h1 := (World.ownsRow.lt o30 _ e).1; have h2 := q26; omega
  have ne47 : ¬ (Value.slice a39 m40 c41).ownBlock = some (w1.heap.size) := fun e => by have h1 := (World.ownsRow.lt o33 _ e).1; have h2 := q26; omega
  have k48 : w27.cell? ⟨w1.heap.size, 0, none⟩ = some ((Value.slice a10 m11 c12)) := bx23.2 0 (by simp)
  have k49 : w27.cell? ⟨w1.heap.size, 1, none⟩ = some ((Value.slice a13 m14 c15)) := bx23.2 1 (by simp)
  obtain ⟨X50, hX51⟩ : ∃ X, w27.alloc (.cells #[(Value.slice a36 m37 c38), (Value.slice a39 m40 c41)] 30) = X := ⟨_, rfl⟩
  have bX52 : Below w27.heap.size w27 X50 := by rw [← hX51]; exact (Below.refl _ _).alloc (Nat.le_refl _) _
  have ne53 : ¬ (Value.slice a36 m37 c38).ownBlock = some (w27.heap.size) := fun e => by have h1 := (World.ownsRow.lt o30 _ e).2; omega
  have ne54 : ¬ (Value.slice a39 m40 c41).ownBlock = some (w27.heap.size) := fun e => by have h1 := (World.ownsRow.lt o33 _ e).2; omega
  have t55 := Below.trans t42 (Below.mono bX52 t42.size)
  have s56 := Below.trans s43 (Below.mono bX52 s43.size)
  replace o30 := owns_below o30 bX52
  replace o33 := owns_below o33 bX52
  replace bx23 := Box.below bx23 bX52
  have bx57 : Box X50 (w27.heap.size) [(Value.slice a36 m37 c38), (Value.slice a39 m40 c41)] := by rw [← hX51]; exact Box.alloc _ _ _
  have k58 : X50.cell? ⟨w1.heap.size, 0, none⟩ = some ((Value.slice a10 m11 c12)) := bx23.2 0 (by simp)
  have k59 : X50.cell? ⟨w1.heap.size, 1, none⟩ = some ((Value.slice a13 m14 c15)) := bx23.2 1 (by simp)
  have k60 : X50.cell? ⟨w27.heap.size, 0, none⟩ = some ((Value.slice a36 m37 c38)) := bx57.2 0 (by simp)
  have k61 : X50.cell? ⟨w27.heap.size, 1, none⟩ = some ((Value.slice a39 m40 c41)) := bx57.2 1 (by simp)
  go_wp2_with fail
  clear k48 k49 k58 k59 k60 k61 hX51
  refine (eqArena_c _ _ _ _ _ _ _ (Flat.of_owns o30) (Flat.of_owns o33) (FlatB.flat (FlatB.below o4 s56) s56.size) (FlatB.flat (FlatB.below o7 s56) s56.size)).mono ?_
  rintro e w62 ⟨rfl, b63⟩
  have t64 := Below.trans t55 (Below.mono b63 t55.size)
  have s65 := Below.trans s56 (Below.mono b63 s56.size)
  replace o30 := owns_below o30 b63
  replace o33 := owns_below o33 b63
  replace bx23 := Box.below bx23 b63
  replace bx57 := Box.below bx57 b63
  have k66 : w62.cell? ⟨w1.heap.size, 0, none⟩ = some ((Value.slice a10 m11 c12)) := bx23.2 0 (by simp)
  have k67 : w62.cell? ⟨w1.heap.size, 1, none⟩ = some ((Value.slice a13 m14 c15)) := bx23.2 1 (by simp)
  have k68 : w62.cell? ⟨w27.heap.size, 0, none⟩ = some ((Value.slice a36 m37 c38)) := bx57.2 0 (by simp)
  have k69 : w62.cell? ⟨w27.heap.size, 1, none⟩ = some ((Value.slice a39 m40 c41)) := bx57.2 1 (by simp)
  go_wp2_with fail
  clear k66 k67 k68 k69
  refine (markArena_c _ _ _ _ _ _ _ _ _ (by omega) (by omega) (by omega) (by omega) o30 o33 ⟨ap35.1, ap35.2⟩).mono ?_
  rintro e w70 ⟨z75, rfl, o73, o74, g71, g72⟩
  have t76 := Below.trans t64 (below_of_mark2 o30 g71 tb44 (Below.size t64))
  have s77 := Below.trans s65 (below_of_mark2 o30 g71 hb45 (Below.size s65))
  replace bx23 := Box.grown bx23 g71 ne46
  replace bx57 := Box.grown bx57 g71 ne53
  have t78 := Below.trans t76 (below_of_mark2 o33 g72 tb44 (Below.size t76))
  have s79 := Below.trans s77 (below_of_mark2 o33 g72 hb45 (Below.size s77))
  replace bx23 := Box.grown bx23 g72 ne47
  replace bx57 := Box.grown bx57 g72 ne54
  have k80 : w70.cell? ⟨w1.heap.size, 0, none⟩ = some ((Value.slice a10 m11 c12)) := bx23.2 0 (by simp)
  have k81 : w70.cell? ⟨w1.heap.size, 1, none⟩ = some ((Value.slice a13 m14 c15)) := bx23.2 1 (by simp)
  have k82 : w70.cell? ⟨w27.heap.size, 0, none⟩ = some ((Value.slice a36 m37 c38)) := bx57.2 0 (by simp)
  have k83 : w70.cell? ⟨w27.heap.size, 1, none⟩ = some ((Value.slice a39 m40 c41)) := bx57.2 1 (by simp)
  go_wp2_with fail
  clear k80 k81 k82 k83
  refine (heldArena_c _ _ _ _ _ _ (by omega) (by omega) (by omega) (by omega) (Flat.of_owns o73) (Flat.of_owns o74)).mono ?_
  rintro e w84 ⟨rfl, b85⟩
  have t86 := Below.trans t78 (Below.mono b85 t78.size)
  have s87 := Below.trans s79 (Below.mono b85 s79.size)
  replace o73 := owns_below o73 b85
  replace o74 := owns_below o74 b85
  replace bx23 := Box.below bx23 b85
  replace bx57 := Box.below bx57 b85
  have k88 : w84.cell? ⟨w1.heap.size, 0, none⟩ = some ((Value.slice a10 m11 c12)) := bx23.2 0 (by simp)
  have k89 : w84.cell? ⟨w1.heap.size, 1, none⟩ = some ((Value.slice a13 m14 c15)) := bx23.2 1 (by simp)
  have k90 : w84.cell? ⟨w27.heap.size, 0, none⟩ = some ((Value.slice a36 m37 c38)) := bx57.2 0 (by simp)
  have k91 : w84.cell? ⟨w27.heap.size, 1, none⟩ = some ((Value.slice a39 m40 c41)) := bx57.2 1 (by simp)
  go_wp2_with fail
  clear k88 k89 k90 k91
  have p92 := o73
  have p93 := o74
  have q94 := (bx23).1
  have q95 := (bx57).1
  refine (impl_NewArena s_aN0 _ ).mono ?_
  rintro e w96 ⟨v98, v101, rfl, o99, l100, o102, l103, ap104, b97⟩
  obtain ⟨a105, m106, c107, rfl⟩ := owns_form3 o99
  obtain ⟨a108, m109, c110, rfl⟩ := owns_form3 o102
  have t111 := Below.trans t86 (Below.mono b97 t86.size)
  have s112 := Below.trans s87 (Below.mono b97 s87.size)
  replace o73 := owns_below o73 b97
  replace o74 := owns_below o74 b97
  replace bx23 := Box.below bx23 b97
  replace bx57 := Box.below bx57 b97
  have tb113 := Below.size t86
  have hb114 := Below.size s87
  have ap115 := apart p92 (Nat.le_refl _) o99
  have ap116 := apart p93 (Nat.le_refl _) o99
  have ne117 : ¬ (Value.slice a105 m106 c107).ownBlock = some (w1.heap.size) := fun e => by have h1 := (World.ownsRow.lt o99 _ e).1; have h2 := q94; omega
  have ne118 : ¬ (Value.slice a105 m106 c107).ownBlock = some (w27.heap.size) := fun e => by have h1 := (World.ownsRow.lt o99 _ e).1; have h2 := q95; omega
  have ap119 := apart p92 (Nat.le_refl _) o102
  have ap120 := apart p93 (Nat.le_refl _) o102
  have ne121 : ¬ (Value.slice a108 m109 c110).ownBlock = some (w1.heap.size) := fun e => by have h1 := (World.ownsRow.lt o102 _ e).1; have h2 := q94; omega
  have ne122 : ¬ (Value.slice a108 m109 c110).ownBlock = some (w27.heap.size) := fun e => by have h1 := (World.ownsRow.lt o102 _ e).1; have h2 := q95; omega
  have k123 : w96.cell? ⟨w1.heap.size, 0, none⟩ = some ((Value.slice a10 m11 c12)) := bx23.2 0 (by simp)
  have k124 : w96.cell? ⟨w1.heap.size, 1, none⟩ = some ((Value.slice a13 m14 c15)) := bx23.2 1 (by simp)
  have k125 : w96.cell? ⟨w27.heap.size, 0, none⟩ = some ((Value.slice a36 m37 c38)) := bx57.2 0 (by simp)
  have k126 : w96.cell? ⟨w27.heap.size, 1, none⟩ = some ((Value.slice a39 m40 c41)) := bx57.2 1 (by simp)
  obtain ⟨X127, hX128⟩ : ∃ X, w96.alloc (.cells #[(Value.slice a105 m106 c107), (Value.slice a108 m109 c110)] 30) = X := ⟨_, rfl⟩
  have bX129 : Below w96.heap.size w96 X127 := by rw [← hX128]; exact (Below.refl _ _).alloc (Nat.le_refl _) _
  have ne130 : ¬ (Value.slice a36 m37 c38).ownBlock = some (w96.heap.size) := fun e => by have h1 := (World.ownsRow.lt o73 _ e).2; omega
  have ne131 : ¬ (Value.slice a39 m40 c41).ownBlock = some (w96.heap.size) := fun e => by have h1 := (World.ownsRow.lt o74 _ e).2; omega
  have ne132 : ¬ (Value.slice a105 m106 c107).ownBlock = some (w96.heap.size) := fun e => by have h1 := (World.ownsRow.lt o99 _ e).2; omega
  have ne133 : ¬ (Value.slice a108 m109 c110).ownBlock = some (w96.heap.size) := fun e => by have h1 := (World.ownsRow.lt o102 _ e).2; omega
  have t134 := Below.trans t111 (Below.mono bX129 t111.size)
  have s135 := Below.trans s112 (Below.mono bX129 s112.size)
  replace o73 := owns_below o73 bX129
  replace o74 := owns_below o74 bX129
  replace o99 := owns_below o99 bX129
  replace o102 := owns_below o102 bX129
  replace bx23 := Box.below bx23 bX129
  replace bx57 := Box.below bx57 bX129
  have bx136 : Box X127 (w96.heap.size) [(Value.slice a105 m106 c107), (Value.slice a108 m109 c110)] := by rw [← hX128]; exact Box.alloc _ _ _
  have k137 : X127.cell? ⟨w1.heap.size, 0, none⟩ = some ((Value.slice a10 m11 c12)) := bx23.2 0 (by simp)
  have k138 : X127.cell? ⟨w1.heap.size, 1, none⟩ = some ((Value.slice a13 m14 c15)) := bx23.2 1 (by simp)
  have k139 : X127.cell? ⟨w27.heap.size, 0, none⟩ = some ((Value.slice a36 m37 c38)) := bx57.2 0 (by simp)
  have k140 : X127.cell? ⟨w27.heap.size, 1, none⟩ = some ((Value.slice a39 m40 c41)) := bx57.2 1 (by simp)
  have k141 : X127.cell? ⟨w96.heap.size, 0, none⟩ = some ((Value.slice a105 m106 c107)) := bx136.2 0 (by simp)
  have k142 : X127.cell? ⟨w96.heap.size, 1, none⟩ = some ((Value.slice a108 m109 c110)) := bx136.2 1 (by simp)
  go_wp2_with fail
  clear k123 k124 k125 k126 k137 k138 k139 k140 k141 k142 hX128
  refine (eqArena_c _ _ _ _ _ _ _ (Flat.of_owns o99) (Flat.of_owns o102) (FlatB.flat (FlatB.below o4 s135) s135.size) (FlatB.flat (FlatB.below o7 s135) s135.size)).mono ?_
  rintro e w143 ⟨rfl, b144⟩
  have t145 := Below.trans t134 (Below.mono b144 t134.size)
  have s146 := Below.trans s135 (Below.mono b144 s135.size)
  replace o73 := owns_below o73 b144
  replace o74 := owns_below o74 b144
  replace o99 := owns_below o99 b144
  replace o102 := owns_below o102 b144
  replace bx23 := Box.below bx23 b144
  replace bx57 := Box.below bx57 b144
  replace bx136 := Box.below bx136 b144
  have k147 : w143.cell? ⟨w1.heap.size, 0, none⟩ = some ((Value.slice a10 m11 c12)) := bx23.2 0 (by simp)
  have k148 : w143.cell? ⟨w1.heap.size, 1, none⟩ = some ((Value.slice a13 m14 c15)) := bx23.2 1 (by simp)
  have k149 : w143.cell? ⟨w27.heap.size, 0, none⟩ = some ((Value.slice a36 m37 c38)) := bx57.2 0 (by simp)
  have k150 : w143.cell? ⟨w27.heap.size, 1, none⟩ = some ((Value.slice a39 m40 c41)) := bx57.2 1 (by simp)
  have k151 : w143.cell? ⟨w96.heap.size, 0, none⟩ = some ((Value.slice a105 m106 c107)) := bx136.2 0 (by simp)
  have k152 : w143.cell? ⟨w96.heap.size, 1, none⟩ = some ((Value.slice a108 m109 c110)) := bx136.2 1 (by simp)
  go_wp2_with fail
  clear k147 k148 k149 k150 k151 k152
  refine (heldArena_c _ _ _ _ _ _ (by omega) (by omega) (by omega) (by omega) (Flat.of_owns o73) (Flat.of_owns o74)).mono ?_
  rintro e w153 ⟨rfl, b154⟩
  have t155 := Below.trans t145 (Below.mono b154 t145.size)
  have s156 := Below.trans s146 (Below.mono b154 s146.size)
  replace o73 := owns_below o73 b154
  replace o74 := owns_below o74 b154
  replace o99 := owns_below o99 b154
  replace o102 := owns_below o102 b154
  replace bx23 := Box.below bx23 b154
  replace bx57 := Box.below bx57 b154
  replace bx136 := Box.below bx136 b154
  have k157 : w153.cell? ⟨w1.heap.size, 0, none⟩ = some ((Value.slice a10 m11 c12)) := bx23.2 0 (by simp)
  have k158 : w153.cell? ⟨w1.heap.size, 1, none⟩ = some ((Value.slice a13 m14 c15)) := bx23.2 1 (by simp)
  have k159 : w153.cell? ⟨w27.heap.size, 0, none⟩ = some ((Value.slice a36 m37 c38)) := bx57.2 0 (by simp)
  have k160 : w153.cell? ⟨w27.heap.size, 1, none⟩ = some ((Value.slice a39 m40 c41)) := bx57.2 1 (by simp)
  have k161 : w153.cell? ⟨w96.heap.size, 0, none⟩ = some ((Value.slice a105 m106 c107)) := bx136.2 0 (by simp)
  have k162 : w153.cell? ⟨w96.heap.size, 1, none⟩ = some ((Value.slice a108 m109 c110)) := bx136.2 1 (by simp)
  go_wp2_with fail
  clear k157 k158 k159 k160 k161 k162
  try go_wp2
  go_ret
  exact ⟨rfl, hB0.trans (Below.mono t155 hB0.size)⟩

end Go.Proofs.Ytiibpgbdnbpmoaa
