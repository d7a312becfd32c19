/- FnExactSumPh, walked. -/
import Derived.Test.YtjcnoogloncbbaaS4b
import Derived.Test.YtjcnoogloncbbaaI4b
import Derived.Test.YtjcnoogloncbbaaBx
import Derived.Test.YtjcnoogloncbbaaKeep
import Derived.Deep.RegionHeld3
import Derived.StillTailTactics
namespace Go.Proofs.Ytjcnoogloncbbaa
set_option maxRecDepth 100000
open Go.RowKit Go.Proofs Go.Own
set_option linter.unusedVariables false

set_option maxRecDepth 100000 in
set_option maxHeartbeats 8000000 in
theorem law_SumPh (v_aList0 : Value) (x_aList0 : List Phasor) (w : World) (h_aList0 : Phasors w v_aList0 x_aList0) :
    Calls Try.prog 9 #[v_aList0] w fun e w' => e = .returned (.bool true) ∧ Below w.heap.size w w' := by
  obtain ⟨ad_aList0, cap_aList0, rfl, hl_aList0, hm_aList0⟩ := Flat.form h_aList0
  have hB0 : Below w.heap.size w w := Below.refl _ _
  go_enter Try.func9, Try.ntmps9
  go_wp2_with fail
  have hl0_aList : 0 ≤ (1048576 : Int) := by omega
  refine (szPhasorS_c _ _ _ _ _ (by omega) (by omega) (by omega)).mono ?_
  rintro e w1 ⟨rfl, b2⟩
  obtain rfl := b2
  by_cases big_aList : (1048576 : Int) < (x_aList0.length : Int)
  · rw [if_pos big_aList]
    go_wp2
    go_ret
    exact ⟨rfl, hB0.trans (Below.mono (Below.refl _ _ : Below w.heap.size w w) hB0.size)⟩
  rw [if_neg big_aList]
  go_wp2_with fail
  have hx_aList0 : x_aList0.length ≤ 1048576 := by omega
  refine (toPhasorS_c _ x_aList0 _ hx_aList0 (FlatB.flat (FlatB.below h_aList0 (Below.refl _ _ : Below w.heap.size w w)) (Below.refl _ _ : Below w.heap.size w w).size)).mono ?_
  rintro e w3 ⟨v5, rfl, o6, b4⟩
  obtain ⟨a7, m8, c9, rfl⟩ := owns_form3 o6
  have t10 := Below.trans (Below.refl _ _ : Below w.heap.size w w) (Below.mono b4 (Below.refl _ _ : Below w.heap.size w w).size)
  go_wp2_with fail
  refine (spec_SumPh _ x_aList0 _ (Flat.of_owns o6) hx_aList0).mono ?_
  rintro e w11 ⟨q13, rfl, hq14, b12⟩
  unfold Phasor.val
  have t15 := Below.trans t10 (Below.mono b12 t10.size)
  have s16 : Below w11.heap.size w11 w11 := Below.refl _ _
  obtain ⟨X17, hX18⟩ : ∃ X, w11.alloc (.cells #[Value.float .f64 q13.re_, Value.float .f64 q13.im_] 29) = X := ⟨_, rfl⟩
  have bX19 : Below w11.heap.size w11 X17 := by rw [← hX18]; exact (Below.refl _ _).alloc (Nat.le_refl _) _
  have t20 := Below.trans t15 (Below.mono bX19 t15.size)
  have s21 := Below.trans s16 (Below.mono bX19 s16.size)
  have bx22 : Box X17 (w11.heap.size) [Value.float .f64 q13.re_, Value.float .f64 q13.im_] := by rw [← hX18]; exact Box.alloc _ _ _
  have k23 : X17.cell? ⟨w11.heap.size, 0, none⟩ = some (Value.float .f64 q13.re_) := bx22.2 0 (by simp)
  have k24 : X17.cell? ⟨w11.heap.size, 1, none⟩ = some (Value.float .f64 q13.im_) := bx22.2 1 (by simp)
  go_wp2_with fail
  clear k23 k24 hX18
  have q25 := (bx22).1
  refine (toPhasorS_c _ x_aList0 _ hx_aList0 (FlatB.flat (FlatB.below h_aList0 t20) t20.size)).mono ?_
  rintro e w26 ⟨v28, rfl, o29, b27⟩
  obtain ⟨a30, m31, c32, rfl⟩ := owns_form3 o29
  have t33 := Below.trans t20 (Below.mono b27 t20.size)
  have s34 := Below.trans s21 (Below.mono b27 s21.size)
  replace bx22 := Box.below bx22 b27
  have tb35 := Below.size t20
  have hb36 := Below.size s21
  have ne37 : ¬ (Value.slice a30 m31 c32).ownBlock = some (w11.heap.size) := fun e => by have h1 := (World.ownsRow.lt o29 _ e).1; have h2 := q25; omega
  have k38 : w26.cell? ⟨w11.heap.size, 0, none⟩ = some (Value.float .f64 q13.re_) := bx22.2 0 (by simp)
  have k39 : w26.cell? ⟨w11.heap.size, 1, none⟩ = some (Value.float .f64 q13.im_) := bx22.2 1 (by simp)
  go_wp2_with fail
  clear k38 k39
  have p40 := o29
  have q41 := (bx22).1
  refine (impl_SumPh _ x_aList0 _ (Flat.of_owns o29) hx_aList0).mono ?_
  rintro e w42 ⟨q44, rfl, hq45, b43⟩
  unfold Phasor.val
  have t46 := Below.trans t33 (Below.mono b43 t33.size)
  have s47 := Below.trans s34 (Below.mono b43 s34.size)
  replace o29 := owns_below o29 b43
  replace bx22 := Box.below bx22 b43
  have tb48 := Below.size t33
  have hb49 := Below.size s34
  have k50 : w42.cell? ⟨w11.heap.size, 0, none⟩ = some (Value.float .f64 q13.re_) := bx22.2 0 (by simp)
  have k51 : w42.cell? ⟨w11.heap.size, 1, none⟩ = some (Value.float .f64 q13.im_) := bx22.2 1 (by simp)
  obtain ⟨X52, hX53⟩ : ∃ X, w42.alloc (.cells #[Value.float .f64 q44.re_, Value.float .f64 q44.im_] 29) = X := ⟨_, rfl⟩
  have bX54 : Below w42.heap.size w42 X52 := by rw [← hX53]; exact (Below.refl _ _).alloc (Nat.le_refl _) _
  have ne55 : ¬ (Value.slice a30 m31 c32).ownBlock = some (w42.heap.size) := fun e => by have h1 := (World.ownsRow.lt o29 _ e).2; omega
  have t56 := Below.trans t46 (Below.mono bX54 t46.size)
  have s57 := Below.trans s47 (Below.mono bX54 s47.size)
  replace o29 := owns_below o29 bX54
  replace bx22 := Box.below bx22 bX54
  have bx58 : Box X52 (w42.heap.size) [Value.float .f64 q44.re_, Value.float .f64 q44.im_] := by rw [← hX53]; exact Box.alloc _ _ _
  have k59 : X52.cell? ⟨w11.heap.size, 0, none⟩ = some (Value.float .f64 q13.re_) := bx22.2 0 (by simp)
  have k60 : X52.cell? ⟨w11.heap.size, 1, none⟩ = some (Value.float .f64 q13.im_) := bx22.2 1 (by simp)
  have k61 : X52.cell? ⟨w42.heap.size, 0, none⟩ = some (Value.float .f64 q44.re_) := bx58.2 0 (by simp)
  have k62 : X52.cell? ⟨w42.heap.size, 1, none⟩ = some (Value.float .f64 q44.im_) := bx58.2 1 (by simp)
  go_wp2_with fail
  clear k50 k51 k59 k60 k61 k62 hX53
  refine (eqPhasor_c q44 q13 (hq45.trans hq14.symm) _).mono ?_
  rintro e w63 ⟨rfl, b64⟩
  have t65 := Below.trans t56 (Below.mono b64 t56.size)
  have s66 := Below.trans s57 (Below.mono b64 s57.size)
  replace o29 := owns_below o29 b64
  replace bx22 := Box.below bx22 b64
  replace bx58 := Box.below bx58 b64
  have k67 : w63.cell? ⟨w11.heap.size, 0, none⟩ = some (Value.float .f64 q13.re_) := bx22.2 0 (by simp)
  have k68 : w63.cell? ⟨w11.heap.size, 1, none⟩ = some (Value.float .f64 q13.im_) := bx22.2 1 (by simp)
  have k69 : w63.cell? ⟨w42.heap.size, 0, none⟩ = some (Value.float .f64 q44.re_) := bx58.2 0 (by simp)
  have k70 : w63.cell? ⟨w42.heap.size, 1, none⟩ = some (Value.float .f64 q44.im_) := bx58.2 1 (by simp)
  go_wp2_with fail
  clear k67 k68 k69 k70
  refine (toPhasorS_c _ x_aList0 _ hx_aList0 (FlatB.flat (FlatB.below h_aList0 t65) t65.size)).mono ?_
  rintro e w71 ⟨v73, rfl, o74, b72⟩
  obtain ⟨a75, m76, c77, rfl⟩ := owns_form3 o74
  have t78 := Below.trans t65 (Below.mono b72 t65.size)
  have s79 := Below.trans s66 (Below.mono b72 s66.size)
  replace o29 := owns_below o29 b72
  replace bx22 := Box.below bx22 b72
  replace bx58 := Box.below bx58 b72
  have k80 : w71.cell? ⟨w11.heap.size, 0, none⟩ = some (Value.float .f64 q13.re_) := bx22.2 0 (by simp)
  have k81 : w71.cell? ⟨w11.heap.size, 1, none⟩ = some (Value.float .f64 q13.im_) := bx22.2 1 (by simp)
  have k82 : w71.cell? ⟨w42.heap.size, 0, none⟩ = some (Value.float .f64 q44.re_) := bx58.2 0 (by simp)
  have k83 : w71.cell? ⟨w42.heap.size, 1, none⟩ = some (Value.float .f64 q44.im_) := bx58.2 1 (by simp)
  go_wp2_with fail
  clear k80 k81 k82 k83
  refine (eqPhasorS_c _ _ _ _ _ (Flat.of_owns o29) (Flat.of_owns o74) rfl).mono ?_
  rintro e w84 ⟨rfl, b85⟩
  have t86 := Below.trans t78 (Below.mono b85 t78.size)
  have s87 := Below.trans s79 (Below.mono b85 s79.size)
  replace o29 := owns_below o29 b85
  replace bx22 := Box.below bx22 b85
  replace bx58 := Box.below bx58 b85
  have k88 : w84.cell? ⟨w11.heap.size, 0, none⟩ = some (Value.float .f64 q13.re_) := bx22.2 0 (by simp)
  have k89 : w84.cell? ⟨w11.heap.size, 1, none⟩ = some (Value.float .f64 q13.im_) := bx22.2 1 (by simp)
  have k90 : w84.cell? ⟨w42.heap.size, 0, none⟩ = some (Value.float .f64 q44.re_) := bx58.2 0 (by simp)
  have k91 : w84.cell? ⟨w42.heap.size, 1, none⟩ = some (Value.float .f64 q44.im_) := bx58.2 1 (by simp)
  go_wp2_with fail
  clear k88 k89 k90 k91
  try go_wp2
  go_ret
  exact ⟨rfl, hB0.trans (Below.mono t86 hB0.size)⟩

end Go.Proofs.Ytjcnoogloncbbaa
