/- FnExactFull, walked. -/
import Derived.Test.YtjcnoogloncbbaaS4
import Derived.Test.YtjcnoogloncbbaaI4
import Derived.Test.YtjcnoogloncbbaaBx
import Derived.Test.YtjcnoogloncbbaaKeep
import Derived.Deep.RegionHeld3
import Derived.StillTailTactics
namespace Go.Proofs.Ytjcnoogloncbbaa
set_option maxRecDepth 100000
open Go.RowKit Go.Proofs Go.Own
set_option linter.unusedVariables false

set_option maxRecDepth 100000 in
set_option maxHeartbeats 8000000 in
theorem law_Full (o_aA : Slim) (w : World)  :
    Calls Try.prog 4 #[o_aA.val] w fun e w' => e = .returned (.bool true) ∧ Below w.heap.size w w' := by
  obtain ⟨W1, hW1⟩ : ∃ X, w.alloc (.cells #[Value.float .f32 o_aA.re_, Value.float .f32 o_aA.im_] 33) = X := ⟨_, rfl⟩
  have hbx1 : Below w.heap.size w W1 := by rw [← hW1]; exact (Below.refl _ _).alloc (Nat.le_refl _) _
  have bx_aA : Box W1 w.heap.size [Value.float .f32 o_aA.re_, Value.float .f32 o_aA.im_] := by rw [← hW1]; exact Box.alloc _ _ _
  have hB0 : Below w.heap.size w W1 := hbx1
  unfold Slim.val
  go_enter Try.func4, Try.ntmps4
  have k1 : W1.cell? ⟨w.heap.size, 0, none⟩ = some (Value.float .f32 o_aA.re_) := bx_aA.2 0 (by simp)
  have k2 : W1.cell? ⟨w.heap.size, 1, none⟩ = some (Value.float .f32 o_aA.im_) := bx_aA.2 1 (by simp)
  go_wp2_with fail
  clear k1 k2 hW1
  refine (toSlim_c o_aA _).mono ?_
  rintro e w3 ⟨rfl, b4⟩
  have t5 := Below.trans (Below.refl _ _ : Below W1.heap.size W1 W1) (Below.mono b4 (Below.refl _ _ : Below W1.heap.size W1 W1).size)
  replace bx_aA := Box.below bx_aA b4
  have k6 : w3.cell? ⟨w.heap.size, 0, none⟩ = some (Value.float .f32 o_aA.re_) := bx_aA.2 0 (by simp)
  have k7 : w3.cell? ⟨w.heap.size, 1, none⟩ = some (Value.float .f32 o_aA.im_) := bx_aA.2 1 (by simp)
  go_wp2_with fail
  clear k6 k7
  have q8 := (bx_aA).1
  refine (spec_Full o_aA _ ).mono ?_
  rintro e w9 ⟨q11, rfl, hq12, b10⟩
  unfold Phasor.val
  have t13 := Below.trans t5 (Below.mono b10 t5.size)
  replace bx_aA := Box.below bx_aA b10
  have s14 : Below w9.heap.size w9 w9 := Below.refl _ _
  have k15 : w9.cell? ⟨w.heap.size, 0, none⟩ = some (Value.float .f32 o_aA.re_) := bx_aA.2 0 (by simp)
  have k16 : w9.cell? ⟨w.heap.size, 1, none⟩ = some (Value.float .f32 o_aA.im_) := bx_aA.2 1 (by simp)
  obtain ⟨X17, hX18⟩ : ∃ X, w9.alloc (.cells #[Value.float .f64 q11.re_, Value.float .f64 q11.im_] 29) = X := ⟨_, rfl⟩
  have bX19 : Below w9.heap.size w9 X17 := by rw [← hX18]; exact (Below.refl _ _).alloc (Nat.le_refl _) _
  have t20 := Below.trans t13 (Below.mono bX19 t13.size)
  have s21 := Below.trans s14 (Below.mono bX19 s14.size)
  replace bx_aA := Box.below bx_aA bX19
  have bx22 : Box X17 (w9.heap.size) [Value.float .f64 q11.re_, Value.float .f64 q11.im_] := by rw [← hX18]; exact Box.alloc _ _ _
  have k23 : X17.cell? ⟨w.heap.size, 0, none⟩ = some (Value.float .f32 o_aA.re_) := bx_aA.2 0 (by simp)
  have k24 : X17.cell? ⟨w.heap.size, 1, none⟩ = some (Value.float .f32 o_aA.im_) := bx_aA.2 1 (by simp)
  have k25 : X17.cell? ⟨w9.heap.size, 0, none⟩ = some (Value.float .f64 q11.re_) := bx22.2 0 (by simp)
  have k26 : X17.cell? ⟨w9.heap.size, 1, none⟩ = some (Value.float .f64 q11.im_) := bx22.2 1 (by simp)
  go_wp2_with fail
  clear k15 k16 k23 k24 k25 k26 hX18
  refine (toSlim_c o_aA _).mono ?_
  rintro e w27 ⟨rfl, b28⟩
  have t29 := Below.trans t20 (Below.mono b28 t20.size)
  have s30 := Below.trans s21 (Below.mono b28 s21.size)
  replace bx_aA := Box.below bx_aA b28
  replace bx22 := Box.below bx22 b28
  have k31 : w27.cell? ⟨w.heap.size, 0, none⟩ = some (Value.float .f32 o_aA.re_) := bx_aA.2 0 (by simp)
  have k32 : w27.cell? ⟨w.heap.size, 1, none⟩ = some (Value.float .f32 o_aA.im_) := bx_aA.2 1 (by simp)
  have k33 : w27.cell? ⟨w9.heap.size, 0, none⟩ = some (Value.float .f64 q11.re_) := bx22.2 0 (by simp)
  have k34 : w27.cell? ⟨w9.heap.size, 1, none⟩ = some (Value.float .f64 q11.im_) := bx22.2 1 (by simp)
  go_wp2_with fail
  clear k31 k32 k33 k34
  have q35 := (bx_aA).1
  have q36 := (bx22).1
  refine (impl_Full o_aA _ ).mono ?_
  rintro e w37 ⟨q39, rfl, hq40, b38⟩
  unfold Phasor.val
  have t41 := Below.trans t29 (Below.mono b38 t29.size)
  have s42 := Below.trans s30 (Below.mono b38 s30.size)
  replace bx_aA := Box.below bx_aA b38
  replace bx22 := Box.below bx22 b38
  have tb43 := Below.size t29
  have hb44 := Below.size s30
  have k45 : w37.cell? ⟨w.heap.size, 0, none⟩ = some (Value.float .f32 o_aA.re_) := bx_aA.2 0 (by simp)
  have k46 : w37.cell? ⟨w.heap.size, 1, none⟩ = some (Value.float .f32 o_aA.im_) := bx_aA.2 1 (by simp)
  have k47 : w37.cell? ⟨w9.heap.size, 0, none⟩ = some (Value.float .f64 q11.re_) := bx22.2 0 (by simp)
  have k48 : w37.cell? ⟨w9.heap.size, 1, none⟩ = some (Value.float .f64 q11.im_) := bx22.2 1 (by simp)
  obtain ⟨X49, hX50⟩ : ∃ X, w37.alloc (.cells #[Value.float .f64 q39.re_, Value.float .f64 q39.im_] 29) = X := ⟨_, rfl⟩
  have bX51 : Below w37.heap.size w37 X49 := by rw [← hX50]; exact (Below.refl _ _).alloc (Nat.le_refl _) _
  have t52 := Below.trans t41 (Below.mono bX51 t41.size)
  have s53 := Below.trans s42 (Below.mono bX51 s42.size)
  replace bx_aA := Box.below bx_aA bX51
  replace bx22 := Box.below bx22 bX51
  have bx54 : Box X49 (w37.heap.size) [Value.float .f64 q39.re_, Value.float .f64 q39.im_] := by rw [← hX50]; exact Box.alloc _ _ _
  have k55 : X49.cell? ⟨w.heap.size, 0, none⟩ = some (Value.float .f32 o_aA.re_) := bx_aA.2 0 (by simp)
  have k56 : X49.cell? ⟨w.heap.size, 1, none⟩ = some (Value.float .f32 o_aA.im_) := bx_aA.2 1 (by simp)
  have k57 : X49.cell? ⟨w9.heap.size, 0, none⟩ = some (Value.float .f64 q11.re_) := bx22.2 0 (by simp)
  have k58 : X49.cell? ⟨w9.heap.size, 1, none⟩ = some (Value.float .f64 q11.im_) := bx22.2 1 (by simp)
  have k59 : X49.cell? ⟨w37.heap.size, 0, none⟩ = some (Value.float .f64 q39.re_) := bx54.2 0 (by simp)
  have k60 : X49.cell? ⟨w37.heap.size, 1, none⟩ = some (Value.float .f64 q39.im_) := bx54.2 1 (by simp)
  go_wp2_with fail
  clear k45 k46 k47 k48 k55 k56 k57 k58 k59 k60 hX50
  refine (eqPhasor_c q39 q11 (hq40.trans hq12.symm) _).mono ?_
  rintro e w61 ⟨rfl, b62⟩
  have t63 := Below.trans t52 (Below.mono b62 t52.size)
  have s64 := Below.trans s53 (Below.mono b62 s53.size)
  replace bx_aA := Box.below bx_aA b62
  replace bx22 := Box.below bx22 b62
  replace bx54 := Box.below bx54 b62
  have k65 : w61.cell? ⟨w.heap.size, 0, none⟩ = some (Value.float .f32 o_aA.re_) := bx_aA.2 0 (by simp)
  have k66 : w61.cell? ⟨w.heap.size, 1, none⟩ = some (Value.float .f32 o_aA.im_) := bx_aA.2 1 (by simp)
  have k67 : w61.cell? ⟨w9.heap.size, 0, none⟩ = some (Value.float .f64 q11.re_) := bx22.2 0 (by simp)
  have k68 : w61.cell? ⟨w9.heap.size, 1, none⟩ = some (Value.float .f64 q11.im_) := bx22.2 1 (by simp)
  have k69 : w61.cell? ⟨w37.heap.size, 0, none⟩ = some (Value.float .f64 q39.re_) := bx54.2 0 (by simp)
  have k70 : w61.cell? ⟨w37.heap.size, 1, none⟩ = some (Value.float .f64 q39.im_) := bx54.2 1 (by simp)
  go_wp2_with fail
  clear k65 k66 k67 k68 k69 k70
  try go_wp2
  go_ret
  exact ⟨rfl, hB0.trans (Below.mono t63 hB0.size)⟩

end Go.Proofs.Ytjcnoogloncbbaa
