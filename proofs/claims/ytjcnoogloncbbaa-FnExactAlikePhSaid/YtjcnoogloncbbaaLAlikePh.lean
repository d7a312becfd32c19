/- FnExactAlikePh, walked. -/
import Derived.Test.YtjcnoogloncbbaaA4
import Derived.Test.YtjcnoogloncbbaaBx
import Derived.Test.YtjcnoogloncbbaaKeep
import Derived.Deep.RegionHeld3
import Derived.StillTailTactics
namespace Go.Proofs.Ytjcnoogloncbbaa
set_option maxRecDepth 100000
open Go.RowKit Go.Proofs Go.Own
set_option linter.unusedVariables false

set_option maxRecDepth 100000 in
set_option maxHeartbeats 8000000 in
theorem law_AlikePh (v_aA0 : Value) (x_aA0 : List Phasor) (v_aB0 : Value) (x_aB0 : List Phasor) (w : World) (h_aA0 : Phasors w v_aA0 x_aA0) (h_aB0 : Phasors w v_aB0 x_aB0) :
    Calls Try.prog 10 #[v_aA0, v_aB0] w fun e w' => e = .returned (.bool true) ∧ Below w.heap.size w w' := by
  obtain ⟨ad_aA0, cap_aA0, rfl, hl_aA0, hm_aA0⟩ := Flat.form h_aA0
  obtain ⟨ad_aB0, cap_aB0, rfl, hl_aB0, hm_aB0⟩ := Flat.form h_aB0
  have hB0 : Below w.heap.size w w := Below.refl _ _
  go_enter Try.func10, Try.ntmps10
  go_wp2_with fail
  have hl0_aA : 0 ≤ (1048576 : Int) := by omega
  refine (szPhasorS_c _ _ _ _ _ (by omega) (by omega) (by omega)).mono ?_
  rintro e w1 ⟨rfl, b2⟩
  obtain rfl := b2
  by_cases big_aA : (1048576 : Int) < (x_aA0.length : Int)
  · rw [if_pos big_aA]
    go_wp2
    go_ret
    exact ⟨rfl, hB0.trans (Below.mono (Below.refl _ _ : Below w.heap.size w w) hB0.size)⟩
  rw [if_neg big_aA]
  go_wp2_with fail
  have hl0_aB : 0 ≤ (1048576 : Int) - (x_aA0.length : Int) := by omega
  refine (szPhasorS_c _ _ _ _ _ (by omega) (by omega) (by omega)).mono ?_
  rintro e w3 ⟨rfl, b4⟩
  obtain rfl := b4
  by_cases big_aB : (1048576 : Int) - (x_aA0.length : Int) < (x_aB0.length : Int)
  · rw [if_pos big_aB]
    go_wp2
    go_ret
    exact ⟨rfl, hB0.trans (Below.mono (Below.refl _ _ : Below w.heap.size w w) hB0.size)⟩
  rw [if_neg big_aB]
  go_wp2_with fail
  have hx_aA0 : x_aA0.length ≤ 1048576 := by omega
  have hx_aB0 : x_aB0.length ≤ 1048576 := by omega
  refine (toPhasorS_c _ x_aA0 _ hx_aA0 (FlatB.flat (FlatB.below h_aA0 (Below.refl _ _ : Below w.heap.size w w)) (Below.refl _ _ : Below w.heap.size w w).size)).mono ?_
  rintro e w5 ⟨v7, rfl, o8, b6⟩
  obtain ⟨a9, m10, c11, rfl⟩ := owns_form3 o8
  have t12 := Below.trans (Below.refl _ _ : Below w.heap.size w w) (Below.mono b6 (Below.refl _ _ : Below w.heap.size w w).size)
  go_wp2_with fail
  refine (toPhasorS_c _ x_aB0 _ hx_aB0 (FlatB.flat (FlatB.below h_aB0 t12) t12.size)).mono ?_
  rintro e w13 ⟨v15, rfl, o16, b14⟩
  obtain ⟨a17, m18, c19, rfl⟩ := owns_form3 o16
  have t20 := Below.trans t12 (Below.mono b14 t12.size)
  replace o8 := owns_below o8 b14
  go_wp2_with fail
  refine (spec_AlikePh _ x_aA0 _ x_aB0 _ (Flat.of_owns o8) hx_aA0 (Flat.of_owns o16) hx_aB0).mono ?_
  rintro e w21 ⟨rfl, b22⟩
  have t23 := Below.trans t20 (Below.mono b22 t20.size)
  have s24 : Below w21.heap.size w21 w21 := Below.refl _ _
  go_wp2_with fail
  refine (toPhasorS_c _ x_aA0 _ hx_aA0 (FlatB.flat (FlatB.below h_aA0 t23) t23.size)).mono ?_
  rintro e w25 ⟨v27, rfl, o28, b26⟩
  obtain ⟨a29, m30, c31, rfl⟩ := owns_form3 o28
  have t32 := Below.trans t23 (Below.mono b26 t23.size)
  have s33 := Below.trans s24 (Below.mono b26 s24.size)
  have tb34 := Below.size t23
  have hb35 := Below.size s24
  go_wp2_with fail
  have p36 := o28
  refine (toPhasorS_c _ x_aB0 _ hx_aB0 (FlatB.flat (FlatB.below h_aB0 t32) t32.size)).mono ?_
  rintro e w37 ⟨v39, rfl, o40, b38⟩
  obtain ⟨a41, m42, c43, rfl⟩ := owns_form3 o40
  have t44 := Below.trans t32 (Below.mono b38 t32.size)
  have s45 := Below.trans s33 (Below.mono b38 s33.size)
  replace o28 := owns_below o28 b38
  have tb46 := Below.size t32
  have hb47 := Below.size s33
  have ap48 := apart p36 (Nat.le_refl _) o40
  go_wp2_with fail
  have p49 := o28
  have p50 := o40
  refine (impl_AlikePh _ x_aA0 _ x_aB0 _ (Flat.of_owns o28) hx_aA0 (Flat.of_owns o40) hx_aB0).mono ?_
  rintro e w51 ⟨rfl, b52⟩
  have t53 := Below.trans t44 (Below.mono b52 t44.size)
  have s54 := Below.trans s45 (Below.mono b52 s45.size)
  replace o28 := owns_below o28 b52
  replace o40 := owns_below o40 b52
  have tb55 := Below.size t44
  have hb56 := Below.size s45
  go_wp2_with fail
  refine (toPhasorS_c _ x_aA0 _ hx_aA0 (FlatB.flat (FlatB.below h_aA0 t53) t53.size)).mono ?_
  rintro e w57 ⟨v59, rfl, o60, b58⟩
  obtain ⟨a61, m62, c63, rfl⟩ := owns_form3 o60
  have t64 := Below.trans t53 (Below.mono b58 t53.size)
  have s65 := Below.trans s54 (Below.mono b58 s54.size)
  replace o28 := owns_below o28 b58
  replace o40 := owns_below o40 b58
  go_wp2_with fail
  refine (eqPhasorS_c _ _ _ _ _ (Flat.of_owns o28) (Flat.of_owns o60) rfl).mono ?_
  rintro e w66 ⟨rfl, b67⟩
  have t68 := Below.trans t64 (Below.mono b67 t64.size)
  have s69 := Below.trans s65 (Below.mono b67 s65.size)
  replace o28 := owns_below o28 b67
  replace o40 := owns_below o40 b67
  go_wp2_with fail
  refine (toPhasorS_c _ x_aB0 _ hx_aB0 (FlatB.flat (FlatB.below h_aB0 t68) t68.size)).mono ?_
  rintro e w70 ⟨v72, rfl, o73, b71⟩
  obtain ⟨a74, m75, c76, rfl⟩ := owns_form3 o73
  have t77 := Below.trans t68 (Below.mono b71 t68.size)
  have s78 := Below.trans s69 (Below.mono b71 s69.size)
  replace o28 := owns_below o28 b71
  replace o40 := owns_below o40 b71
  go_wp2_with fail
  refine (eqPhasorS_c _ _ _ _ _ (Flat.of_owns o40) (Flat.of_owns o73) rfl).mono ?_
  rintro e w79 ⟨rfl, b80⟩
  have t81 := Below.trans t77 (Below.mono b80 t77.size)
  have s82 := Below.trans s78 (Below.mono b80 s78.size)
  replace o28 := owns_below o28 b80
  replace o40 := owns_below o40 b80
  go_wp2_with fail
  try go_wp2
  go_ret
  exact ⟨rfl, hB0.trans (Below.mono t81 hB0.size)⟩

end Go.Proofs.Ytjcnoogloncbbaa
