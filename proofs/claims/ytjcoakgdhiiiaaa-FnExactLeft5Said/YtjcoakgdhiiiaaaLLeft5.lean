/- FnExactLeft5, walked. -/
import Derived.Test.YtjcoakgdhiiiaaaI5W
import Derived.Test.YtjcoakgdhiiiaaaW5
import Derived.Test.YtjcoakgdhiiiaaaBx
import Derived.Test.YtjcoakgdhiiiaaaKeep
import Derived.Deep.RegionHeld3
import Derived.StillTailTactics
namespace Go.Proofs.Ytjcoakgdhiiiaaa
set_option maxRecDepth 100000
open Go.RowKit Go.Proofs Go.Own
set_option linter.unusedVariables false

set_option maxRecDepth 100000 in
set_option maxHeartbeats 8000000 in
theorem law_Left5 (v_aSteps0 : Value) (x_aSteps0 : List Int) (s_aThread0 : Int) (s_aFrom0 : Int) (w : World) (h_aSteps0 : Ints w v_aSteps0 x_aSteps0) (hi_s_aThread0 : InI s_aThread0) (hi_s_aFrom0 : InI s_aFrom0) :
    Calls Try.prog 7 #[v_aSteps0, (.int .i64 s_aThread0), (.int .i64 s_aFrom0)] w fun e w' => e = .returned (.bool true) ∧ Below w.heap.size w w' := by
  obtain ⟨ad_aSteps0, cap_aSteps0, rfl, hl_aSteps0, hm_aSteps0⟩ := Flat.form h_aSteps0
  have hB0 : Below w.heap.size w w := Below.refl _ _
  by_cases big_aSteps : (1048576 : Int) < (x_aSteps0.length : Int)
  · go_enter Try.func7, Try.ntmps7
    go_wp2
    go_ret
    exact ⟨rfl, hB0⟩
  have hx_aSteps0 : x_aSteps0.length ≤ 1048576 := by omega
  go_enter Try.func7, Try.ntmps7
  go_wp2_with fail
  refine (toIntS_c _ x_aSteps0 _ hx_aSteps0 (FlatB.flat (FlatB.below h_aSteps0 (Below.refl _ _ : Below w.heap.size w w)) (Below.refl _ _ : Below w.heap.size w w).size)).mono ?_
  rintro e w1 ⟨v3, rfl, o4, b2⟩
  obtain ⟨a5, m6, c7, rfl⟩ := owns_form3 o4
  have t8 := Below.trans (Below.refl _ _ : Below w.heap.size w w) (Below.mono b2 (Below.refl _ _ : Below w.heap.size w w).size)
  go_wp2_with fail
  refine (spec_Left5W _ x_aSteps0 s_aThread0 s_aFrom0 _ (Flat.of_owns o4) hx_aSteps0).mono ?_
  rintro e w9 ⟨rfl, b10⟩
  have t11 := Below.trans t8 (Below.mono b10 t8.size)
  have s12 : Below w9.heap.size w9 w9 := Below.refl _ _
  go_wp2_with fail
  refine (toIntS_c _ x_aSteps0 _ hx_aSteps0 (FlatB.flat (FlatB.below h_aSteps0 t11) t11.size)).mono ?_
  rintro e w13 ⟨v15, rfl, o16, b14⟩
  obtain ⟨a17, m18, c19, rfl⟩ := owns_form3 o16
  have t20 := Below.trans t11 (Below.mono b14 t11.size)
  have s21 := Below.trans s12 (Below.mono b14 s12.size)
  have tb22 := Below.size t11
  have hb23 := Below.size s12
  go_wp2_with fail
  have p24 := o16
  refine (impl_Left5W _ x_aSteps0 s_aThread0 s_aFrom0 _ (Flat.of_owns o16) hx_aSteps0).mono ?_
  rintro e w25 ⟨rfl, b26⟩
  have t27 := Below.trans t20 (Below.mono b26 t20.size)
  have s28 := Below.trans s21 (Below.mono b26 s21.size)
  replace o16 := owns_below o16 b26
  have tb29 := Below.size t20
  have hb30 := Below.size s21
  go_wp2_with fail
  refine (toIntS_c _ x_aSteps0 _ hx_aSteps0 (FlatB.flat (FlatB.below h_aSteps0 t27) t27.size)).mono ?_
  rintro e w31 ⟨v33, rfl, o34, b32⟩
  obtain ⟨a35, m36, c37, rfl⟩ := owns_form3 o34
  have t38 := Below.trans t27 (Below.mono b32 t27.size)
  have s39 := Below.trans s28 (Below.mono b32 s28.size)
  replace o16 := owns_below o16 b32
  go_wp2_with fail
  refine (eqIntS_c _ _ _ _ (Flat.of_owns o16) (Flat.of_owns o34)).mono ?_
  rintro e w40 ⟨rfl, b41⟩
  have t42 := Below.trans t38 (Below.mono b41 t38.size)
  have s43 := Below.trans s39 (Below.mono b41 s39.size)
  replace o16 := owns_below o16 b41
  go_wp2_with fail
  try go_wp2
  go_ret
  exact ⟨rfl, hB0.trans (Below.mono t42 hB0.size)⟩

end Go.Proofs.Ytjcoakgdhiiiaaa
