/- FnExactWriteProg, walked. -/
import Derived.Test.YtikiaffgjpddeaaDoorW9d
import Derived.Test.YtikiaffgjpddeaaDoorBx
import Derived.Test.YtikiaffgjpddeaaDoorKeep
import Derived.Deep.RegionHeld3
import Derived.StillTailTactics
namespace Go.Proofs.YtikiaffgjpddeaaDoor
set_option maxRecDepth 100000
open Go.RowKit Go.Proofs Go.Own
set_option linter.unusedVariables false

set_option maxRecDepth 100000 in
set_option maxHeartbeats 8000000 in
theorem law_WriteProg (v_aList0 : Value) (x_aList0 : List Instr) (w : World) (hT0 : Tab w) (h_aList0 : Instrs w v_aList0 x_aList0) :
    Calls Tryd.prog 3 #[v_aList0] w fun e w' => e = .returned (.bool true) ∧ Below w.heap.size w w' := by
  obtain ⟨ad_aList0, cap_aList0, rfl, hl_aList0, hm_aList0⟩ := Flat.form h_aList0
  have hB0 : Below w.heap.size w w := Below.refl _ _
  go_enter Tryd.func3, Tryd.ntmps3
  go_wp2_with fail
  have hl0_aList : 0 ≤ (1048576 : Int) := by omega
  refine (szInstrS_c _ _ _ _ _ (by omega) (by omega) (by omega)).mono ?_
  rintro e w1 ⟨rfl, b2⟩
  obtain rfl := b2
  by_cases big_aList : (1048576 : Int) < (x_aList0.length : Int)
  · rw [if_pos big_aList]
    go_wp2
    go_ret
    exact ⟨rfl, hB0.trans (Below.mono (Below.refl _ _ : Below w.heap.size w w) hB0.size)⟩
  rw [if_neg big_aList]
  go_wp2_with fail
  have hx_aList0 : x_aList0.length ≤ 1048576 := by omega
  refine (toInstrS_c _ x_aList0 _ hx_aList0 (FlatB.flat (FlatB.below h_aList0 (Below.refl _ _ : Below w.heap.size w w)) (Below.refl _ _ : Below w.heap.size w w).size)).mono ?_
  rintro e w3 ⟨v5, rfl, o6, b4⟩
  obtain ⟨a7, m8, c9, rfl⟩ := owns_form3 o6
  have t10 := Below.trans (Below.refl _ _ : Below w.heap.size w w) (Below.mono b4 (Below.refl _ _ : Below w.heap.size w w).size)
  go_wp2_with fail
  refine (spec_WriteProgW _ x_aList0 _ (Flat.of_owns o6) hx_aList0).mono ?_
  rintro e w11 ⟨rfl, b12⟩
  have t13 := Below.trans t10 (Below.mono b12 t10.size)
  have s14 : Below w11.heap.size w11 w11 := Below.refl _ _
  go_wp2_with fail
  refine (toInstrS_c _ x_aList0 _ hx_aList0 (FlatB.flat (FlatB.below h_aList0 t13) t13.size)).mono ?_
  rintro e w15 ⟨v17, rfl, o18, b16⟩
  obtain ⟨a19, m20, c21, rfl⟩ := owns_form3 o18
  have t22 := Below.trans t13 (Below.mono b16 t13.size)
  have s23 := Below.trans s14 (Below.mono b16 s14.size)
  have tb24 := Below.size t13
  have hb25 := Below.size s14
  go_wp2_with fail
  have p26 := o18
  refine (impl_WriteProgW _ x_aList0 _ (Flat.of_owns o18) hx_aList0 (tab_below hT0 (by assumption))).mono ?_
  rintro e w27 ⟨rfl, b28⟩
  have t29 := Below.trans t22 (Below.mono b28 t22.size)
  have s30 := Below.trans s23 (Below.mono b28 s23.size)
  replace o18 := owns_below o18 b28
  have tb31 := Below.size t22
  have hb32 := Below.size s23
  go_wp2_with fail
  refine (toInstrS_c _ x_aList0 _ hx_aList0 (FlatB.flat (FlatB.below h_aList0 t29) t29.size)).mono ?_
  rintro e w33 ⟨v35, rfl, o36, b34⟩
  obtain ⟨a37, m38, c39, rfl⟩ := owns_form3 o36
  have t40 := Below.trans t29 (Below.mono b34 t29.size)
  have s41 := Below.trans s30 (Below.mono b34 s30.size)
  replace o18 := owns_below o18 b34
  go_wp2_with fail
  refine (eqInstrS_c _ _ _ _ (Flat.of_owns o18) (Flat.of_owns o36)).mono ?_
  rintro e w42 ⟨rfl, b43⟩
  have t44 := Below.trans t40 (Below.mono b43 t40.size)
  have s45 := Below.trans s41 (Below.mono b43 s41.size)
  replace o18 := owns_below o18 b43
  go_wp2_with fail
  try go_wp2
  go_ret
  exact ⟨rfl, hB0.trans (Below.mono t44 hB0.size)⟩

end Go.Proofs.YtikiaffgjpddeaaDoor
