/- FnExactReadProg, walked. -/
import Derived.Test.YtikiaffgjpddeaaDoorW9d
import Derived.Test.YtikiaffgjpddeaaDoorBx
import Derived.Test.YtikiaffgjpddeaaDoorKeep
import Derived.Deep.RegionHeld3
import Derived.StillTailTactics
namespace Go.Proofs.YtikiaffgjpddeaaDoor
set_option maxRecDepth 100000
open Go.RowKit Go.Proofs Go.Own
set_option linter.unusedVariables false

set_option maxRecDepth 100000 in
set_option maxHeartbeats 8000000 in
theorem law_ReadProg (s_aText0 : ByteArray) (w : World) (hT0 : Env w)  :
    Calls Tryd.prog 4 #[(.string s_aText0)] w fun e w' => e = .returned (.bool true) ∧ Below w.heap.size w w' := by
  have hB0 : Below w.heap.size w w := Below.refl _ _
  by_cases big_aText : (1048576 : Int) < (s_aText0.size : Int)
  · go_enter Tryd.func4, Tryd.ntmps4
    go_wp2
    go_ret
    exact ⟨rfl, hB0⟩
  have hx_aText : s_aText0.size ≤ 1048576 := by omega
  go_enter Tryd.func4, Tryd.ntmps4
  go_wp2_with fail
  refine (spec_ReadProgW s_aText0 _ ).mono ?_
  rintro e w1 ⟨v3, rfl, o4, b2⟩
  obtain ⟨a6, m7, c8, rfl⟩ := Flat.form3 o4
  have t9 := Below.trans (Below.refl _ _ : Below w.heap.size w w) (Below.mono b2 (Below.refl _ _ : Below w.heap.size w w).size)
  have s10 : Below w1.heap.size w1 w1 := Below.refl _ _
  go_wp2_with fail
  refine (impl_ReadProgW s_aText0 _  (env_below hT0 (by assumption))).mono ?_
  rintro e w11 ⟨v13, rfl, o14, l15, b12⟩
  obtain ⟨a16, m17, c18, rfl⟩ := owns_form3 o14
  have t19 := Below.trans t9 (Below.mono b12 t9.size)
  have s20 := Below.trans s10 (Below.mono b12 s10.size)
  have tb21 := Below.size t9
  have hb22 := Below.size s10
  go_wp2_with fail
  refine (eqInstrS_c _ _ _ _ (Flat.of_owns o14) (FlatB.flat (FlatB.below o4 s20) s20.size)).mono ?_
  rintro e w23 ⟨rfl, b24⟩
  have t25 := Below.trans t19 (Below.mono b24 t19.size)
  have s26 := Below.trans s20 (Below.mono b24 s20.size)
  replace o14 := owns_below o14 b24
  go_wp2_with fail
  refine (markInstrS_c _ _ _ _ _ _ _ (by omega) (by omega) (by omega) o14).mono ?_
  rintro e w27 ⟨rfl, o29, g28⟩
  have t30 := Below.trans t25 (below_of_mark2 o14 g28 tb21 (Below.size t25))
  have s31 := Below.trans s26 (below_of_mark2 o14 g28 hb22 (Below.size s26))
  go_wp2_with fail
  refine (heldInstrS_c _ _ _ _ (by omega) (by omega) (by omega) (Flat.of_owns o29)).mono ?_
  rintro e w32 ⟨rfl, b33⟩
  have t34 := Below.trans t30 (Below.mono b33 t30.size)
  have s35 := Below.trans s31 (Below.mono b33 s31.size)
  replace o29 := owns_below o29 b33
  go_wp2_with fail
  have p36 := o29
  refine (impl_ReadProgW s_aText0 _  (env_below hT0 (by assumption))).mono ?_
  rintro e w37 ⟨v39, rfl, o40, l41, b38⟩
  obtain ⟨a42, m43, c44, rfl⟩ := owns_form3 o40
  have t45 := Below.trans t34 (Below.mono b38 t34.size)
  have s46 := Below.trans s35 (Below.mono b38 s35.size)
  replace o29 := owns_below o29 b38
  have tb47 := Below.size t34
  have hb48 := Below.size s35
  have ap49 := apart p36 (Nat.le_refl _) o40
  go_wp2_with fail
  refine (eqInstrS_c _ _ _ _ (Flat.of_owns o40) (FlatB.flat (FlatB.below o4 s46) s46.size)).mono ?_
  rintro e w50 ⟨rfl, b51⟩
  have t52 := Below.trans t45 (Below.mono b51 t45.size)
  have s53 := Below.trans s46 (Below.mono b51 s46.size)
  replace o29 := owns_below o29 b51
  replace o40 := owns_below o40 b51
  go_wp2_with fail
  refine (heldInstrS_c _ _ _ _ (by omega) (by omega) (by omega) (Flat.of_owns o29)).mono ?_
  rintro e w54 ⟨rfl, b55⟩
  have t56 := Below.trans t52 (Below.mono b55 t52.size)
  have s57 := Below.trans s53 (Below.mono b55 s53.size)
  replace o29 := owns_below o29 b55
  replace o40 := owns_below o40 b55
  go_wp2_with fail
  try go_wp2
  go_ret
  exact ⟨rfl, hB0.trans (Below.mono t56 hB0.size)⟩

end Go.Proofs.YtikiaffgjpddeaaDoor
