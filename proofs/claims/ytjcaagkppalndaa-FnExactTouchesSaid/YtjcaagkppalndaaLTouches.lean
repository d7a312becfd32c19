/- FnExactTouches, walked. -/
import Derived.Test.YtjcaagkppalndaaW9
import Derived.Test.YtjcaagkppalndaaBx
import Derived.Test.YtjcaagkppalndaaKeep
import Derived.Deep.RegionHeld3
import Derived.StillTailTactics
namespace Go.Proofs.Ytjcaagkppalndaa
set_option maxRecDepth 100000
open Go.RowKit Go.Proofs Go.Own
set_option linter.unusedVariables false

set_option maxRecDepth 100000 in
set_option maxHeartbeats 8000000 in
theorem law_Touches (v_aList0 : Value) (x_aList0 : List Instr) (w : World) (h_aList0 : Instrs w v_aList0 x_aList0) :
    Calls Try.prog 4 #[v_aList0] w fun e w' => e = .returned (.bool true) ∧ Below w.heap.size w w' := by
  obtain ⟨ad_aList0, cap_aList0, rfl, hl_aList0, hm_aList0⟩ := Flat.form h_aList0
  have hB0 : Below w.heap.size w w := Below.refl _ _
  go_enter Try.func4, Try.ntmps4
  go_wp2_with fail
  have hl0_aList : 0 ≤ (1048576 : Int) := by omega
  refine (szInstrS_c _ _ _ _ _ (by omega) (by omega) (by omega)).mono ?_
  rintro e w1 ⟨rfl, b2⟩
  obtain rfl := b2
  by_cases big_aList : (1048576 : Int) < (x_aList0.length : Int)
  · rw [if_pos big_aList]
    go_wp2
    go_ret
    exact ⟨rfl, hB0.trans (Below.mono (Below.refl _ _ : Below w.heap.size w w) hB0.size)⟩
  rw [if_neg big_aList]
  go_wp2_with fail
  have hx_aList0 : x_aList0.length ≤ 1048576 := by omega
  refine (toInstrS_c _ x_aList0 _ hx_aList0 (FlatB.flat (FlatB.below h_aList0 (Below.refl _ _ : Below w.heap.size w w)) (Below.refl _ _ : Below w.heap.size w w).size)).mono ?_
  rintro e w3 ⟨v5, rfl, o6, b4⟩
  obtain ⟨a7, m8, c9, rfl⟩ := owns_form3 o6
  have t10 := Below.trans (Below.refl _ _ : Below w.heap.size w w) (Below.mono b4 (Below.refl _ _ : Below w.heap.size w w).size)
  go_wp2_with fail
  refine (spec_TouchesW _ x_aList0 _ (Flat.of_owns o6) hx_aList0).mono ?_
  rintro e w11 ⟨v13, rfl, o14, b12⟩
  obtain ⟨a16, m17, c18, rfl⟩ := Flat.form3 o14
  have t19 := Below.trans t10 (Below.mono b12 t10.size)
  have s20 : Below w11.heap.size w11 w11 := Below.refl _ _
  go_wp2_with fail
  refine (toInstrS_c _ x_aList0 _ hx_aList0 (FlatB.flat (FlatB.below h_aList0 t19) t19.size)).mono ?_
  rintro e w21 ⟨v23, rfl, o24, b22⟩
  obtain ⟨a25, m26, c27, rfl⟩ := owns_form3 o24
  have t28 := Below.trans t19 (Below.mono b22 t19.size)
  have s29 := Below.trans s20 (Below.mono b22 s20.size)
  have tb30 := Below.size t19
  have hb31 := Below.size s20
  go_wp2_with fail
  have p32 := o24
  refine (impl_TouchesW _ x_aList0 _ (Flat.of_owns o24) hx_aList0).mono ?_
  rintro e w33 ⟨v35, rfl, o36, l37, b34⟩
  obtain ⟨a38, m39, c40, rfl⟩ := owns_form3 o36
  have t41 := Below.trans t28 (Below.mono b34 t28.size)
  have s42 := Below.trans s29 (Below.mono b34 s29.size)
  replace o24 := owns_below o24 b34
  have tb43 := Below.size t28
  have hb44 := Below.size s29
  have ap45 := apart p32 (Nat.le_refl _) o36
  go_wp2_with fail
  refine (eqIntS_c _ _ _ _ (Flat.of_owns o36) (FlatB.flat (FlatB.below o14 s42) s42.size)).mono ?_
  rintro e w46 ⟨rfl, b47⟩
  have t48 := Below.trans t41 (Below.mono b47 t41.size)
  have s49 := Below.trans s42 (Below.mono b47 s42.size)
  replace o24 := owns_below o24 b47
  replace o36 := owns_below o36 b47
  go_wp2_with fail
  refine (toInstrS_c _ x_aList0 _ hx_aList0 (FlatB.flat (FlatB.below h_aList0 t48) t48.size)).mono ?_
  rintro e w50 ⟨v52, rfl, o53, b51⟩
  obtain ⟨a54, m55, c56, rfl⟩ := owns_form3 o53
  have t57 := Below.trans t48 (Below.mono b51 t48.size)
  have s58 := Below.trans s49 (Below.mono b51 s49.size)
  replace o24 := owns_below o24 b51
  replace o36 := owns_below o36 b51
  go_wp2_with fail
  refine (eqInstrS_c _ _ _ _ (Flat.of_owns o24) (Flat.of_owns o53)).mono ?_
  rintro e w59 ⟨rfl, b60⟩
  have t61 := Below.trans t57 (Below.mono b60 t57.size)
  have s62 := Below.trans s58 (Below.mono b60 s58.size)
  replace o24 := owns_below o24 b60
  replace o36 := owns_below o36 b60
  go_wp2_with fail
  refine (markInstrS_c _ _ _ _ _ _ _ (by omega) (by omega) (by omega) o24).mono ?_
  rintro e w63 ⟨rfl, o65, g64⟩
  have t66 := Below.trans t61 (below_of_mark2 o24 g64 tb30 (Below.size t61))
  have s67 := Below.trans s62 (below_of_mark2 o24 g64 hb31 (Below.size s62))
  replace o36 := World.ownsRow.kept o36 g64 ap45.2
  go_wp2_with fail
  refine (eqIntS_c _ _ _ _ (Flat.of_owns o36) (FlatB.flat (FlatB.below o14 s67) s67.size)).mono ?_
  rintro e w68 ⟨rfl, b69⟩
  have t70 := Below.trans t66 (Below.mono b69 t66.size)
  have s71 := Below.trans s67 (Below.mono b69 s67.size)
  replace o65 := owns_below o65 b69
  replace o36 := owns_below o36 b69
  go_wp2_with fail
  refine (markIntS_c _ _ _ _ _ _ _ (by omega) (by omega) (by omega) o36).mono ?_
  rintro e w72 ⟨rfl, o74, g73⟩
  have t75 := Below.trans t70 (below_of_mark2 o36 g73 tb43 (Below.size t70))
  have s76 := Below.trans s71 (below_of_mark2 o36 g73 hb44 (Below.size s71))
  replace o65 := World.ownsRow.kept o65 g73 ap45.1
  go_wp2_with fail
  refine (heldIntS_c _ _ _ _ (by omega) (by omega) (by omega) (Flat.of_owns o74)).mono ?_
  rintro e w77 ⟨rfl, b78⟩
  have t79 := Below.trans t75 (Below.mono b78 t75.size)
  have s80 := Below.trans s76 (Below.mono b78 s76.size)
  replace o65 := owns_below o65 b78
  replace o74 := owns_below o74 b78
  go_wp2_with fail
  refine (toInstrS_c _ x_aList0 _ hx_aList0 (FlatB.flat (FlatB.below h_aList0 t79) t79.size)).mono ?_
  rintro e w81 ⟨v83, rfl, o84, b82⟩
  obtain ⟨a85, m86, c87, rfl⟩ := owns_form3 o84
  have t88 := Below.trans t79 (Below.mono b82 t79.size)
  have s89 := Below.trans s80 (Below.mono b82 s80.size)
  replace o65 := owns_below o65 b82
  replace o74 := owns_below o74 b82
  go_wp2_with fail
  have p90 := o65
  have p91 := o74
  refine (impl_TouchesW _ x_aList0 _ (Flat.of_owns o84) hx_aList0).mono ?_
  rintro e w92 ⟨v94, rfl, o95, l96, b93⟩
  obtain ⟨a97, m98, c99, rfl⟩ := owns_form3 o95
  have t100 := Below.trans t88 (Below.mono b93 t88.size)
  have s101 := Below.trans s89 (Below.mono b93 s89.size)
  replace o65 := owns_below o65 b93
  replace o74 := owns_below o74 b93
  have tb102 := Below.size t88
  have hb103 := Below.size s89
  have ap104 := apart p90 (Nat.le_refl _) o95
  have ap105 := apart p91 (Nat.le_refl _) o95
  go_wp2_with fail
  refine (eqIntS_c _ _ _ _ (Flat.of_owns o95) (FlatB.flat (FlatB.below o14 s101) s101.size)).mono ?_
  rintro e w106 ⟨rfl, b107⟩
  have t108 := Below.trans t100 (Below.mono b107 t100.size)
  have s109 := Below.trans s101 (Below.mono b107 s101.size)
  replace o65 := owns_below o65 b107
  replace o74 := owns_below o74 b107
  replace o95 := owns_below o95 b107
  go_wp2_with fail
  refine (heldIntS_c _ _ _ _ (by omega) (by omega) (by omega) (Flat.of_owns o74)).mono ?_
  rintro e w110 ⟨rfl, b111⟩
  have t112 := Below.trans t108 (Below.mono b111 t108.size)
  have s113 := Below.trans s109 (Below.mono b111 s109.size)
  replace o65 := owns_below o65 b111
  replace o74 := owns_below o74 b111
  replace o95 := owns_below o95 b111
  go_wp2_with fail
  try go_wp2
  go_ret
  exact ⟨rfl, hB0.trans (Below.mono t112 hB0.size)⟩

end Go.Proofs.Ytjcaagkppalndaa
