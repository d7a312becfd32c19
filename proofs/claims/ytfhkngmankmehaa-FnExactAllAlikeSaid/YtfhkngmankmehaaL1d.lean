/- FnExactAllAlike, walked. -/
import Derived.Test.YtfhkngmankmehaaS1d
import Derived.Test.YtfhkngmankmehaaI1e
namespace Go.Proofs.Ytfhkngmankmehaa
open Go.RowKit Go.Proofs Go.Own

set_option maxRecDepth 100000 in
set_option maxHeartbeats 4000000 in
theorem law_AllAlike (v_aM : Value) (x_aM : List Int) (v_aA : Value) (x_aA : List WordOp) (v_aB : Value) (x_aB : List WordOp) (w : World) (h_aM : Ints w v_aM x_aM) (h_aA : WordOps w v_aA x_aA) (h_aB : WordOps w v_aB x_aB) :
    Calls Try.prog 8 #[v_aM, v_aA, v_aB] w fun e w' => e = .returned (.bool true) ∧ Below w.heap.size w w' := by
  obtain ⟨ad_aM, cap_aM, hv_aM, hl_aM, hm_aM⟩ := Flat.form h_aM
  obtain ⟨ad_aA, cap_aA, hv_aA, hl_aA, hm_aA⟩ := Flat.form h_aA
  obtain ⟨ad_aB, cap_aB, hv_aB, hl_aB, hm_aB⟩ := Flat.form h_aB
  by_cases big_aM : 1048576 < x_aM.length
  · subst hv_aM; subst hv_aA; subst hv_aB
    clear h_aM h_aA h_aB
    go_enter Try.func8, Try.ntmps8
    go_wp2
    go_ret
    exact ⟨rfl, (by repeat (first | exact Below.refl _ _ | refine Below.alloc ?_ (by simp; try omega) _))⟩
  by_cases big_aA : 1048576 < x_aA.length
  · subst hv_aM; subst hv_aA; subst hv_aB
    clear h_aM h_aA h_aB
    go_enter Try.func8, Try.ntmps8
    go_wp2_with fail
    refine (szWordOpS_c _ _ _ _ _ (by omega) (by omega) (by omega)).mono ?_
    rintro e w' ⟨rfl, rfl⟩
    rw [if_pos (by omega)]
    go_wp2
    go_ret
    exact ⟨rfl, (by repeat (first | exact Below.refl _ _ | refine Below.alloc ?_ (by simp; try omega) _))⟩
  by_cases big_aB : 1048576 < x_aA.length + x_aB.length
  · subst hv_aM; subst hv_aA; subst hv_aB
    clear h_aM h_aA h_aB
    go_enter Try.func8, Try.ntmps8
    go_wp2_with fail
    refine (szWordOpS_c _ _ _ _ _ (by omega) (by omega) (by omega)).mono ?_
    rintro e w' ⟨rfl, rfl⟩
    rw [if_neg (by omega)]
    go_wp2_with fail
    refine (szWordOpS_c _ _ _ _ _ (by omega) (by omega) (by omega)).mono ?_
    rintro e w' ⟨rfl, rfl⟩
    rw [if_pos (by omega)]
    go_wp2
    go_ret
    exact ⟨rfl, (by repeat (first | exact Below.refl _ _ | refine Below.alloc ?_ (by simp; try omega) _))⟩
  have hx_aM : x_aM.length ≤ 1048576 := by omega
  have hx_aA : x_aA.length ≤ 1048576 := by omega
  have hx_aB : x_aB.length ≤ 1048576 := by omega
  have Hv_aM := hid hv_aM; clear hv_aM
  have Hv_aA := hid hv_aA; clear hv_aA
  have Hv_aB := hid hv_aB; clear hv_aB
  rw [Hv_aM.out] at h_aM ⊢
  rw [Hv_aA.out] at h_aA ⊢
  rw [Hv_aB.out] at h_aB ⊢
  have hB0 : Below w.heap.size w w := Below.refl _ _
  go_enter Try.func8, Try.ntmps8
  go_wp2_with fail
  refine (szWordOpS_c _ _ _ _ _ (by omega) (by omega) (by omega)).mono ?_
  rintro e w' ⟨rfl, rfl⟩
  rw [if_neg (by omega)]
  go_wp2_with fail
  refine (szWordOpS_c _ _ _ _ _ (by omega) (by omega) (by omega)).mono ?_
  rintro e w' ⟨rfl, rfl⟩
  rw [if_neg (by omega)]
  go_wp2_with fail
  refine (toIntS_c _ x_aM _ hx_aM (FlatB.flat (FlatB.below h_aM (Below.refl _ _ : Below w.heap.size w w)) (Below.refl _ _ : Below w.heap.size w w).size)).mono ?_
  rintro e w2 ⟨v1, rfl, o3, b4⟩
  have t5 := Below.trans (Below.refl _ _ : Below w.heap.size w w) (Below.mono b4 (Below.refl _ _ : Below w.heap.size w w).size)
  go_wp2_with fail
  refine (toWordOpS_c _ x_aA _ hx_aA (FlatB.flat (FlatB.below h_aA t5) t5.size)).mono ?_
  rintro e w7 ⟨v6, rfl, o8, b9⟩
  have t10 := Below.trans t5 (Below.mono b9 t5.size)
  replace o3 := owns_below o3 b9
  go_wp2_with fail
  refine (toWordOpS_c _ x_aB _ hx_aB (FlatB.flat (FlatB.below h_aB t10) t10.size)).mono ?_
  rintro e w12 ⟨v11, rfl, o13, b14⟩
  have t15 := Below.trans t10 (Below.mono b14 t10.size)
  replace o3 := owns_below o3 b14
  replace o8 := owns_below o8 b14
  go_wp2_with fail
  refine (spec_AllAlike _ x_aM _ x_aA _ x_aB _ (Flat.of_owns o3) hx_aM (Flat.of_owns o8) hx_aA (Flat.of_owns o13) hx_aB).mono ?_
  rintro e w16 ⟨rfl, b17⟩
  have t18 := Below.trans t15 (Below.mono b17 t15.size)
  have s19 : Below w16.heap.size w16 w16 := Below.refl _ _
  go_wp2_with fail
  refine (toIntS_c _ x_aM _ hx_aM (FlatB.flat (FlatB.below h_aM t18) t18.size)).mono ?_
  rintro e w21 ⟨v20, rfl, o22, b23⟩
  have t24 := Below.trans t18 (Below.mono b23 t18.size)
  have s25 := Below.trans s19 (Below.mono b23 s19.size)
  have tb26 := Below.size t18
  have hb27 := Below.size s19
  go_wp2_with fail
  have p28 := o22
  refine (toWordOpS_c _ x_aA _ hx_aA (FlatB.flat (FlatB.below h_aA t24) t24.size)).mono ?_
  rintro e w30 ⟨v29, rfl, o31, b32⟩
  have t33 := Below.trans t24 (Below.mono b32 t24.size)
  have s34 := Below.trans s25 (Below.mono b32 s25.size)
  replace o22 := owns_below o22 b32
  have ap35 := apart p28 (Nat.le_refl _) o31
  have tb36 := Below.size t24
  have hb37 := Below.size s25
  go_wp2_with fail
  have p38 := o22
  have p39 := o31
  refine (toWordOpS_c _ x_aB _ hx_aB (FlatB.flat (FlatB.below h_aB t33) t33.size)).mono ?_
  rintro e w41 ⟨v40, rfl, o42, b43⟩
  have t44 := Below.trans t33 (Below.mono b43 t33.size)
  have s45 := Below.trans s34 (Below.mono b43 s34.size)
  replace o22 := owns_below o22 b43
  replace o31 := owns_below o31 b43
  have ap46 := apart p38 (Nat.le_refl _) o42
  have ap47 := apart p39 (Nat.le_refl _) o42
  have tb48 := Below.size t33
  have hb49 := Below.size s34
  go_wp2_with fail
  refine (impl_AllAlike _ x_aM _ x_aA _ x_aB _ (Flat.of_owns o22) hx_aM (Flat.of_owns o31) hx_aA (Flat.of_owns o42) hx_aB).mono ?_
  have p50 := o22
  have p51 := o31
  have p52 := o42
  rintro e w53 ⟨rfl, b54⟩
  have t55 := Below.trans t44 (Below.mono b54 t44.size)
  have s56 := Below.trans s45 (Below.mono b54 s45.size)
  replace o22 := owns_below o22 b54
  replace o31 := owns_below o31 b54
  replace o42 := owns_below o42 b54
  go_wp2_with fail
  refine (toIntS_c _ x_aM _ hx_aM (FlatB.flat (FlatB.below h_aM t55) t55.size)).mono ?_
  rintro e w58 ⟨v57, rfl, o59, b60⟩
  have t61 := Below.trans t55 (Below.mono b60 t55.size)
  have s62 := Below.trans s56 (Below.mono b60 s56.size)
  replace o22 := owns_below o22 b60
  replace o31 := owns_below o31 b60
  replace o42 := owns_below o42 b60
  go_wp2_with fail
  refine (eqIntS_c _ _ _ _ (Flat.of_owns o22) (Flat.of_owns o59)).mono ?_
  rintro e w63 ⟨rfl, b64⟩
  have t65 := Below.trans t61 (Below.mono b64 t61.size)
  have s66 := Below.trans s62 (Below.mono b64 s62.size)
  replace o22 := owns_below o22 b64
  replace o31 := owns_below o31 b64
  replace o42 := owns_below o42 b64
  go_wp2_with fail
  refine (toWordOpS_c _ x_aA _ hx_aA (FlatB.flat (FlatB.below h_aA t65) t65.size)).mono ?_
  rintro e w68 ⟨v67, rfl, o69, b70⟩
  have t71 := Below.trans t65 (Below.mono b70 t65.size)
  have s72 := Below.trans s66 (Below.mono b70 s66.size)
  replace o22 := owns_below o22 b70
  replace o31 := owns_below o31 b70
  replace o42 := owns_below o42 b70
  go_wp2_with fail
  refine (eqWordOpS_c _ _ _ _ (Flat.of_owns o31) (Flat.of_owns o69)).mono ?_
  rintro e w73 ⟨rfl, b74⟩
  have t75 := Below.trans t71 (Below.mono b74 t71.size)
  have s76 := Below.trans s72 (Below.mono b74 s72.size)
  replace o22 := owns_below o22 b74
  replace o31 := owns_below o31 b74
  replace o42 := owns_below o42 b74
  go_wp2_with fail
  refine (toWordOpS_c _ x_aB _ hx_aB (FlatB.flat (FlatB.below h_aB t75) t75.size)).mono ?_
  rintro e w78 ⟨v77, rfl, o79, b80⟩
  have t81 := Below.trans t75 (Below.mono b80 t75.size)
  have s82 := Below.trans s76 (Below.mono b80 s76.size)
  replace o22 := owns_below o22 b80
  replace o31 := owns_below o31 b80
  replace o42 := owns_below o42 b80
  go_wp2_with fail
  refine (eqWordOpS_c _ _ _ _ (Flat.of_owns o42) (Flat.of_owns o79)).mono ?_
  rintro e w83 ⟨rfl, b84⟩
  have t85 := Below.trans t81 (Below.mono b84 t81.size)
  have s86 := Below.trans s82 (Below.mono b84 s82.size)
  replace o22 := owns_below o22 b84
  replace o31 := owns_below o31 b84
  replace o42 := owns_below o42 b84
  go_wp2_with fail
  try go_wp2
  go_ret
  exact ⟨rfl, hB0.trans (Below.mono t85 hB0.size)⟩

end Go.Proofs.Ytfhkngmankmehaa
