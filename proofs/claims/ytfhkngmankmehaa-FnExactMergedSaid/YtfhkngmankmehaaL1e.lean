/- FnExactMerged, walked. -/
import Derived.Test.YtfhkngmankmehaaS1e
import Derived.Test.YtfhkngmankmehaaI1f
namespace Go.Proofs.Ytfhkngmankmehaa
open Go.RowKit Go.Proofs Go.Own

set_option maxRecDepth 100000 in
set_option maxHeartbeats 4000000 in
theorem law_Merged (v_aA : Value) (x_aA : List WordOp) (v_aB : Value) (x_aB : List WordOp) (v_aTurns : Value) (x_aTurns : List Bool) (w : World) (h_aA : WordOps w v_aA x_aA) (h_aB : WordOps w v_aB x_aB) (h_aTurns : Bools w v_aTurns x_aTurns) :
    Calls Try.prog 7 #[v_aA, v_aB, v_aTurns] w fun e w' => e = .returned (.bool true) ∧ Below w.heap.size w w' := by
  obtain ⟨ad_aA, cap_aA, hv_aA, hl_aA, hm_aA⟩ := Flat.form h_aA
  obtain ⟨ad_aB, cap_aB, hv_aB, hl_aB, hm_aB⟩ := Flat.form h_aB
  obtain ⟨ad_aTurns, cap_aTurns, hv_aTurns, hl_aTurns, hm_aTurns⟩ := Flat.form h_aTurns
  by_cases big_aTurns : 1048576 < x_aTurns.length
  · subst hv_aA; subst hv_aB; subst hv_aTurns
    clear h_aA h_aB h_aTurns
    go_enter Try.func7, Try.ntmps7
    go_wp2
    go_ret
    exact ⟨rfl, (by repeat (first | exact Below.refl _ _ | refine Below.alloc ?_ (by simp; try omega) _))⟩
  by_cases big_aA : 1048576 < x_aA.length
  · subst hv_aA; subst hv_aB; subst hv_aTurns
    clear h_aA h_aB h_aTurns
    go_enter Try.func7, Try.ntmps7
    go_wp2_with fail
    refine (szWordOpS_c _ _ _ _ _ (by omega) (by omega) (by omega)).mono ?_
    rintro e w' ⟨rfl, rfl⟩
    rw [if_pos (by omega)]
    go_wp2
    go_ret
    exact ⟨rfl, (by repeat (first | exact Below.refl _ _ | refine Below.alloc ?_ (by simp; try omega) _))⟩
  by_cases big_aB : 1048576 < x_aA.length + x_aB.length
  · subst hv_aA; subst hv_aB; subst hv_aTurns
    clear h_aA h_aB h_aTurns
    go_enter Try.func7, Try.ntmps7
    go_wp2_with fail
    refine (szWordOpS_c _ _ _ _ _ (by omega) (by omega) (by omega)).mono ?_
    rintro e w' ⟨rfl, rfl⟩
    rw [if_neg (by omega)]
    go_wp2_with fail
    refine (szWordOpS_c _ _ _ _ _ (by omega) (by omega) (by omega)).mono ?_
    rintro e w' ⟨rfl, rfl⟩
    rw [if_pos (by omega)]
    go_wp2
    go_ret
    exact ⟨rfl, (by repeat (first | exact Below.refl _ _ | refine Below.alloc ?_ (by simp; try omega) _))⟩
  have hx_aA : x_aA.length ≤ 1048576 := by omega
  have hx_aB : x_aB.length ≤ 1048576 := by omega
  have hx_aTurns : x_aTurns.length ≤ 1048576 := by omega
  have Hv_aA := hid hv_aA; clear hv_aA
  have Hv_aB := hid hv_aB; clear hv_aB
  have Hv_aTurns := hid hv_aTurns; clear hv_aTurns
  rw [Hv_aA.out] at h_aA ⊢
  rw [Hv_aB.out] at h_aB ⊢
  rw [Hv_aTurns.out] at h_aTurns ⊢
  have hB0 : Below w.heap.size w w := Below.refl _ _
  go_enter Try.func7, Try.ntmps7
  go_wp2_with fail
  refine (szWordOpS_c _ _ _ _ _ (by omega) (by omega) (by omega)).mono ?_
  rintro e w' ⟨rfl, rfl⟩
  rw [if_neg (by omega)]
  go_wp2_with fail
  refine (szWordOpS_c _ _ _ _ _ (by omega) (by omega) (by omega)).mono ?_
  rintro e w' ⟨rfl, rfl⟩
  rw [if_neg (by omega)]
  go_wp2_with fail
  refine (toWordOpS_c _ x_aA _ hx_aA (FlatB.flat (FlatB.below h_aA (Below.refl _ _ : Below w.heap.size w w)) (Below.refl _ _ : Below w.heap.size w w).size)).mono ?_
  rintro e w2 ⟨v1, rfl, o3, b4⟩
  have t5 := Below.trans (Below.refl _ _ : Below w.heap.size w w) (Below.mono b4 (Below.refl _ _ : Below w.heap.size w w).size)
  go_wp2_with fail
  refine (toWordOpS_c _ x_aB _ hx_aB (FlatB.flat (FlatB.below h_aB t5) t5.size)).mono ?_
  rintro e w7 ⟨v6, rfl, o8, b9⟩
  have t10 := Below.trans t5 (Below.mono b9 t5.size)
  replace o3 := owns_below o3 b9
  go_wp2_with fail
  refine (toBoolS_c _ x_aTurns _ hx_aTurns (FlatB.flat (FlatB.below h_aTurns t10) t10.size)).mono ?_
  rintro e w12 ⟨v11, rfl, o13, b14⟩
  have t15 := Below.trans t10 (Below.mono b14 t10.size)
  replace o3 := owns_below o3 b14
  replace o8 := owns_below o8 b14
  go_wp2_with fail
  refine (spec_Merged _ x_aA _ x_aB _ x_aTurns _ (Flat.of_owns o3) hx_aA (Flat.of_owns o8) hx_aB (Flat.of_owns o13) hx_aTurns).mono ?_
  rintro e w16 ⟨v18, rfl, o19, b17⟩
  have t21 := Below.trans t15 (Below.mono b17 t15.size)
  have s22 : Below w16.heap.size w16 w16 := Below.refl _ _
  go_wp2_with fail
  refine (toWordOpS_c _ x_aA _ hx_aA (FlatB.flat (FlatB.below h_aA t21) t21.size)).mono ?_
  rintro e w24 ⟨v23, rfl, o25, b26⟩
  have t27 := Below.trans t21 (Below.mono b26 t21.size)
  have s28 := Below.trans s22 (Below.mono b26 s22.size)
  have tb29 := Below.size t21
  have hb30 := Below.size s22
  go_wp2_with fail
  have p31 := o25
  refine (toWordOpS_c _ x_aB _ hx_aB (FlatB.flat (FlatB.below h_aB t27) t27.size)).mono ?_
  rintro e w33 ⟨v32, rfl, o34, b35⟩
  have t36 := Below.trans t27 (Below.mono b35 t27.size)
  have s37 := Below.trans s28 (Below.mono b35 s28.size)
  replace o25 := owns_below o25 b35
  have ap38 := apart p31 (Nat.le_refl _) o34
  have tb39 := Below.size t27
  have hb40 := Below.size s28
  go_wp2_with fail
  have p41 := o25
  have p42 := o34
  refine (toBoolS_c _ x_aTurns _ hx_aTurns (FlatB.flat (FlatB.below h_aTurns t36) t36.size)).mono ?_
  rintro e w44 ⟨v43, rfl, o45, b46⟩
  have t47 := Below.trans t36 (Below.mono b46 t36.size)
  have s48 := Below.trans s37 (Below.mono b46 s37.size)
  replace o25 := owns_below o25 b46
  replace o34 := owns_below o34 b46
  have ap49 := apart p41 (Nat.le_refl _) o45
  have ap50 := apart p42 (Nat.le_refl _) o45
  have tb51 := Below.size t36
  have hb52 := Below.size s37
  go_wp2_with fail
  refine (impl_Merged _ x_aA _ x_aB _ x_aTurns _ (Flat.of_owns o25) hx_aA (Flat.of_owns o34) hx_aB (Flat.of_owns o45) hx_aTurns).mono ?_
  have p53 := o25
  have p54 := o34
  have p55 := o45
  rintro e w56 ⟨v58, rfl, o59, l60, b57⟩
  have ap61 := apart p53 (Nat.le_refl _) o59
  have ap62 := apart p54 (Nat.le_refl _) o59
  have ap63 := apart p55 (Nat.le_refl _) o59
  have tb64 := Below.size t47
  have hb65 := Below.size s48
  have t66 := Below.trans t47 (Below.mono b57 t47.size)
  have s67 := Below.trans s48 (Below.mono b57 s48.size)
  replace o25 := owns_below o25 b57
  replace o34 := owns_below o34 b57
  replace o45 := owns_below o45 b57
  go_wp2_with fail
  refine (eqWordOpS_c _ _ _ _ (Flat.of_owns o59) (FlatB.flat (FlatB.below o19 s67) s67.size)).mono ?_
  rintro e w68 ⟨rfl, b69⟩
  have t70 := Below.trans t66 (Below.mono b69 t66.size)
  have s71 := Below.trans s67 (Below.mono b69 s67.size)
  replace o25 := owns_below o25 b69
  replace o34 := owns_below o34 b69
  replace o45 := owns_below o45 b69
  replace o59 := owns_below o59 b69
  go_wp2_with fail
  refine (toWordOpS_c _ x_aA _ hx_aA (FlatB.flat (FlatB.below h_aA t70) t70.size)).mono ?_
  rintro e w73 ⟨v72, rfl, o74, b75⟩
  have t76 := Below.trans t70 (Below.mono b75 t70.size)
  have s77 := Below.trans s71 (Below.mono b75 s71.size)
  replace o25 := owns_below o25 b75
  replace o34 := owns_below o34 b75
  replace o45 := owns_below o45 b75
  replace o59 := owns_below o59 b75
  go_wp2_with fail
  refine (eqWordOpS_c _ _ _ _ (Flat.of_owns o25) (Flat.of_owns o74)).mono ?_
  rintro e w78 ⟨rfl, b79⟩
  have t80 := Below.trans t76 (Below.mono b79 t76.size)
  have s81 := Below.trans s77 (Below.mono b79 s77.size)
  replace o25 := owns_below o25 b79
  replace o34 := owns_below o34 b79
  replace o45 := owns_below o45 b79
  replace o59 := owns_below o59 b79
  go_wp2_with fail
  refine (toWordOpS_c _ x_aB _ hx_aB (FlatB.flat (FlatB.below h_aB t80) t80.size)).mono ?_
  rintro e w83 ⟨v82, rfl, o84, b85⟩
  have t86 := Below.trans t80 (Below.mono b85 t80.size)
  have s87 := Below.trans s81 (Below.mono b85 s81.size)
  replace o25 := owns_below o25 b85
  replace o34 := owns_below o34 b85
  replace o45 := owns_below o45 b85
  replace o59 := owns_below o59 b85
  go_wp2_with fail
  refine (eqWordOpS_c _ _ _ _ (Flat.of_owns o34) (Flat.of_owns o84)).mono ?_
  rintro e w88 ⟨rfl, b89⟩
  have t90 := Below.trans t86 (Below.mono b89 t86.size)
  have s91 := Below.trans s87 (Below.mono b89 s87.size)
  replace o25 := owns_below o25 b89
  replace o34 := owns_below o34 b89
  replace o45 := owns_below o45 b89
  replace o59 := owns_below o59 b89
  go_wp2_with fail
  refine (toBoolS_c _ x_aTurns _ hx_aTurns (FlatB.flat (FlatB.below h_aTurns t90) t90.size)).mono ?_
  rintro e w93 ⟨v92, rfl, o94, b95⟩
  have t96 := Below.trans t90 (Below.mono b95 t90.size)
  have s97 := Below.trans s91 (Below.mono b95 s91.size)
  replace o25 := owns_below o25 b95
  replace o34 := owns_below o34 b95
  replace o45 := owns_below o45 b95
  replace o59 := owns_below o59 b95
  go_wp2_with fail
  refine (eqBoolS_c _ _ _ _ (Flat.of_owns o45) (Flat.of_owns o94)).mono ?_
  rintro e w98 ⟨rfl, b99⟩
  have t100 := Below.trans t96 (Below.mono b99 t96.size)
  have s101 := Below.trans s97 (Below.mono b99 s97.size)
  replace o25 := owns_below o25 b99
  replace o34 := owns_below o34 b99
  replace o45 := owns_below o45 b99
  replace o59 := owns_below o59 b99
  go_wp2_with fail
  refine (markWordOpS_c _ _ _ _ _ _ _ (by omega) (by omega) (by omega) o25).mono ?_
  rintro e w102 ⟨rfl, o104, g103⟩
  have t105 := Below.trans t100 (below_of_mark o25 g103 tb29 (Below.size t100))
  have s106 := Below.trans s101 (below_of_mark o25 g103 hb30 (Below.size s101))
  replace o34 := World.ownsRow.kept o34 g103 ap38.2
  replace o45 := World.ownsRow.kept o45 g103 ap49.2
  replace o59 := World.ownsRow.kept o59 g103 ap61.2
  go_wp2_with fail
  refine (markWordOpS_c _ _ _ _ _ _ _ (by omega) (by omega) (by omega) o34).mono ?_
  rintro e w107 ⟨rfl, o109, g108⟩
  have t110 := Below.trans t105 (below_of_mark o34 g108 tb39 (Below.size t105))
  have s111 := Below.trans s106 (below_of_mark o34 g108 hb40 (Below.size s106))
  replace o104 := World.ownsRow.kept o104 g108 ap38.1
  replace o45 := World.ownsRow.kept o45 g108 ap50.2
  replace o59 := World.ownsRow.kept o59 g108 ap62.2
  go_wp2_with fail
  refine (markBoolS_c _ _ _ _ _ _ _ (by omega) (by omega) (by omega) o45).mono ?_
  rintro e w112 ⟨rfl, o114, g113⟩
  have t115 := Below.trans t110 (below_of_mark o45 g113 tb51 (Below.size t110))
  have s116 := Below.trans s111 (below_of_mark o45 g113 hb52 (Below.size s111))
  replace o104 := World.ownsRow.kept o104 g113 ap49.1
  replace o109 := World.ownsRow.kept o109 g113 ap50.1
  replace o59 := World.ownsRow.kept o59 g113 ap63.2
  go_wp2_with fail
  refine (eqWordOpS_c _ _ _ _ (Flat.of_owns o59) (FlatB.flat (FlatB.below o19 s116) s116.size)).mono ?_
  rintro e w117 ⟨rfl, b118⟩
  have t119 := Below.trans t115 (Below.mono b118 t115.size)
  have s120 := Below.trans s116 (Below.mono b118 s116.size)
  replace o104 := owns_below o104 b118
  replace o109 := owns_below o109 b118
  replace o114 := owns_below o114 b118
  replace o59 := owns_below o59 b118
  go_wp2_with fail
  refine (markWordOpS_c _ _ _ _ _ _ _ (by omega) (by omega) (by omega) o59).mono ?_
  rintro e w121 ⟨rfl, o123, g122⟩
  have t124 := Below.trans t119 (below_of_mark o59 g122 tb64 (Below.size t119))
  have s125 := Below.trans s120 (below_of_mark o59 g122 hb65 (Below.size s120))
  replace o104 := World.ownsRow.kept o104 g122 ap61.1
  replace o109 := World.ownsRow.kept o109 g122 ap62.1
  replace o114 := World.ownsRow.kept o114 g122 ap63.1
  go_wp2_with fail
  refine (heldWordOpS_c _ _ _ _ (by omega) (by omega) (by omega) (Flat.of_owns o123)).mono ?_
  rintro e w126 ⟨rfl, b127⟩
  have t128 := Below.trans t124 (Below.mono b127 t124.size)
  have s129 := Below.trans s125 (Below.mono b127 s125.size)
  replace o104 := owns_below o104 b127
  replace o109 := owns_below o109 b127
  replace o114 := owns_below o114 b127
  replace o123 := owns_below o123 b127
  go_wp2_with fail
  refine (toWordOpS_c _ x_aA _ hx_aA (FlatB.flat (FlatB.below h_aA t128) t128.size)).mono ?_
  rintro e w131 ⟨v130, rfl, o132, b133⟩
  have t134 := Below.trans t128 (Below.mono b133 t128.size)
  have s135 := Below.trans s129 (Below.mono b133 s129.size)
  replace o104 := owns_below o104 b133
  replace o109 := owns_below o109 b133
  replace o114 := owns_below o114 b133
  replace o123 := owns_below o123 b133
  go_wp2_with fail
  refine (toWordOpS_c _ x_aB _ hx_aB (FlatB.flat (FlatB.below h_aB t134) t134.size)).mono ?_
  rintro e w137 ⟨v136, rfl, o138, b139⟩
  have t140 := Below.trans t134 (Below.mono b139 t134.size)
  have s141 := Below.trans s135 (Below.mono b139 s135.size)
  replace o104 := owns_below o104 b139
  replace o109 := owns_below o109 b139
  replace o114 := owns_below o114 b139
  replace o123 := owns_below o123 b139
  replace o132 := owns_below o132 b139
  go_wp2_with fail
  refine (toBoolS_c _ x_aTurns _ hx_aTurns (FlatB.flat (FlatB.below h_aTurns t140) t140.size)).mono ?_
  rintro e w143 ⟨v142, rfl, o144, b145⟩
  have t146 := Below.trans t140 (Below.mono b145 t140.size)
  have s147 := Below.trans s141 (Below.mono b145 s141.size)
  replace o104 := owns_below o104 b145
  replace o109 := owns_below o109 b145
  replace o114 := owns_below o114 b145
  replace o123 := owns_below o123 b145
  replace o132 := owns_below o132 b145
  replace o138 := owns_below o138 b145
  go_wp2_with fail
  refine (impl_Merged _ x_aA _ x_aB _ x_aTurns _ (Flat.of_owns o132) hx_aA (Flat.of_owns o138) hx_aB (Flat.of_owns o144) hx_aTurns).mono ?_
  have p148 := o104
  have p149 := o109
  have p150 := o114
  have p151 := o123
  rintro e w152 ⟨v154, rfl, o155, l156, b153⟩
  have ap157 := apart p148 (Nat.le_refl _) o155
  have ap158 := apart p149 (Nat.le_refl _) o155
  have ap159 := apart p150 (Nat.le_refl _) o155
  have ap160 := apart p151 (Nat.le_refl _) o155
  have tb161 := Below.size t146
  have hb162 := Below.size s147
  have t163 := Below.trans t146 (Below.mono b153 t146.size)
  have s164 := Below.trans s147 (Below.mono b153 s147.size)
  replace o104 := owns_below o104 b153
  replace o109 := owns_below o109 b153
  replace o114 := owns_below o114 b153
  replace o123 := owns_below o123 b153
  go_wp2_with fail
  refine (eqWordOpS_c _ _ _ _ (Flat.of_owns o155) (FlatB.flat (FlatB.below o19 s164) s164.size)).mono ?_
  rintro e w165 ⟨rfl, b166⟩
  have t167 := Below.trans t163 (Below.mono b166 t163.size)
  have s168 := Below.trans s164 (Below.mono b166 s164.size)
  replace o104 := owns_below o104 b166
  replace o109 := owns_below o109 b166
  replace o114 := owns_below o114 b166
  replace o123 := owns_below o123 b166
  replace o155 := owns_below o155 b166
  go_wp2_with fail
  refine (heldWordOpS_c _ _ _ _ (by omega) (by omega) (by omega) (Flat.of_owns o123)).mono ?_
  rintro e w169 ⟨rfl, b170⟩
  have t171 := Below.trans t167 (Below.mono b170 t167.size)
  have s172 := Below.trans s168 (Below.mono b170 s168.size)
  replace o104 := owns_below o104 b170
  replace o109 := owns_below o109 b170
  replace o114 := owns_below o114 b170
  replace o123 := owns_below o123 b170
  replace o155 := owns_below o155 b170
  go_wp2_with fail
  try go_wp2
  go_ret
  exact ⟨rfl, hB0.trans (Below.mono t171 hB0.size)⟩

end Go.Proofs.Ytfhkngmankmehaa
