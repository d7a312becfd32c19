/- FnExactSwapAll, walked. -/
import Derived.Test.YtfhkngmankmehaaS1c
import Derived.Test.YtfhkngmankmehaaI1d
namespace Go.Proofs.Ytfhkngmankmehaa
open Go.RowKit Go.Proofs Go.Own

set_option maxRecDepth 100000 in
set_option maxHeartbeats 4000000 in
theorem law_SwapAll (v_aM : Value) (x_aM : List Int) (v_aAt : Value) (x_aAt : List Int) (v_aOld : Value) (x_aOld : List Int) (v_aNew : Value) (x_aNew : List Int) (w : World) (h_aM : Ints w v_aM x_aM) (h_aAt : Ints w v_aAt x_aAt) (h_aOld : Ints w v_aOld x_aOld) (h_aNew : Ints w v_aNew x_aNew) :
    Calls Try.prog 6 #[v_aM, v_aAt, v_aOld, v_aNew] w fun e w' => e = .returned (.bool true) ∧ Below w.heap.size w w' := by
  obtain ⟨ad_aM, cap_aM, hv_aM, hl_aM, hm_aM⟩ := Flat.form h_aM
  obtain ⟨ad_aAt, cap_aAt, hv_aAt, hl_aAt, hm_aAt⟩ := Flat.form h_aAt
  obtain ⟨ad_aOld, cap_aOld, hv_aOld, hl_aOld, hm_aOld⟩ := Flat.form h_aOld
  obtain ⟨ad_aNew, cap_aNew, hv_aNew, hl_aNew, hm_aNew⟩ := Flat.form h_aNew
  by_cases big_aM : 1048576 < x_aM.length
  · subst hv_aM; subst hv_aAt; subst hv_aOld; subst hv_aNew
    clear h_aM h_aAt h_aOld h_aNew
    go_enter Try.func6, Try.ntmps6
    go_wp2
    go_ret
    exact ⟨rfl, (by repeat (first | exact Below.refl _ _ | refine Below.alloc ?_ (by simp; try omega) _))⟩
  by_cases big_aAt : 1048576 < x_aAt.length
  · subst hv_aM; subst hv_aAt; subst hv_aOld; subst hv_aNew
    clear h_aM h_aAt h_aOld h_aNew
    go_enter Try.func6, Try.ntmps6
    go_wp2
    go_ret
    exact ⟨rfl, (by repeat (first | exact Below.refl _ _ | refine Below.alloc ?_ (by simp; try omega) _))⟩
  by_cases big_aOld : 1048576 < x_aOld.length
  · subst hv_aM; subst hv_aAt; subst hv_aOld; subst hv_aNew
    clear h_aM h_aAt h_aOld h_aNew
    go_enter Try.func6, Try.ntmps6
    go_wp2
    go_ret
    exact ⟨rfl, (by repeat (first | exact Below.refl _ _ | refine Below.alloc ?_ (by simp; try omega) _))⟩
  by_cases big_aNew : 1048576 < x_aNew.length
  · subst hv_aM; subst hv_aAt; subst hv_aOld; subst hv_aNew
    clear h_aM h_aAt h_aOld h_aNew
    go_enter Try.func6, Try.ntmps6
    go_wp2
    go_ret
    exact ⟨rfl, (by repeat (first | exact Below.refl _ _ | refine Below.alloc ?_ (by simp; try omega) _))⟩
  have hx_aM : x_aM.length ≤ 1048576 := by omega
  have hx_aAt : x_aAt.length ≤ 1048576 := by omega
  have hx_aOld : x_aOld.length ≤ 1048576 := by omega
  have hx_aNew : x_aNew.length ≤ 1048576 := by omega
  have Hv_aM := hid hv_aM; clear hv_aM
  have Hv_aAt := hid hv_aAt; clear hv_aAt
  have Hv_aOld := hid hv_aOld; clear hv_aOld
  have Hv_aNew := hid hv_aNew; clear hv_aNew
  rw [Hv_aM.out] at h_aM ⊢
  rw [Hv_aAt.out] at h_aAt ⊢
  rw [Hv_aOld.out] at h_aOld ⊢
  rw [Hv_aNew.out] at h_aNew ⊢
  have hB0 : Below w.heap.size w w := Below.refl _ _
  go_enter Try.func6, Try.ntmps6
  go_wp2_with fail
  refine (toIntS_c _ x_aM _ hx_aM (FlatB.flat (FlatB.below h_aM (Below.refl _ _ : Below w.heap.size w w)) (Below.refl _ _ : Below w.heap.size w w).size)).mono ?_
  rintro e w2 ⟨v1, rfl, o3, b4⟩
  have t5 := Below.trans (Below.refl _ _ : Below w.heap.size w w) (Below.mono b4 (Below.refl _ _ : Below w.heap.size w w).size)
  go_wp2_with fail
  refine (toIntS_c _ x_aAt _ hx_aAt (FlatB.flat (FlatB.below h_aAt t5) t5.size)).mono ?_
  rintro e w7 ⟨v6, rfl, o8, b9⟩
  have t10 := Below.trans t5 (Below.mono b9 t5.size)
  replace o3 := owns_below o3 b9
  go_wp2_with fail
  refine (toIntS_c _ x_aOld _ hx_aOld (FlatB.flat (FlatB.below h_aOld t10) t10.size)).mono ?_
  rintro e w12 ⟨v11, rfl, o13, b14⟩
  have t15 := Below.trans t10 (Below.mono b14 t10.size)
  replace o3 := owns_below o3 b14
  replace o8 := owns_below o8 b14
  go_wp2_with fail
  refine (toIntS_c _ x_aNew _ hx_aNew (FlatB.flat (FlatB.below h_aNew t15) t15.size)).mono ?_
  rintro e w17 ⟨v16, rfl, o18, b19⟩
  have t20 := Below.trans t15 (Below.mono b19 t15.size)
  replace o3 := owns_below o3 b19
  replace o8 := owns_below o8 b19
  replace o13 := owns_below o13 b19
  go_wp2_with fail
  refine (spec_SwapAll _ x_aM _ x_aAt _ x_aOld _ x_aNew _ (Flat.of_owns o3) hx_aM (Flat.of_owns o8) hx_aAt (Flat.of_owns o13) hx_aOld (Flat.of_owns o18) hx_aNew).mono ?_
  rintro e w21 ⟨v23, rfl, o24, b22⟩
  have t26 := Below.trans t20 (Below.mono b22 t20.size)
  have s27 : Below w21.heap.size w21 w21 := Below.refl _ _
  go_wp2_with fail
  refine (toIntS_c _ x_aM _ hx_aM (FlatB.flat (FlatB.below h_aM t26) t26.size)).mono ?_
  rintro e w29 ⟨v28, rfl, o30, b31⟩
  have t32 := Below.trans t26 (Below.mono b31 t26.size)
  have s33 := Below.trans s27 (Below.mono b31 s27.size)
  have tb34 := Below.size t26
  have hb35 := Below.size s27
  go_wp2_with fail
  have p36 := o30
  refine (toIntS_c _ x_aAt _ hx_aAt (FlatB.flat (FlatB.below h_aAt t32) t32.size)).mono ?_
  rintro e w38 ⟨v37, rfl, o39, b40⟩
  have t41 := Below.trans t32 (Below.mono b40 t32.size)
  have s42 := Below.trans s33 (Below.mono b40 s33.size)
  replace o30 := owns_below o30 b40
  have ap43 := apart p36 (Nat.le_refl _) o39
  have tb44 := Below.size t32
  have hb45 := Below.size s33
  go_wp2_with fail
  have p46 := o30
  have p47 := o39
  refine (toIntS_c _ x_aOld _ hx_aOld (FlatB.flat (FlatB.below h_aOld t41) t41.size)).mono ?_
  rintro e w49 ⟨v48, rfl, o50, b51⟩
  have t52 := Below.trans t41 (Below.mono b51 t41.size)
  have s53 := Below.trans s42 (Below.mono b51 s42.size)
  replace o30 := owns_below o30 b51
  replace o39 := owns_below o39 b51
  have ap54 := apart p46 (Nat.le_refl _) o50
  have ap55 := apart p47 (Nat.le_refl _) o50
  have tb56 := Below.size t41
  have hb57 := Below.size s42
  go_wp2_with fail
  have p58 := o30
  have p59 := o39
  have p60 := o50
  refine (toIntS_c _ x_aNew _ hx_aNew (FlatB.flat (FlatB.below h_aNew t52) t52.size)).mono ?_
  rintro e w62 ⟨v61, rfl, o63, b64⟩
  have t65 := Below.trans t52 (Below.mono b64 t52.size)
  have s66 := Below.trans s53 (Below.mono b64 s53.size)
  replace o30 := owns_below o30 b64
  replace o39 := owns_below o39 b64
  replace o50 := owns_below o50 b64
  have ap67 := apart p58 (Nat.le_refl _) o63
  have ap68 := apart p59 (Nat.le_refl _) o63
  have ap69 := apart p60 (Nat.le_refl _) o63
  have tb70 := Below.size t52
  have hb71 := Below.size s53
  go_wp2_with fail
  refine (impl_SwapAll _ x_aM _ x_aAt _ x_aOld _ x_aNew _ (Flat.of_owns o30) hx_aM (Flat.of_owns o39) hx_aAt (Flat.of_owns o50) hx_aOld (Flat.of_owns o63) hx_aNew).mono ?_
  have p72 := o30
  have p73 := o39
  have p74 := o50
  have p75 := o63
  rintro e w76 ⟨v78, rfl, o79, l80, b77⟩
  have ap81 := apart p72 (Nat.le_refl _) o79
  have ap82 := apart p73 (Nat.le_refl _) o79
  have ap83 := apart p74 (Nat.le_refl _) o79
  have ap84 := apart p75 (Nat.le_refl _) o79
  have tb85 := Below.size t65
  have hb86 := Below.size s66
  have t87 := Below.trans t65 (Below.mono b77 t65.size)
  have s88 := Below.trans s66 (Below.mono b77 s66.size)
  replace o30 := owns_below o30 b77
  replace o39 := owns_below o39 b77
  replace o50 := owns_below o50 b77
  replace o63 := owns_below o63 b77
  go_wp2_with fail
  refine (eqIntS_c _ _ _ _ (Flat.of_owns o79) (FlatB.flat (FlatB.below o24 s88) s88.size)).mono ?_
  rintro e w89 ⟨rfl, b90⟩
  have t91 := Below.trans t87 (Below.mono b90 t87.size)
  have s92 := Below.trans s88 (Below.mono b90 s88.size)
  replace o30 := owns_below o30 b90
  replace o39 := owns_below o39 b90
  replace o50 := owns_below o50 b90
  replace o63 := owns_below o63 b90
  replace o79 := owns_below o79 b90
  go_wp2_with fail
  refine (toIntS_c _ x_aM _ hx_aM (FlatB.flat (FlatB.below h_aM t91) t91.size)).mono ?_
  rintro e w94 ⟨v93, rfl, o95, b96⟩
  have t97 := Below.trans t91 (Below.mono b96 t91.size)
  have s98 := Below.trans s92 (Below.mono b96 s92.size)
  replace o30 := owns_below o30 b96
  replace o39 := owns_below o39 b96
  replace o50 := owns_below o50 b96
  replace o63 := owns_below o63 b96
  replace o79 := owns_below o79 b96
  go_wp2_with fail
  refine (eqIntS_c _ _ _ _ (Flat.of_owns o30) (Flat.of_owns o95)).mono ?_
  rintro e w99 ⟨rfl, b100⟩
  have t101 := Below.trans t97 (Below.mono b100 t97.size)
  have s102 := Below.trans s98 (Below.mono b100 s98.size)
  replace o30 := owns_below o30 b100
  replace o39 := owns_below o39 b100
  replace o50 := owns_below o50 b100
  replace o63 := owns_below o63 b100
  replace o79 := owns_below o79 b100
  go_wp2_with fail
  refine (toIntS_c _ x_aAt _ hx_aAt (FlatB.flat (FlatB.below h_aAt t101) t101.size)).mono ?_
  rintro e w104 ⟨v103, rfl, o105, b106⟩
  have t107 := Below.trans t101 (Below.mono b106 t101.size)
  have s108 := Below.trans s102 (Below.mono b106 s102.size)
  replace o30 := owns_below o30 b106
  replace o39 := owns_below o39 b106
  replace o50 := owns_below o50 b106
  replace o63 := owns_below o63 b106
  replace o79 := owns_below o79 b106
  go_wp2_with fail
  refine (eqIntS_c _ _ _ _ (Flat.of_owns o39) (Flat.of_owns o105)).mono ?_
  rintro e w109 ⟨rfl, b110⟩
  have t111 := Below.trans t107 (Below.mono b110 t107.size)
  have s112 := Below.trans s108 (Below.mono b110 s108.size)
  replace o30 := owns_below o30 b110
  replace o39 := owns_below o39 b110
  replace o50 := owns_below o50 b110
  replace o63 := owns_below o63 b110
  replace o79 := owns_below o79 b110
  go_wp2_with fail
  refine (toIntS_c _ x_aOld _ hx_aOld (FlatB.flat (FlatB.below h_aOld t111) t111.size)).mono ?_
  rintro e w114 ⟨v113, rfl, o115, b116⟩
  have t117 := Below.trans t111 (Below.mono b116 t111.size)
  have s118 := Below.trans s112 (Below.mono b116 s112.size)
  replace o30 := owns_below o30 b116
  replace o39 := owns_below o39 b116
  replace o50 := owns_below o50 b116
  replace o63 := owns_below o63 b116
  replace o79 := owns_below o79 b116
  go_wp2_with fail
  refine (eqIntS_c _ _ _ _ (Flat.of_owns o50) (Flat.of_owns o115)).mono ?_
  rintro e w119 ⟨rfl, b120⟩
  have t121 := Below.trans t117 (Below.mono b120 t117.size)
  have s122 := Below.trans s118 (Below.mono b120 s118.size)
  replace o30 := owns_below o30 b120
  replace o39 := owns_below o39 b120
  replace o50 := owns_below o50 b120
  replace o63 := owns_below o63 b120
  replace o79 := owns_below o79 b120
  go_wp2_with fail
  refine (toIntS_c _ x_aNew _ hx_aNew (FlatB.flat (FlatB.below h_aNew t121) t121.size)).mono ?_
  rintro e w124 ⟨v123, rfl, o125, b126⟩
  have t127 := Below.trans t121 (Below.mono b126 t121.size)
  have s128 := Below.trans s122 (Below.mono b126 s122.size)
  replace o30 := owns_below o30 b126
  replace o39 := owns_below o39 b126
  replace o50 := owns_below o50 b126
  replace o63 := owns_below o63 b126
  replace o79 := owns_below o79 b126
  go_wp2_with fail
  refine (eqIntS_c _ _ _ _ (Flat.of_owns o63) (Flat.of_owns o125)).mono ?_
  rintro e w129 ⟨rfl, b130⟩
  have t131 := Below.trans t127 (Below.mono b130 t127.size)
  have s132 := Below.trans s128 (Below.mono b130 s128.size)
  replace o30 := owns_below o30 b130
  replace o39 := owns_below o39 b130
  replace o50 := owns_below o50 b130
  replace o63 := owns_below o63 b130
  replace o79 := owns_below o79 b130
  go_wp2_with fail
  refine (markIntS_c _ _ _ _ _ _ _ (by omega) (by omega) (by omega) o30).mono ?_
  rintro e w133 ⟨rfl, o135, g134⟩
  have t136 := Below.trans t131 (below_of_mark o30 g134 tb34 (Below.size t131))
  have s137 := Below.trans s132 (below_of_mark o30 g134 hb35 (Below.size s132))
  replace o39 := World.ownsRow.kept o39 g134 ap43.2
  replace o50 := World.ownsRow.kept o50 g134 ap54.2
  replace o63 := World.ownsRow.kept o63 g134 ap67.2
  replace o79 := World.ownsRow.kept o79 g134 ap81.2
  go_wp2_with fail
  refine (markIntS_c _ _ _ _ _ _ _ (by omega) (by omega) (by omega) o39).mono ?_
  rintro e w138 ⟨rfl, o140, g139⟩
  have t141 := Below.trans t136 (below_of_mark o39 g139 tb44 (Below.size t136))
  have s142 := Below.trans s137 (below_of_mark o39 g139 hb45 (Below.size s137))
  replace o135 := World.ownsRow.kept o135 g139 ap43.1
  replace o50 := World.ownsRow.kept o50 g139 ap55.2
  replace o63 := World.ownsRow.kept o63 g139 ap68.2
  replace o79 := World.ownsRow.kept o79 g139 ap82.2
  go_wp2_with fail
  refine (markIntS_c _ _ _ _ _ _ _ (by omega) (by omega) (by omega) o50).mono ?_
  rintro e w143 ⟨rfl, o145, g144⟩
  have t146 := Below.trans t141 (below_of_mark o50 g144 tb56 (Below.size t141))
  have s147 := Below.trans s142 (below_of_mark o50 g144 hb57 (Below.size s142))
  replace o135 := World.ownsRow.kept o135 g144 ap54.1
  replace o140 := World.ownsRow.kept o140 g144 ap55.1
  replace o63 := World.ownsRow.kept o63 g144 ap69.2
  replace o79 := World.ownsRow.kept o79 g144 ap83.2
  go_wp2_with fail
  refine (markIntS_c _ _ _ _ _ _ _ (by omega) (by omega) (by omega) o63).mono ?_
  rintro e w148 ⟨rfl, o150, g149⟩
  have t151 := Below.trans t146 (below_of_mark o63 g149 tb70 (Below.size t146))
  have s152 := Below.trans s147 (below_of_mark o63 g149 hb71 (Below.size s147))
  replace o135 := World.ownsRow.kept o135 g149 ap67.1
  replace o140 := World.ownsRow.kept o140 g149 ap68.1
  replace o145 := World.ownsRow.kept o145 g149 ap69.1
  replace o79 := World.ownsRow.kept o79 g149 ap84.2
  go_wp2_with fail
  refine (eqIntS_c _ _ _ _ (Flat.of_owns o79) (FlatB.flat (FlatB.below o24 s152) s152.size)).mono ?_
  rintro e w153 ⟨rfl, b154⟩
  have t155 := Below.trans t151 (Below.mono b154 t151.size)
  have s156 := Below.trans s152 (Below.mono b154 s152.size)
  replace o135 := owns_below o135 b154
  replace o140 := owns_below o140 b154
  replace o145 := owns_below o145 b154
  replace o150 := owns_below o150 b154
  replace o79 := owns_below o79 b154
  go_wp2_with fail
  refine (markIntS_c _ _ _ _ _ _ _ (by omega) (by omega) (by omega) o79).mono ?_
  rintro e w157 ⟨rfl, o159, g158⟩
  have t160 := Below.trans t155 (below_of_mark o79 g158 tb85 (Below.size t155))
  have s161 := Below.trans s156 (below_of_mark o79 g158 hb86 (Below.size s156))
  replace o135 := World.ownsRow.kept o135 g158 ap81.1
  replace o140 := World.ownsRow.kept o140 g158 ap82.1
  replace o145 := World.ownsRow.kept o145 g158 ap83.1
  replace o150 := World.ownsRow.kept o150 g158 ap84.1
  go_wp2_with fail
  refine (heldIntS_c _ _ _ _ (by omega) (by omega) (by omega) (Flat.of_owns o159)).mono ?_
  rintro e w162 ⟨rfl, b163⟩
  have t164 := Below.trans t160 (Below.mono b163 t160.size)
  have s165 := Below.trans s161 (Below.mono b163 s161.size)
  replace o135 := owns_below o135 b163
  replace o140 := owns_below o140 b163
  replace o145 := owns_below o145 b163
  replace o150 := owns_below o150 b163
  replace o159 := owns_below o159 b163
  go_wp2_with fail
  refine (toIntS_c _ x_aM _ hx_aM (FlatB.flat (FlatB.below h_aM t164) t164.size)).mono ?_
  rintro e w167 ⟨v166, rfl, o168, b169⟩
  have t170 := Below.trans t164 (Below.mono b169 t164.size)
  have s171 := Below.trans s165 (Below.mono b169 s165.size)
  replace o135 := owns_below o135 b169
  replace o140 := owns_below o140 b169
  replace o145 := owns_below o145 b169
  replace o150 := owns_below o150 b169
  replace o159 := owns_below o159 b169
  go_wp2_with fail
  refine (toIntS_c _ x_aAt _ hx_aAt (FlatB.flat (FlatB.below h_aAt t170) t170.size)).mono ?_
  rintro e w173 ⟨v172, rfl, o174, b175⟩
  have t176 := Below.trans t170 (Below.mono b175 t170.size)
  have s177 := Below.trans s171 (Below.mono b175 s171.size)
  replace o135 := owns_below o135 b175
  replace o140 := owns_below o140 b175
  replace o145 := owns_below o145 b175
  replace o150 := owns_below o150 b175
  replace o159 := owns_below o159 b175
  replace o168 := owns_below o168 b175
  go_wp2_with fail
  refine (toIntS_c _ x_aOld _ hx_aOld (FlatB.flat (FlatB.below h_aOld t176) t176.size)).mono ?_
  rintro e w179 ⟨v178, rfl, o180, b181⟩
  have t182 := Below.trans t176 (Below.mono b181 t176.size)
  have s183 := Below.trans s177 (Below.mono b181 s177.size)
  replace o135 := owns_below o135 b181
  replace o140 := owns_below o140 b181
  replace o145 := owns_below o145 b181
  replace o150 := owns_below o150 b181
  replace o159 := owns_below o159 b181
  replace o168 := owns_below o168 b181
  replace o174 := owns_below o174 b181
  go_wp2_with fail
  refine (toIntS_c _ x_aNew _ hx_aNew (FlatB.flat (FlatB.below h_aNew t182) t182.size)).mono ?_
  rintro e w185 ⟨v184, rfl, o186, b187⟩
  have t188 := Below.trans t182 (Below.mono b187 t182.size)
  have s189 := Below.trans s183 (Below.mono b187 s183.size)
  replace o135 := owns_below o135 b187
  replace o140 := owns_below o140 b187
  replace o145 := owns_below o145 b187
  replace o150 := owns_below o150 b187
  replace o159 := owns_below o159 b187
  replace o168 := owns_below o168 b187
  replace o174 := owns_below o174 b187
  replace o180 := owns_below o180 b187
  go_wp2_with fail
  refine (impl_SwapAll _ x_aM _ x_aAt _ x_aOld _ x_aNew _ (Flat.of_owns o168) hx_aM (Flat.of_owns o174) hx_aAt (Flat.of_owns o180) hx_aOld (Flat.of_owns o186) hx_aNew).mono ?_
  have p190 := o135
  have p191 := o140
  have p192 := o145
  have p193 := o150
  have p194 := o159
  rintro e w195 ⟨v197, rfl, o198, l199, b196⟩
  have ap200 := apart p190 (Nat.le_refl _) o198
  have ap201 := apart p191 (Nat.le_refl _) o198
  have ap202 := apart p192 (Nat.le_refl _) o198
  have ap203 := apart p193 (Nat.le_refl _) o198
  have ap204 := apart p194 (Nat.le_refl _) o198
  have tb205 := Below.size t188
  have hb206 := Below.size s189
  have t207 := Below.trans t188 (Below.mono b196 t188.size)
  have s208 := Below.trans s189 (Below.mono b196 s189.size)
  replace o135 := owns_below o135 b196
  replace o140 := owns_below o140 b196
  replace o145 := owns_below o145 b196
  replace o150 := owns_below o150 b196
  replace o159 := owns_below o159 b196
  go_wp2_with fail
  refine (eqIntS_c _ _ _ _ (Flat.of_owns o198) (FlatB.flat (FlatB.below o24 s208) s208.size)).mono ?_
  rintro e w209 ⟨rfl, b210⟩
  have t211 := Below.trans t207 (Below.mono b210 t207.size)
  have s212 := Below.trans s208 (Below.mono b210 s208.size)
  replace o135 := owns_below o135 b210
  replace o140 := owns_below o140 b210
  replace o145 := owns_below o145 b210
  replace o150 := owns_below o150 b210
  replace o159 := owns_below o159 b210
  replace o198 := owns_below o198 b210
  go_wp2_with fail
  refine (heldIntS_c _ _ _ _ (by omega) (by omega) (by omega) (Flat.of_owns o159)).mono ?_
  rintro e w213 ⟨rfl, b214⟩
  have t215 := Below.trans t211 (Below.mono b214 t211.size)
  have s216 := Below.trans s212 (Below.mono b214 s212.size)
  replace o135 := owns_below o135 b214
  replace o140 := owns_below o140 b214
  replace o145 := owns_below o145 b214
  replace o150 := owns_below o150 b214
  replace o159 := owns_below o159 b214
  replace o198 := owns_below o198 b214
  go_wp2_with fail
  try go_wp2
  go_ret
  exact ⟨rfl, hB0.trans (Below.mono t215 hB0.size)⟩

end Go.Proofs.Ytfhkngmankmehaa
