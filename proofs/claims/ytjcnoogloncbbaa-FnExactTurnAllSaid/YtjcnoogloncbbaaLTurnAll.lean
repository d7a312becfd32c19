/- FnExactTurnAll, walked. -/
import Derived.Test.YtjcnoogloncbbaaW4
import Derived.Test.YtjcnoogloncbbaaBx
import Derived.Test.YtjcnoogloncbbaaKeep
import Derived.Deep.RegionHeld3
import Derived.StillTailTactics
namespace Go.Proofs.Ytjcnoogloncbbaa
set_option maxRecDepth 100000
open Go.RowKit Go.Proofs Go.Own
set_option linter.unusedVariables false

set_option maxRecDepth 100000 in
set_option maxHeartbeats 8000000 in
theorem law_TurnAll (v_aList0 : Value) (x_aList0 : List Phasor) (v_aTurns0 : Value) (x_aTurns0 : List Turn4) (w : World) (h_aList0 : Phasors w v_aList0 x_aList0) (h_aTurns0 : Turn4s w v_aTurns0 x_aTurns0) :
    Calls Try.prog 8 #[v_aList0, v_aTurns0] w fun e w' => e = .returned (.bool true) ∧ Below w.heap.size w w' := by
  obtain ⟨ad_aList0, cap_aList0, rfl, hl_aList0, hm_aList0⟩ := Flat.form h_aList0
  obtain ⟨ad_aTurns0, cap_aTurns0, rfl, hl_aTurns0, hm_aTurns0⟩ := Flat.form h_aTurns0
  have hB0 : Below w.heap.size w w := Below.refl _ _
  go_enter Try.func8, Try.ntmps8
  go_wp2_with fail
  have hl0_aList : 0 ≤ (1048576 : Int) := by omega
  refine (szPhasorS_c _ _ _ _ _ (by omega) (by omega) (by omega)).mono ?_
  rintro e w1 ⟨rfl, b2⟩
  obtain rfl := b2
  by_cases big_aList : (1048576 : Int) < (x_aList0.length : Int)
  · rw [if_pos big_aList]
    go_wp2
    go_ret
    exact ⟨rfl, hB0.trans (Below.mono (Below.refl _ _ : Below w.heap.size w w) hB0.size)⟩
  rw [if_neg big_aList]
  go_wp2_with fail
  have hl0_aTurns : 0 ≤ (1048576 : Int) - (x_aList0.length : Int) := by omega
  refine (szTurn4S_c _ _ _ _ _ (by omega) (by omega) (by omega)).mono ?_
  rintro e w3 ⟨rfl, b4⟩
  obtain rfl := b4
  by_cases big_aTurns : (1048576 : Int) - (x_aList0.length : Int) < (x_aTurns0.length : Int)
  · rw [if_pos big_aTurns]
    go_wp2
    go_ret
    exact ⟨rfl, hB0.trans (Below.mono (Below.refl _ _ : Below w.heap.size w w) hB0.size)⟩
  rw [if_neg big_aTurns]
  go_wp2_with fail
  have hx_aList0 : x_aList0.length ≤ 1048576 := by omega
  have hx_aTurns0 : x_aTurns0.length ≤ 1048576 := by omega
  refine (toPhasorS_c _ x_aList0 _ hx_aList0 (FlatB.flat (FlatB.below h_aList0 (Below.refl _ _ : Below w.heap.size w w)) (Below.refl _ _ : Below w.heap.size w w).size)).mono ?_
  rintro e w5 ⟨v7, rfl, o8, b6⟩
  obtain ⟨a9, m10, c11, rfl⟩ := owns_form3 o8
  have t12 := Below.trans (Below.refl _ _ : Below w.heap.size w w) (Below.mono b6 (Below.refl _ _ : Below w.heap.size w w).size)
  go_wp2_with fail
  refine (toTurn4S_c _ x_aTurns0 _ hx_aTurns0 (FlatB.flat (FlatB.below h_aTurns0 t12) t12.size)).mono ?_
  rintro e w13 ⟨v15, rfl, o16, b14⟩
  obtain ⟨a17, m18, c19, rfl⟩ := owns_form3 o16
  have t20 := Below.trans t12 (Below.mono b14 t12.size)
  replace o8 := owns_below o8 b14
  go_wp2_with fail
  refine (spec_TurnAll _ x_aList0 _ x_aTurns0 _ (Flat.of_owns o8) hx_aList0 (Flat.of_owns o16) hx_aTurns0).mono ?_
  rintro e w21 ⟨v23, q24, rfl, hq25, o26, b22⟩
  obtain ⟨a28, m29, c30, rfl⟩ := Flat.form3 o26
  have t31 := Below.trans t20 (Below.mono b22 t20.size)
  have s32 : Below w21.heap.size w21 w21 := Below.refl _ _
  go_wp2_with fail
  refine (toPhasorS_c _ x_aList0 _ hx_aList0 (FlatB.flat (FlatB.below h_aList0 t31) t31.size)).mono ?_
  rintro e w33 ⟨v35, rfl, o36, b34⟩
  obtain ⟨a37, m38, c39, rfl⟩ := owns_form3 o36
  have t40 := Below.trans t31 (Below.mono b34 t31.size)
  have s41 := Below.trans s32 (Below.mono b34 s32.size)
  have tb42 := Below.size t31
  have hb43 := Below.size s32
  go_wp2_with fail
  have p44 := o36
  refine (toTurn4S_c _ x_aTurns0 _ hx_aTurns0 (FlatB.flat (FlatB.below h_aTurns0 t40) t40.size)).mono ?_
  rintro e w45 ⟨v47, rfl, o48, b46⟩
  obtain ⟨a49, m50, c51, rfl⟩ := owns_form3 o48
  have t52 := Below.trans t40 (Below.mono b46 t40.size)
  have s53 := Below.trans s41 (Below.mono b46 s41.size)
  replace o36 := owns_below o36 b46
  have tb54 := Below.size t40
  have hb55 := Below.size s41
  have ap56 := apart p44 (Nat.le_refl _) o48
  go_wp2_with fail
  have p57 := o36
  have p58 := o48
  refine (impl_TurnAll _ x_aList0 _ x_aTurns0 _ (Flat.of_owns o36) hx_aList0 (Flat.of_owns o48) hx_aTurns0).mono ?_
  rintro e w59 ⟨v61, q62, rfl, hq63, o64, l65, b60⟩
  obtain ⟨a66, m67, c68, rfl⟩ := owns_form3 o64
  have t69 := Below.trans t52 (Below.mono b60 t52.size)
  have s70 := Below.trans s53 (Below.mono b60 s53.size)
  replace o36 := owns_below o36 b60
  replace o48 := owns_below o48 b60
  have tb71 := Below.size t52
  have hb72 := Below.size s53
  have ap73 := apart p57 (Nat.le_refl _) o64
  have ap74 := apart p58 (Nat.le_refl _) o64
  go_wp2_with fail
  refine (eqPhasorS_c _ _ _ _ _ (Flat.of_owns o64) (FlatB.flat (FlatB.below o26 s70) s70.size) (hq63.trans hq25.symm)).mono ?_
  rintro e w75 ⟨rfl, b76⟩
  have t77 := Below.trans t69 (Below.mono b76 t69.size)
  have s78 := Below.trans s70 (Below.mono b76 s70.size)
  replace o36 := owns_below o36 b76
  replace o48 := owns_below o48 b76
  replace o64 := owns_below o64 b76
  go_wp2_with fail
  refine (toPhasorS_c _ x_aList0 _ hx_aList0 (FlatB.flat (FlatB.below h_aList0 t77) t77.size)).mono ?_
  rintro e w79 ⟨v81, rfl, o82, b80⟩
  obtain ⟨a83, m84, c85, rfl⟩ := owns_form3 o82
  have t86 := Below.trans t77 (Below.mono b80 t77.size)
  have s87 := Below.trans s78 (Below.mono b80 s78.size)
  replace o36 := owns_below o36 b80
  replace o48 := owns_below o48 b80
  replace o64 := owns_below o64 b80
  go_wp2_with fail
  refine (eqPhasorS_c _ _ _ _ _ (Flat.of_owns o36) (Flat.of_owns o82) rfl).mono ?_
  rintro e w88 ⟨rfl, b89⟩
  have t90 := Below.trans t86 (Below.mono b89 t86.size)
  have s91 := Below.trans s87 (Below.mono b89 s87.size)
  replace o36 := owns_below o36 b89
  replace o48 := owns_below o48 b89
  replace o64 := owns_below o64 b89
  go_wp2_with fail
  refine (toTurn4S_c _ x_aTurns0 _ hx_aTurns0 (FlatB.flat (FlatB.below h_aTurns0 t90) t90.size)).mono ?_
  rintro e w92 ⟨v94, rfl, o95, b93⟩
  obtain ⟨a96, m97, c98, rfl⟩ := owns_form3 o95
  have t99 := Below.trans t90 (Below.mono b93 t90.size)
  have s100 := Below.trans s91 (Below.mono b93 s91.size)
  replace o36 := owns_below o36 b93
  replace o48 := owns_below o48 b93
  replace o64 := owns_below o64 b93
  go_wp2_with fail
  refine (eqTurn4S_c _ _ _ _ (Flat.of_owns o48) (Flat.of_owns o95)).mono ?_
  rintro e w101 ⟨rfl, b102⟩
  have t103 := Below.trans t99 (Below.mono b102 t99.size)
  have s104 := Below.trans s100 (Below.mono b102 s100.size)
  replace o36 := owns_below o36 b102
  replace o48 := owns_below o48 b102
  replace o64 := owns_below o64 b102
  go_wp2_with fail
  refine (markPhasorS_c _ _ _ _ _ _ _ (by omega) (by omega) (by omega) o36).mono ?_
  rintro e w105 ⟨rfl, o107, g106⟩
  have t108 := Below.trans t103 (below_of_mark2 o36 g106 tb42 (Below.size t103))
  have s109 := Below.trans s104 (below_of_mark2 o36 g106 hb43 (Below.size s104))
  replace o48 := World.ownsRow.kept o48 g106 ap56.2
  replace o64 := World.ownsRow.kept o64 g106 ap73.2
  go_wp2_with fail
  refine (markTurn4S_c _ _ _ _ _ _ _ (by omega) (by omega) (by omega) o48).mono ?_
  rintro e w110 ⟨rfl, o112, g111⟩
  have t113 := Below.trans t108 (below_of_mark2 o48 g111 tb54 (Below.size t108))
  have s114 := Below.trans s109 (below_of_mark2 o48 g111 hb55 (Below.size s109))
  replace o107 := World.ownsRow.kept o107 g111 ap56.1
  replace o64 := World.ownsRow.kept o64 g111 ap74.2
  go_wp2_with fail
  refine (eqPhasorS_c _ _ _ _ _ (Flat.of_owns o64) (FlatB.flat (FlatB.below o26 s114) s114.size) (hq63.trans hq25.symm)).mono ?_
  rintro e w115 ⟨rfl, b116⟩
  have t117 := Below.trans t113 (Below.mono b116 t113.size)
  have s118 := Below.trans s114 (Below.mono b116 s114.size)
  replace o107 := owns_below o107 b116
  replace o112 := owns_below o112 b116
  replace o64 := owns_below o64 b116
  go_wp2_with fail
  refine (markPhasorS_c _ _ _ _ _ _ _ (by omega) (by omega) (by omega) o64).mono ?_
  rintro e w119 ⟨rfl, o121, g120⟩
  have t122 := Below.trans t117 (below_of_mark2 o64 g120 tb71 (Below.size t117))
  have s123 := Below.trans s118 (below_of_mark2 o64 g120 hb72 (Below.size s118))
  replace o107 := World.ownsRow.kept o107 g120 ap73.1
  replace o112 := World.ownsRow.kept o112 g120 ap74.1
  go_wp2_with fail
  refine (heldPhasorS_c _ _ _ _ (by omega) (by omega) (by omega) (Flat.of_owns o121)).mono ?_
  rintro e w124 ⟨rfl, b125⟩
  have t126 := Below.trans t122 (Below.mono b125 t122.size)
  have s127 := Below.trans s123 (Below.mono b125 s123.size)
  replace o107 := owns_below o107 b125
  replace o112 := owns_below o112 b125
  replace o121 := owns_below o121 b125
  go_wp2_with fail
  refine (toPhasorS_c _ x_aList0 _ hx_aList0 (FlatB.flat (FlatB.below h_aList0 t126) t126.size)).mono ?_
  rintro e w128 ⟨v130, rfl, o131, b129⟩
  obtain ⟨a132, m133, c134, rfl⟩ := owns_form3 o131
  have t135 := Below.trans t126 (Below.mono b129 t126.size)
  have s136 := Below.trans s127 (Below.mono b129 s127.size)
  replace o107 := owns_below o107 b129
  replace o112 := owns_below o112 b129
  replace o121 := owns_below o121 b129
  go_wp2_with fail
  refine (toTurn4S_c _ x_aTurns0 _ hx_aTurns0 (FlatB.flat (FlatB.below h_aTurns0 t135) t135.size)).mono ?_
  rintro e w137 ⟨v139, rfl, o140, b138⟩
  obtain ⟨a141, m142, c143, rfl⟩ := owns_form3 o140
  have t144 := Below.trans t135 (Below.mono b138 t135.size)
  have s145 := Below.trans s136 (Below.mono b138 s136.size)
  replace o107 := owns_below o107 b138
  replace o112 := owns_below o112 b138
  replace o121 := owns_below o121 b138
  replace o131 := owns_below o131 b138
  go_wp2_with fail
  have p146 := o107
  have p147 := o112
  have p148 := o121
  refine (impl_TurnAll _ x_aList0 _ x_aTurns0 _ (Flat.of_owns o131) hx_aList0 (Flat.of_owns o140) hx_aTurns0).mono ?_
  rintro e w149 ⟨v151, q152, rfl, hq153, o154, l155, b150⟩
  obtain ⟨a156, m157, c158, rfl⟩ := owns_form3 o154
  have t159 := Below.trans t144 (Below.mono b150 t144.size)
  have s160 := Below.trans s145 (Below.mono b150 s145.size)
  replace o107 := owns_below o107 b150
  replace o112 := owns_below o112 b150
  replace o121 := owns_below o121 b150
  have tb161 := Below.size t144
  have hb162 := Below.size s145
  have ap163 := apart p146 (Nat.le_refl _) o154
  have ap164 := apart p147 (Nat.le_refl _) o154
  have ap165 := apart p148 (Nat.le_refl _) o154
  go_wp2_with fail
  refine (eqPhasorS_c _ _ _ _ _ (Flat.of_owns o154) (FlatB.flat (FlatB.below o26 s160) s160.size) (hq153.trans hq25.symm)).mono ?_
  rintro e w166 ⟨rfl, b167⟩
  have t168 := Below.trans t159 (Below.mono b167 t159.size)
  have s169 := Below.trans s160 (Below.mono b167 s160.size)
  replace o107 := owns_below o107 b167
  replace o112 := owns_below o112 b167
  replace o121 := owns_below o121 b167
  replace o154 := owns_below o154 b167
  go_wp2_with fail
  refine (heldPhasorS_c _ _ _ _ (by omega) (by omega) (by omega) (Flat.of_owns o121)).mono ?_
  rintro e w170 ⟨rfl, b171⟩
  have t172 := Below.trans t168 (Below.mono b171 t168.size)
  have s173 := Below.trans s169 (Below.mono b171 s169.size)
  replace o107 := owns_below o107 b171
  replace o112 := owns_below o112 b171
  replace o121 := owns_below o121 b171
  replace o154 := owns_below o154 b171
  go_wp2_with fail
  try go_wp2
  go_ret
  exact ⟨rfl, hB0.trans (Below.mono t172 hB0.size)⟩

end Go.Proofs.Ytjcnoogloncbbaa
