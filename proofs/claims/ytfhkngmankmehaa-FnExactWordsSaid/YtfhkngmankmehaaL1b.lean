/- Chapter 1's exact laws, walked, more. -/
import Derived.Test.YtfhkngmankmehaaS1b
import Derived.Test.YtfhkngmankmehaaI1c
namespace Go.Proofs.Ytfhkngmankmehaa
open Go.RowKit Go.Proofs Go.Own

set_option maxRecDepth 100000 in
set_option maxHeartbeats 4000000 in
theorem law_Words (v_aM : Value) (x_aM : List Int) (v_aOps : Value) (x_aOps : List WordOp) (w : World) (h_aM : Ints w v_aM x_aM) (h_aOps : WordOps w v_aOps x_aOps) :
    Calls Try.prog 5 #[v_aM, v_aOps] w fun e w' => e = .returned (.bool true) ∧ Below w.heap.size w w' := by
  obtain ⟨ad_aM, cap_aM, hv_aM, hl_aM, hm_aM⟩ := Flat.form h_aM
  obtain ⟨ad_aOps, cap_aOps, hv_aOps, hl_aOps, hm_aOps⟩ := Flat.form h_aOps
  by_cases big_aM : 1048576 < x_aM.length
  · subst hv_aM; subst hv_aOps
    clear h_aM h_aOps
    go_enter Try.func5, Try.ntmps5
    go_wp2
    go_ret
    exact ⟨rfl, (by repeat (first | exact Below.refl _ _ | refine Below.alloc ?_ (by simp; try omega) _))⟩
  by_cases big_aOps : 1048576 < x_aOps.length
  · subst hv_aM; subst hv_aOps
    clear h_aM h_aOps
    go_enter Try.func5, Try.ntmps5
    go_wp2_with fail
    refine (szWordOpS_c _ _ _ _ _ (by omega) (by omega) (by omega)).mono ?_
    rintro e w' ⟨rfl, rfl⟩
    rw [if_pos (by omega)]
    go_wp2
    go_ret
    exact ⟨rfl, (by repeat (first | exact Below.refl _ _ | refine Below.alloc ?_ (by simp; try omega) _))⟩
  have hx_aM : x_aM.length ≤ 1048576 := by omega
  have hx_aOps : x_aOps.length ≤ 1048576 := by omega
  have Hv_aM := hid hv_aM; clear hv_aM
  have Hv_aOps := hid hv_aOps; clear hv_aOps
  rw [Hv_aM.out] at h_aM ⊢
  rw [Hv_aOps.out] at h_aOps ⊢
  have hB0 : Below w.heap.size w w := Below.refl _ _
  go_enter Try.func5, Try.ntmps5
  go_wp2_with fail
  refine (szWordOpS_c _ _ _ _ _ (by omega) (by omega) (by omega)).mono ?_
  rintro e w' ⟨rfl, rfl⟩
  rw [if_neg (by omega)]
  go_wp2_with fail
  refine (toIntS_c _ x_aM _ hx_aM (FlatB.flat (FlatB.below h_aM (Below.refl _ _ : Below w.heap.size w w)) (Below.refl _ _ : Below w.heap.size w w).size)).mono ?_
  rintro e w2 ⟨v1, rfl, o3, b4⟩
  have t5 := Below.trans (Below.refl _ _ : Below w.heap.size w w) (Below.mono b4 (Below.refl _ _ : Below w.heap.size w w).size)
  go_wp2_with fail
  refine (toWordOpS_c _ x_aOps _ hx_aOps (FlatB.flat (FlatB.below h_aOps t5) t5.size)).mono ?_
  rintro e w7 ⟨v6, rfl, o8, b9⟩
  have t10 := Below.trans t5 (Below.mono b9 t5.size)
  replace o3 := owns_below o3 b9
  go_wp2_with fail
  refine (spec_Words _ x_aM _ x_aOps _ (Flat.of_owns o3) hx_aM (Flat.of_owns o8) hx_aOps).mono ?_
  rintro e w11 ⟨v13, v16, rfl, o14, o17, b12⟩
  have t20 := Below.trans t10 (Below.mono b12 t10.size)
  have s21 : Below w11.heap.size w11 w11 := Below.refl _ _
  go_wp2_with fail
  refine (toIntS_c _ x_aM _ hx_aM (FlatB.flat (FlatB.below h_aM t20) t20.size)).mono ?_
  rintro e w23 ⟨v22, rfl, o24, b25⟩
  have t26 := Below.trans t20 (Below.mono b25 t20.size)
  have s27 := Below.trans s21 (Below.mono b25 s21.size)
  have tb28 := Below.size t20
  have hb29 := Below.size s21
  go_wp2_with fail
  have p30 := o24
  refine (toWordOpS_c _ x_aOps _ hx_aOps (FlatB.flat (FlatB.below h_aOps t26) t26.size)).mono ?_
  rintro e w32 ⟨v31, rfl, o33, b34⟩
  have t35 := Below.trans t26 (Below.mono b34 t26.size)
  have s36 := Below.trans s27 (Below.mono b34 s27.size)
  replace o24 := owns_below o24 b34
  have ap37 := apart p30 (Nat.le_refl _) o33
  have tb38 := Below.size t26
  have hb39 := Below.size s27
  go_wp2_with fail
  refine (impl_Words _ x_aM _ x_aOps _ (Flat.of_owns o24) hx_aM (Flat.of_owns o33) hx_aOps).mono ?_
  have p40 := o24
  have p41 := o33
  rintro e w42 ⟨v44, v47, rfl, o45, l46, o48, l49, ap50, b43⟩
  have ap51 := apart p40 (Nat.le_refl _) o45
  have ap52 := apart p41 (Nat.le_refl _) o45
  have tb53 := Below.size t35
  have hb54 := Below.size s36
  have ap55 := apart p40 (Nat.le_refl _) o48
  have ap56 := apart p41 (Nat.le_refl _) o48
  have tb57 := Below.size t35
  have hb58 := Below.size s36
  have t59 := Below.trans t35 (Below.mono b43 t35.size)
  have s60 := Below.trans s36 (Below.mono b43 s36.size)
  replace o24 := owns_below o24 b43
  replace o33 := owns_below o33 b43
  go_wp2_with fail
  refine (eqIntS_c _ _ _ _ (Flat.of_owns o45) (FlatB.flat (FlatB.below o14 s60) s60.size)).mono ?_
  rintro e w61 ⟨rfl, b62⟩
  have t63 := Below.trans t59 (Below.mono b62 t59.size)
  have s64 := Below.trans s60 (Below.mono b62 s60.size)
  replace o24 := owns_below o24 b62
  replace o33 := owns_below o33 b62
  replace o45 := owns_below o45 b62
  replace o48 := owns_below o48 b62
  go_wp2_with fail
  refine (eqIntS_c _ _ _ _ (Flat.of_owns o48) (FlatB.flat (FlatB.below o17 s64) s64.size)).mono ?_
  rintro e w65 ⟨rfl, b66⟩
  have t67 := Below.trans t63 (Below.mono b66 t63.size)
  have s68 := Below.trans s64 (Below.mono b66 s64.size)
  replace o24 := owns_below o24 b66
  replace o33 := owns_below o33 b66
  replace o45 := owns_below o45 b66
  replace o48 := owns_below o48 b66
  go_wp2_with fail
  refine (toIntS_c _ x_aM _ hx_aM (FlatB.flat (FlatB.below h_aM t67) t67.size)).mono ?_
  rintro e w70 ⟨v69, rfl, o71, b72⟩
  have t73 := Below.trans t67 (Below.mono b72 t67.size)
  have s74 := Below.trans s68 (Below.mono b72 s68.size)
  replace o24 := owns_below o24 b72
  replace o33 := owns_below o33 b72
  replace o45 := owns_below o45 b72
  replace o48 := owns_below o48 b72
  go_wp2_with fail
  refine (eqIntS_c _ _ _ _ (Flat.of_owns o24) (Flat.of_owns o71)).mono ?_
  rintro e w75 ⟨rfl, b76⟩
  have t77 := Below.trans t73 (Below.mono b76 t73.size)
  have s78 := Below.trans s74 (Below.mono b76 s74.size)
  replace o24 := owns_below o24 b76
  replace o33 := owns_below o33 b76
  replace o45 := owns_below o45 b76
  replace o48 := owns_below o48 b76
  go_wp2_with fail
  refine (toWordOpS_c _ x_aOps _ hx_aOps (FlatB.flat (FlatB.below h_aOps t77) t77.size)).mono ?_
  rintro e w80 ⟨v79, rfl, o81, b82⟩
  have t83 := Below.trans t77 (Below.mono b82 t77.size)
  have s84 := Below.trans s78 (Below.mono b82 s78.size)
  replace o24 := owns_below o24 b82
  replace o33 := owns_below o33 b82
  replace o45 := owns_below o45 b82
  replace o48 := owns_below o48 b82
  go_wp2_with fail
  refine (eqWordOpS_c _ _ _ _ (Flat.of_owns o33) (Flat.of_owns o81)).mono ?_
  rintro e w85 ⟨rfl, b86⟩
  have t87 := Below.trans t83 (Below.mono b86 t83.size)
  have s88 := Below.trans s84 (Below.mono b86 s84.size)
  replace o24 := owns_below o24 b86
  replace o33 := owns_below o33 b86
  replace o45 := owns_below o45 b86
  replace o48 := owns_below o48 b86
  go_wp2_with fail
  refine (markIntS_c _ _ _ _ _ _ _ (by omega) (by omega) (by omega) o24).mono ?_
  rintro e w89 ⟨rfl, o91, g90⟩
  have t92 := Below.trans t87 (below_of_mark o24 g90 tb28 (Below.size t87))
  have s93 := Below.trans s88 (below_of_mark o24 g90 hb29 (Below.size s88))
  replace o33 := World.ownsRow.kept o33 g90 ap37.2
  replace o45 := World.ownsRow.kept o45 g90 ap51.2
  replace o48 := World.ownsRow.kept o48 g90 ap55.2
  go_wp2_with fail
  refine (markWordOpS_c _ _ _ _ _ _ _ (by omega) (by omega) (by omega) o33).mono ?_
  rintro e w94 ⟨rfl, o96, g95⟩
  have t97 := Below.trans t92 (below_of_mark o33 g95 tb38 (Below.size t92))
  have s98 := Below.trans s93 (below_of_mark o33 g95 hb39 (Below.size s93))
  replace o91 := World.ownsRow.kept o91 g95 ap37.1
  replace o45 := World.ownsRow.kept o45 g95 ap52.2
  replace o48 := World.ownsRow.kept o48 g95 ap56.2
  go_wp2_with fail
  refine (eqIntS_c _ _ _ _ (Flat.of_owns o45) (FlatB.flat (FlatB.below o14 s98) s98.size)).mono ?_
  rintro e w99 ⟨rfl, b100⟩
  have t101 := Below.trans t97 (Below.mono b100 t97.size)
  have s102 := Below.trans s98 (Below.mono b100 s98.size)
  replace o91 := owns_below o91 b100
  replace o96 := owns_below o96 b100
  replace o45 := owns_below o45 b100
  replace o48 := owns_below o48 b100
  go_wp2_with fail
  refine (eqIntS_c _ _ _ _ (Flat.of_owns o48) (FlatB.flat (FlatB.below o17 s102) s102.size)).mono ?_
  rintro e w103 ⟨rfl, b104⟩
  have t105 := Below.trans t101 (Below.mono b104 t101.size)
  have s106 := Below.trans s102 (Below.mono b104 s102.size)
  replace o91 := owns_below o91 b104
  replace o96 := owns_below o96 b104
  replace o45 := owns_below o45 b104
  replace o48 := owns_below o48 b104
  go_wp2_with fail
  refine (markIntS_c _ _ _ _ _ _ _ (by omega) (by omega) (by omega) o45).mono ?_
  rintro e w107 ⟨rfl, o109, g108⟩
  have t110 := Below.trans t105 (below_of_mark o45 g108 tb53 (Below.size t105))
  have s111 := Below.trans s106 (below_of_mark o45 g108 hb54 (Below.size s106))
  replace o91 := World.ownsRow.kept o91 g108 ap51.1
  replace o96 := World.ownsRow.kept o96 g108 ap52.1
  replace o48 := World.ownsRow.kept o48 g108 ap50.2
  go_wp2_with fail
  refine (markIntS_c _ _ _ _ _ _ _ (by omega) (by omega) (by omega) o48).mono ?_
  rintro e w112 ⟨rfl, o114, g113⟩
  have t115 := Below.trans t110 (below_of_mark o48 g113 tb57 (Below.size t110))
  have s116 := Below.trans s111 (below_of_mark o48 g113 hb58 (Below.size s111))
  replace o91 := World.ownsRow.kept o91 g113 ap55.1
  replace o96 := World.ownsRow.kept o96 g113 ap56.1
  replace o109 := World.ownsRow.kept o109 g113 ap50.1
  go_wp2_with fail
  refine (heldIntS_c _ _ _ _ (by omega) (by omega) (by omega) (Flat.of_owns o109)).mono ?_
  rintro e w117 ⟨rfl, b118⟩
  have t119 := Below.trans t115 (Below.mono b118 t115.size)
  have s120 := Below.trans s116 (Below.mono b118 s116.size)
  replace o91 := owns_below o91 b118
  replace o96 := owns_below o96 b118
  replace o109 := owns_below o109 b118
  replace o114 := owns_below o114 b118
  go_wp2_with fail
  refine (heldIntS_c _ _ _ _ (by omega) (by omega) (by omega) (Flat.of_owns o114)).mono ?_
  rintro e w121 ⟨rfl, b122⟩
  have t123 := Below.trans t119 (Below.mono b122 t119.size)
  have s124 := Below.trans s120 (Below.mono b122 s120.size)
  replace o91 := owns_below o91 b122
  replace o96 := owns_below o96 b122
  replace o109 := owns_below o109 b122
  replace o114 := owns_below o114 b122
  go_wp2_with fail
  refine (toIntS_c _ x_aM _ hx_aM (FlatB.flat (FlatB.below h_aM t123) t123.size)).mono ?_
  rintro e w126 ⟨v125, rfl, o127, b128⟩
  have t129 := Below.trans t123 (Below.mono b128 t123.size)
  have s130 := Below.trans s124 (Below.mono b128 s124.size)
  replace o91 := owns_below o91 b128
  replace o96 := owns_below o96 b128
  replace o109 := owns_below o109 b128
  replace o114 := owns_below o114 b128
  go_wp2_with fail
  refine (toWordOpS_c _ x_aOps _ hx_aOps (FlatB.flat (FlatB.below h_aOps t129) t129.size)).mono ?_
  rintro e w132 ⟨v131, rfl, o133, b134⟩
  have t135 := Below.trans t129 (Below.mono b134 t129.size)
  have s136 := Below.trans s130 (Below.mono b134 s130.size)
  replace o91 := owns_below o91 b134
  replace o96 := owns_below o96 b134
  replace o109 := owns_below o109 b134
  replace o114 := owns_below o114 b134
  replace o127 := owns_below o127 b134
  go_wp2_with fail
  refine (impl_Words _ x_aM _ x_aOps _ (Flat.of_owns o127) hx_aM (Flat.of_owns o133) hx_aOps).mono ?_
  have p137 := o91
  have p138 := o96
  have p139 := o109
  have p140 := o114
  rintro e w141 ⟨v143, v146, rfl, o144, l145, o147, l148, ap149, b142⟩
  have ap150 := apart p137 (Nat.le_refl _) o144
  have ap151 := apart p138 (Nat.le_refl _) o144
  have ap152 := apart p139 (Nat.le_refl _) o144
  have ap153 := apart p140 (Nat.le_refl _) o144
  have tb154 := Below.size t135
  have hb155 := Below.size s136
  have ap156 := apart p137 (Nat.le_refl _) o147
  have ap157 := apart p138 (Nat.le_refl _) o147
  have ap158 := apart p139 (Nat.le_refl _) o147
  have ap159 := apart p140 (Nat.le_refl _) o147
  have tb160 := Below.size t135
  have hb161 := Below.size s136
  have t162 := Below.trans t135 (Below.mono b142 t135.size)
  have s163 := Below.trans s136 (Below.mono b142 s136.size)
  replace o91 := owns_below o91 b142
  replace o96 := owns_below o96 b142
  replace o109 := owns_below o109 b142
  replace o114 := owns_below o114 b142
  go_wp2_with fail
  refine (eqIntS_c _ _ _ _ (Flat.of_owns o144) (FlatB.flat (FlatB.below o14 s163) s163.size)).mono ?_
  rintro e w164 ⟨rfl, b165⟩
  have t166 := Below.trans t162 (Below.mono b165 t162.size)
  have s167 := Below.trans s163 (Below.mono b165 s163.size)
  replace o91 := owns_below o91 b165
  replace o96 := owns_below o96 b165
  replace o109 := owns_below o109 b165
  replace o114 := owns_below o114 b165
  replace o144 := owns_below o144 b165
  replace o147 := owns_below o147 b165
  go_wp2_with fail
  refine (eqIntS_c _ _ _ _ (Flat.of_owns o147) (FlatB.flat (FlatB.below o17 s167) s167.size)).mono ?_
  rintro e w168 ⟨rfl, b169⟩
  have t170 := Below.trans t166 (Below.mono b169 t166.size)
  have s171 := Below.trans s167 (Below.mono b169 s167.size)
  replace o91 := owns_below o91 b169
  replace o96 := owns_below o96 b169
  replace o109 := owns_below o109 b169
  replace o114 := owns_below o114 b169
  replace o144 := owns_below o144 b169
  replace o147 := owns_below o147 b169
  go_wp2_with fail
  refine (heldIntS_c _ _ _ _ (by omega) (by omega) (by omega) (Flat.of_owns o109)).mono ?_
  rintro e w172 ⟨rfl, b173⟩
  have t174 := Below.trans t170 (Below.mono b173 t170.size)
  have s175 := Below.trans s171 (Below.mono b173 s171.size)
  replace o91 := owns_below o91 b173
  replace o96 := owns_below o96 b173
  replace o109 := owns_below o109 b173
  replace o114 := owns_below o114 b173
  replace o144 := owns_below o144 b173
  replace o147 := owns_below o147 b173
  go_wp2_with fail
  refine (heldIntS_c _ _ _ _ (by omega) (by omega) (by omega) (Flat.of_owns o114)).mono ?_
  rintro e w176 ⟨rfl, b177⟩
  have t178 := Below.trans t174 (Below.mono b177 t174.size)
  have s179 := Below.trans s175 (Below.mono b177 s175.size)
  replace o91 := owns_below o91 b177
  replace o96 := owns_below o96 b177
  replace o109 := owns_below o109 b177
  replace o114 := owns_below o114 b177
  replace o144 := owns_below o144 b177
  replace o147 := owns_below o147 b177
  go_wp2_with fail
  try go_wp2
  go_ret
  exact ⟨rfl, hB0.trans (Below.mono t178 hB0.size)⟩

end Go.Proofs.Ytfhkngmankmehaa
