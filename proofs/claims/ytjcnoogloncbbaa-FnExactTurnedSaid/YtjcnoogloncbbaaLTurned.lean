/- FnExactTurned, walked. -/
import Derived.Test.YtjcnoogloncbbaaW4
import Derived.Test.YtjcnoogloncbbaaBx
import Derived.Test.YtjcnoogloncbbaaKeep
import Derived.Deep.RegionHeld3
import Derived.StillTailTactics
namespace Go.Proofs.Ytjcnoogloncbbaa
set_option maxRecDepth 100000
open Go.RowKit Go.Proofs Go.Own
set_option linter.unusedVariables false

set_option maxRecDepth 100000 in
set_option maxHeartbeats 8000000 in
theorem law_Turned (v_aList0 : Value) (x_aList0 : List Phasor) (o_aT : Turn4) (w : World) (h_aList0 : Phasors w v_aList0 x_aList0) :
    Calls Try.prog 7 #[v_aList0, o_aT.val] w fun e w' => e = .returned (.bool true) ∧ Below w.heap.size w w' := by
  obtain ⟨ad_aList0, cap_aList0, rfl, hl_aList0, hm_aList0⟩ := Flat.form h_aList0
  obtain ⟨W1, hW1⟩ : ∃ X, w.alloc (.cells #[Value.int .i64 o_aT.kind_, Value.int .i64 o_aT.at_, Value.int .i64 o_aT.from_, Value.float .f64 o_aT.z0_, Value.float .f64 o_aT.z1_] 44) = X := ⟨_, rfl⟩
  have hbx1 : Below w.heap.size w W1 := by rw [← hW1]; exact (Below.refl _ _).alloc (Nat.le_refl _) _
  have bx_aT : Box W1 w.heap.size [Value.int .i64 o_aT.kind_, Value.int .i64 o_aT.at_, Value.int .i64 o_aT.from_, Value.float .f64 o_aT.z0_, Value.float .f64 o_aT.z1_] := by rw [← hW1]; exact Box.alloc _ _ _
  have hB0 : Below w.heap.size w W1 := hbx1
  replace h_aList0 := Flat.below h_aList0 hB0
  unfold Turn4.val
  go_enter Try.func7, Try.ntmps7
  have k1 : W1.cell? ⟨w.heap.size, 0, none⟩ = some (Value.int .i64 o_aT.kind_) := bx_aT.2 0 (by simp)
  have k2 : W1.cell? ⟨w.heap.size, 1, none⟩ = some (Value.int .i64 o_aT.at_) := bx_aT.2 1 (by simp)
  have k3 : W1.cell? ⟨w.heap.size, 2, none⟩ = some (Value.int .i64 o_aT.from_) := bx_aT.2 2 (by simp)
  have k4 : W1.cell? ⟨w.heap.size, 3, none⟩ = some (Value.float .f64 o_aT.z0_) := bx_aT.2 3 (by simp)
  have k5 : W1.cell? ⟨w.heap.size, 4, none⟩ = some (Value.float .f64 o_aT.z1_) := bx_aT.2 4 (by simp)
  go_wp2_with fail
  clear k1 k2 k3 k4 k5 hW1
  have hl0_aList : 0 ≤ (1048576 : Int) := by omega
  refine (szPhasorS_c _ _ _ _ _ (by omega) (by omega) (by omega)).mono ?_
  rintro e w6 ⟨rfl, b7⟩
  obtain rfl := b7
  by_cases big_aList : (1048576 : Int) < (x_aList0.length : Int)
  · rw [if_pos big_aList]
    go_wp2
    go_ret
    exact ⟨rfl, hB0.trans (Below.mono (Below.refl _ _ : Below W1.heap.size W1 W1) hB0.size)⟩
  rw [if_neg big_aList]
  have k8 : W1.cell? ⟨w.heap.size, 0, none⟩ = some (Value.int .i64 o_aT.kind_) := bx_aT.2 0 (by simp)
  have k9 : W1.cell? ⟨w.heap.size, 1, none⟩ = some (Value.int .i64 o_aT.at_) := bx_aT.2 1 (by simp)
  have k10 : W1.cell? ⟨w.heap.size, 2, none⟩ = some (Value.int .i64 o_aT.from_) := bx_aT.2 2 (by simp)
  have k11 : W1.cell? ⟨w.heap.size, 3, none⟩ = some (Value.float .f64 o_aT.z0_) := bx_aT.2 3 (by simp)
  have k12 : W1.cell? ⟨w.heap.size, 4, none⟩ = some (Value.float .f64 o_aT.z1_) := bx_aT.2 4 (by simp)
  go_wp2_with fail
  clear k8 k9 k10 k11 k12
  have hx_aList0 : x_aList0.length ≤ 1048576 := by omega
  have lt26 := (bx_aT).1
  have k27 : W1.cell? ⟨w.heap.size, 0, none⟩ = some (Value.int .i64 o_aT.kind_) := bx_aT.2 0 (by simp)
  have k28 : W1.cell? ⟨w.heap.size, 1, none⟩ = some (Value.int .i64 o_aT.at_) := bx_aT.2 1 (by simp)
  have k29 : W1.cell? ⟨w.heap.size, 2, none⟩ = some (Value.int .i64 o_aT.from_) := bx_aT.2 2 (by simp)
  have k30 : W1.cell? ⟨w.heap.size, 3, none⟩ = some (Value.float .f64 o_aT.z0_) := bx_aT.2 3 (by simp)
  have k31 : W1.cell? ⟨w.heap.size, 4, none⟩ = some (Value.float .f64 o_aT.z1_) := bx_aT.2 4 (by simp)
  go_region_held3 (fun w' => Below W1.heap.size W1 w' ∧ W1.heap.size ≤ w'.heap.size ∧ w'.cell? ⟨w.heap.size, 0, none⟩ = some (Value.int .i64 o_aT.kind_) ∧ w'.cell? ⟨w.heap.size, 1, none⟩ = some (Value.int .i64 o_aT.at_) ∧ w'.cell? ⟨w.heap.size, 2, none⟩ = some (Value.int .i64 o_aT.from_) ∧ w'.cell? ⟨w.heap.size, 3, none⟩ = some (Value.float .f64 o_aT.z0_) ∧ w'.cell? ⟨w.heap.size, 4, none⟩ = some (Value.float .f64 o_aT.z1_))
    (first | exact ⟨(Below.refl _ _).drew, Nat.le_refl _, k27, k28, k29, k30, k31⟩ | exact keepBox5 (by omega) ‹_› ‹_›)
    (first
    | (go_at_call 25; refine (toPhasorS_c _ x_aList0 _ hx_aList0 (Flat.below (FlatB.flat (FlatB.below h_aList0 (Below.refl _ _ : Below W1.heap.size W1 W1)) (Below.refl _ _ : Below W1.heap.size W1 W1).size) (by first | exact (Below.refl _ _).drew | exact And.left ‹_›))).mono ?_; rintro e w13 ⟨v15, rfl, o16, b14⟩)
    | (go_at_call 26; refine (toTurn4_c o_aT _).mono ?_; rintro e w17 ⟨rfl, b18⟩)
    | (go_at_call 24; refine (spec_Turned _ x_aList0 o_aT _ (Flat.below (Flat.of_owns o16) b18) hx_aList0).mono ?_; rintro e w19 ⟨v21, q22, rfl, hq23, o24, b20⟩))
  clear k27 k28 k29 k30 k31
  have d32 : Below W1.heap.size W1 W1.drew := (Below.refl _ _).drew
  have t33 := Below.trans (Below.refl _ _ : Below W1.heap.size W1 W1) (Below.mono d32 (Below.refl _ _ : Below W1.heap.size W1 W1).size)
  replace bx_aT := Box.below bx_aT d32
  have t34 := Below.trans t33 (Below.mono b14 t33.size)
  replace bx_aT := Box.below bx_aT b14
  have t35 := Below.trans t34 (Below.mono b18 t34.size)
  replace bx_aT := Box.below bx_aT b18
  have q36 := (bx_aT).1
  obtain ⟨a37, m38, c39, rfl⟩ := Flat.form3 o24
  have t40 := Below.trans t35 (Below.mono b20 t35.size)
  replace bx_aT := Box.below bx_aT b20
  have s41 : Below w19.heap.size w19 w19 := Below.refl _ _
  have k42 : w19.cell? ⟨w.heap.size, 0, none⟩ = some (Value.int .i64 o_aT.kind_) := bx_aT.2 0 (by simp)
  have k43 : w19.cell? ⟨w.heap.size, 1, none⟩ = some (Value.int .i64 o_aT.at_) := bx_aT.2 1 (by simp)
  have k44 : w19.cell? ⟨w.heap.size, 2, none⟩ = some (Value.int .i64 o_aT.from_) := bx_aT.2 2 (by simp)
  have k45 : w19.cell? ⟨w.heap.size, 3, none⟩ = some (Value.float .f64 o_aT.z0_) := bx_aT.2 3 (by simp)
  have k46 : w19.cell? ⟨w.heap.size, 4, none⟩ = some (Value.float .f64 o_aT.z1_) := bx_aT.2 4 (by simp)
  go_wp2_with fail
  clear k42 k43 k44 k45 k46
  have q47 := (bx_aT).1
  refine (toPhasorS_c _ x_aList0 _ hx_aList0 (FlatB.flat (FlatB.below h_aList0 t40) t40.size)).mono ?_
  rintro e w48 ⟨v50, rfl, o51, b49⟩
  obtain ⟨a52, m53, c54, rfl⟩ := owns_form3 o51
  have t55 := Below.trans t40 (Below.mono b49 t40.size)
  have s56 := Below.trans s41 (Below.mono b49 s41.size)
  replace bx_aT := Box.below bx_aT b49
  have tb57 := Below.size t40
  have hb58 := Below.size s41
  have ne59 : ¬ (Value.slice a52 m53 c54).ownBlock = some (w.heap.size) := fun e => by have h1 := (World.ownsRow.lt o51 _ e).1; have h2 := q47; omega
  have k60 : w48.cell? ⟨w.heap.size, 0, none⟩ = some (Value.int .i64 o_aT.kind_) := bx_aT.2 0 (by simp)
  have k61 : w48.cell? ⟨w.heap.size, 1, none⟩ = some (Value.int .i64 o_aT.at_) := bx_aT.2 1 (by simp)
  have k62 : w48.cell? ⟨w.heap.size, 2, none⟩ = some (Value.int .i64 o_aT.from_) := bx_aT.2 2 (by simp)
  have k63 : w48.cell? ⟨w.heap.size, 3, none⟩ = some (Value.float .f64 o_aT.z0_) := bx_aT.2 3 (by simp)
  have k64 : w48.cell? ⟨w.heap.size, 4, none⟩ = some (Value.float .f64 o_aT.z1_) := bx_aT.2 4 (by simp)
  go_wp2_with fail
  clear k60 k61 k62 k63 k64
  refine (toTurn4_c o_aT _).mono ?_
  rintro e w65 ⟨rfl, b66⟩
  have t67 := Below.trans t55 (Below.mono b66 t55.size)
  have s68 := Below.trans s56 (Below.mono b66 s56.size)
  replace o51 := owns_below o51 b66
  replace bx_aT := Box.below bx_aT b66
  have k69 : w65.cell? ⟨w.heap.size, 0, none⟩ = some (Value.int .i64 o_aT.kind_) := bx_aT.2 0 (by simp)
  have k70 : w65.cell? ⟨w.heap.size, 1, none⟩ = some (Value.int .i64 o_aT.at_) := bx_aT.2 1 (by simp)
  have k71 : w65.cell? ⟨w.heap.size, 2, none⟩ = some (Value.int .i64 o_aT.from_) := bx_aT.2 2 (by simp)
  have k72 : w65.cell? ⟨w.heap.size, 3, none⟩ = some (Value.float .f64 o_aT.z0_) := bx_aT.2 3 (by simp)
  have k73 : w65.cell? ⟨w.heap.size, 4, none⟩ = some (Value.float .f64 o_aT.z1_) := bx_aT.2 4 (by simp)
  go_wp2_with fail
  clear k69 k70 k71 k72 k73
  have p74 := o51
  have q75 := (bx_aT).1
  refine (impl_Turned _ x_aList0 o_aT _ (Flat.of_owns o51) hx_aList0).mono ?_
  rintro e w76 ⟨v78, q79, rfl, hq80, o81, l82, b77⟩
  obtain ⟨a83, m84, c85, rfl⟩ := owns_form3 o81
  have t86 := Below.trans t67 (Below.mono b77 t67.size)
  have s87 := Below.trans s68 (Below.mono b77 s68.size)
  replace o51 := owns_below o51 b77
  replace bx_aT := Box.below bx_aT b77
  have tb88 := Below.size t67
  have hb89 := Below.size s68
  have ap90 := apart p74 (Nat.le_refl _) o81
  have ne91 : ¬ (Value.slice a83 m84 c85).ownBlock = some (w.heap.size) := fun e => by have h1 := (World.ownsRow.lt o81 _ e).1; have h2 := q75; omega
  have k92 : w76.cell? ⟨w.heap.size, 0, none⟩ = some (Value.int .i64 o_aT.kind_) := bx_aT.2 0 (by simp)
  have k93 : w76.cell? ⟨w.heap.size, 1, none⟩ = some (Value.int .i64 o_aT.at_) := bx_aT.2 1 (by simp)
  have k94 : w76.cell? ⟨w.heap.size, 2, none⟩ = some (Value.int .i64 o_aT.from_) := bx_aT.2 2 (by simp)
  have k95 : w76.cell? ⟨w.heap.size, 3, none⟩ = some (Value.float .f64 o_aT.z0_) := bx_aT.2 3 (by simp)
  have k96 : w76.cell? ⟨w.heap.size, 4, none⟩ = some (Value.float .f64 o_aT.z1_) := bx_aT.2 4 (by simp)
  go_wp2_with fail
  clear k92 k93 k94 k95 k96
  refine (eqPhasorS_c _ _ _ _ _ (Flat.of_owns o81) (FlatB.flat (FlatB.below o24 s87) s87.size) (hq80.trans hq23.symm)).mono ?_
  rintro e w97 ⟨rfl, b98⟩
  have t99 := Below.trans t86 (Below.mono b98 t86.size)
  have s100 := Below.trans s87 (Below.mono b98 s87.size)
  replace o51 := owns_below o51 b98
  replace o81 := owns_below o81 b98
  replace bx_aT := Box.below bx_aT b98
  have k101 : w97.cell? ⟨w.heap.size, 0, none⟩ = some (Value.int .i64 o_aT.kind_) := bx_aT.2 0 (by simp)
  have k102 : w97.cell? ⟨w.heap.size, 1, none⟩ = some (Value.int .i64 o_aT.at_) := bx_aT.2 1 (by simp)
  have k103 : w97.cell? ⟨w.heap.size, 2, none⟩ = some (Value.int .i64 o_aT.from_) := bx_aT.2 2 (by simp)
  have k104 : w97.cell? ⟨w.heap.size, 3, none⟩ = some (Value.float .f64 o_aT.z0_) := bx_aT.2 3 (by simp)
  have k105 : w97.cell? ⟨w.heap.size, 4, none⟩ = some (Value.float .f64 o_aT.z1_) := bx_aT.2 4 (by simp)
  go_wp2_with fail
  clear k101 k102 k103 k104 k105
  refine (toPhasorS_c _ x_aList0 _ hx_aList0 (FlatB.flat (FlatB.below h_aList0 t99) t99.size)).mono ?_
  rintro e w106 ⟨v108, rfl, o109, b107⟩
  obtain ⟨a110, m111, c112, rfl⟩ := owns_form3 o109
  have t113 := Below.trans t99 (Below.mono b107 t99.size)
  have s114 := Below.trans s100 (Below.mono b107 s100.size)
  replace o51 := owns_below o51 b107
  replace o81 := owns_below o81 b107
  replace bx_aT := Box.below bx_aT b107
  have k115 : w106.cell? ⟨w.heap.size, 0, none⟩ = some (Value.int .i64 o_aT.kind_) := bx_aT.2 0 (by simp)
  have k116 : w106.cell? ⟨w.heap.size, 1, none⟩ = some (Value.int .i64 o_aT.at_) := bx_aT.2 1 (by simp)
  have k117 : w106.cell? ⟨w.heap.size, 2, none⟩ = some (Value.int .i64 o_aT.from_) := bx_aT.2 2 (by simp)
  have k118 : w106.cell? ⟨w.heap.size, 3, none⟩ = some (Value.float .f64 o_aT.z0_) := bx_aT.2 3 (by simp)
  have k119 : w106.cell? ⟨w.heap.size, 4, none⟩ = some (Value.float .f64 o_aT.z1_) := bx_aT.2 4 (by simp)
  go_wp2_with fail
  clear k115 k116 k117 k118 k119
  refine (eqPhasorS_c _ _ _ _ _ (Flat.of_owns o51) (Flat.of_owns o109) rfl).mono ?_
  rintro e w120 ⟨rfl, b121⟩
  have t122 := Below.trans t113 (Below.mono b121 t113.size)
  have s123 := Below.trans s114 (Below.mono b121 s114.size)
  replace o51 := owns_below o51 b121
  replace o81 := owns_below o81 b121
  replace bx_aT := Box.below bx_aT b121
  have k124 : w120.cell? ⟨w.heap.size, 0, none⟩ = some (Value.int .i64 o_aT.kind_) := bx_aT.2 0 (by simp)
  have k125 : w120.cell? ⟨w.heap.size, 1, none⟩ = some (Value.int .i64 o_aT.at_) := bx_aT.2 1 (by simp)
  have k126 : w120.cell? ⟨w.heap.size, 2, none⟩ = some (Value.int .i64 o_aT.from_) := bx_aT.2 2 (by simp)
  have k127 : w120.cell? ⟨w.heap.size, 3, none⟩ = some (Value.float .f64 o_aT.z0_) := bx_aT.2 3 (by simp)
  have k128 : w120.cell? ⟨w.heap.size, 4, none⟩ = some (Value.float .f64 o_aT.z1_) := bx_aT.2 4 (by simp)
  go_wp2_with fail
  clear k124 k125 k126 k127 k128
  refine (markPhasorS_c _ _ _ _ _ _ _ (by omega) (by omega) (by omega) o51).mono ?_
  rintro e w129 ⟨rfl, o131, g130⟩
  have t132 := Below.trans t122 (below_of_mark2 o51 g130 tb57 (Below.size t122))
  have s133 := Below.trans s123 (below_of_mark2 o51 g130 hb58 (Below.size s123))
  replace o81 := World.ownsRow.kept o81 g130 ap90.2
  replace bx_aT := Box.grown bx_aT g130 ne59
  have k134 : w129.cell? ⟨w.heap.size, 0, none⟩ = some (Value.int .i64 o_aT.kind_) := bx_aT.2 0 (by simp)
  have k135 : w129.cell? ⟨w.heap.size, 1, none⟩ = some (Value.int .i64 o_aT.at_) := bx_aT.2 1 (by simp)
  have k136 : w129.cell? ⟨w.heap.size, 2, none⟩ = some (Value.int .i64 o_aT.from_) := bx_aT.2 2 (by simp)
  have k137 : w129.cell? ⟨w.heap.size, 3, none⟩ = some (Value.float .f64 o_aT.z0_) := bx_aT.2 3 (by simp)
  have k138 : w129.cell? ⟨w.heap.size, 4, none⟩ = some (Value.float .f64 o_aT.z1_) := bx_aT.2 4 (by simp)
  go_wp2_with fail
  clear k134 k135 k136 k137 k138
  refine (eqPhasorS_c _ _ _ _ _ (Flat.of_owns o81) (FlatB.flat (FlatB.below o24 s133) s133.size) (hq80.trans hq23.symm)).mono ?_
  rintro e w139 ⟨rfl, b140⟩
  have t141 := Below.trans t132 (Below.mono b140 t132.size)
  have s142 := Below.trans s133 (Below.mono b140 s133.size)
  replace o131 := owns_below o131 b140
  replace o81 := owns_below o81 b140
  replace bx_aT := Box.below bx_aT b140
  have k143 : w139.cell? ⟨w.heap.size, 0, none⟩ = some (Value.int .i64 o_aT.kind_) := bx_aT.2 0 (by simp)
  have k144 : w139.cell? ⟨w.heap.size, 1, none⟩ = some (Value.int .i64 o_aT.at_) := bx_aT.2 1 (by simp)
  have k145 : w139.cell? ⟨w.heap.size, 2, none⟩ = some (Value.int .i64 o_aT.from_) := bx_aT.2 2 (by simp)
  have k146 : w139.cell? ⟨w.heap.size, 3, none⟩ = some (Value.float .f64 o_aT.z0_) := bx_aT.2 3 (by simp)
  have k147 : w139.cell? ⟨w.heap.size, 4, none⟩ = some (Value.float .f64 o_aT.z1_) := bx_aT.2 4 (by simp)
  go_wp2_with fail
  clear k143 k144 k145 k146 k147
  refine (markPhasorS_c _ _ _ _ _ _ _ (by omega) (by omega) (by omega) o81).mono ?_
  rintro e w148 ⟨rfl, o150, g149⟩
  have t151 := Below.trans t141 (below_of_mark2 o81 g149 tb88 (Below.size t141))
  have s152 := Below.trans s142 (below_of_mark2 o81 g149 hb89 (Below.size s142))
  replace o131 := World.ownsRow.kept o131 g149 ap90.1
  replace bx_aT := Box.grown bx_aT g149 ne91
  have k153 : w148.cell? ⟨w.heap.size, 0, none⟩ = some (Value.int .i64 o_aT.kind_) := bx_aT.2 0 (by simp)
  have k154 : w148.cell? ⟨w.heap.size, 1, none⟩ = some (Value.int .i64 o_aT.at_) := bx_aT.2 1 (by simp)
  have k155 : w148.cell? ⟨w.heap.size, 2, none⟩ = some (Value.int .i64 o_aT.from_) := bx_aT.2 2 (by simp)
  have k156 : w148.cell? ⟨w.heap.size, 3, none⟩ = some (Value.float .f64 o_aT.z0_) := bx_aT.2 3 (by simp)
  have k157 : w148.cell? ⟨w.heap.size, 4, none⟩ = some (Value.float .f64 o_aT.z1_) := bx_aT.2 4 (by simp)
  go_wp2_with fail
  clear k153 k154 k155 k156 k157
  refine (heldPhasorS_c _ _ _ _ (by omega) (by omega) (by omega) (Flat.of_owns o150)).mono ?_
  rintro e w158 ⟨rfl, b159⟩
  have t160 := Below.trans t151 (Below.mono b159 t151.size)
  have s161 := Below.trans s152 (Below.mono b159 s152.size)
  replace o131 := owns_below o131 b159
  replace o150 := owns_below o150 b159
  replace bx_aT := Box.below bx_aT b159
  have k162 : w158.cell? ⟨w.heap.size, 0, none⟩ = some (Value.int .i64 o_aT.kind_) := bx_aT.2 0 (by simp)
  have k163 : w158.cell? ⟨w.heap.size, 1, none⟩ = some (Value.int .i64 o_aT.at_) := bx_aT.2 1 (by simp)
  have k164 : w158.cell? ⟨w.heap.size, 2, none⟩ = some (Value.int .i64 o_aT.from_) := bx_aT.2 2 (by simp)
  have k165 : w158.cell? ⟨w.heap.size, 3, none⟩ = some (Value.float .f64 o_aT.z0_) := bx_aT.2 3 (by simp)
  have k166 : w158.cell? ⟨w.heap.size, 4, none⟩ = some (Value.float .f64 o_aT.z1_) := bx_aT.2 4 (by simp)
  go_wp2_with fail
  clear k162 k163 k164 k165 k166
  have lt180 := (bx_aT).1
  have k181 : w158.cell? ⟨w.heap.size, 0, none⟩ = some (Value.int .i64 o_aT.kind_) := bx_aT.2 0 (by simp)
  have k182 : w158.cell? ⟨w.heap.size, 1, none⟩ = some (Value.int .i64 o_aT.at_) := bx_aT.2 1 (by simp)
  have k183 : w158.cell? ⟨w.heap.size, 2, none⟩ = some (Value.int .i64 o_aT.from_) := bx_aT.2 2 (by simp)
  have k184 : w158.cell? ⟨w.heap.size, 3, none⟩ = some (Value.float .f64 o_aT.z0_) := bx_aT.2 3 (by simp)
  have k185 : w158.cell? ⟨w.heap.size, 4, none⟩ = some (Value.float .f64 o_aT.z1_) := bx_aT.2 4 (by simp)
  go_region_held3 (fun w' => Below w158.heap.size w158 w' ∧ w158.heap.size ≤ w'.heap.size ∧ w'.cell? ⟨w.heap.size, 0, none⟩ = some (Value.int .i64 o_aT.kind_) ∧ w'.cell? ⟨w.heap.size, 1, none⟩ = some (Value.int .i64 o_aT.at_) ∧ w'.cell? ⟨w.heap.size, 2, none⟩ = some (Value.int .i64 o_aT.from_) ∧ w'.cell? ⟨w.heap.size, 3, none⟩ = some (Value.float .f64 o_aT.z0_) ∧ w'.cell? ⟨w.heap.size, 4, none⟩ = some (Value.float .f64 o_aT.z1_))
    (first | exact ⟨(Below.refl _ _).drew, Nat.le_refl _, k181, k182, k183, k184, k185⟩ | exact keepBox5 (by omega) ‹_› ‹_›)
    (first
    | (go_at_call 25; refine (toPhasorS_c _ x_aList0 _ hx_aList0 (Flat.below (FlatB.flat (FlatB.below h_aList0 t160) t160.size) (by first | exact (Below.refl _ _).drew | exact And.left ‹_›))).mono ?_; rintro e w167 ⟨v169, rfl, o170, b168⟩)
    | (go_at_call 26; refine (toTurn4_c o_aT _).mono ?_; rintro e w171 ⟨rfl, b172⟩)
    | (go_at_call 27; refine (impl_Turned _ x_aList0 o_aT _ (Flat.below (Flat.of_owns o170) b172) hx_aList0).mono ?_; rintro e w173 ⟨v175, q176, rfl, hq177, o178, l179, b174⟩))
  clear k181 k182 k183 k184 k185
  have d186 : Below w158.heap.size w158 w158.drew := (Below.refl _ _).drew
  have t187 := Below.trans t160 (Below.mono d186 t160.size)
  have s188 := Below.trans s161 (Below.mono d186 s161.size)
  replace o131 := owns_below o131 d186
  replace o150 := owns_below o150 d186
  replace bx_aT := Box.below bx_aT d186
  have t189 := Below.trans t187 (Below.mono b168 t187.size)
  have s190 := Below.trans s188 (Below.mono b168 s188.size)
  replace o131 := owns_below o131 b168
  replace o150 := owns_below o150 b168
  replace bx_aT := Box.below bx_aT b168
  have t191 := Below.trans t189 (Below.mono b172 t189.size)
  have s192 := Below.trans s190 (Below.mono b172 s190.size)
  replace o131 := owns_below o131 b172
  replace o150 := owns_below o150 b172
  replace bx_aT := Box.below bx_aT b172
  have p193 := o131
  have p194 := o150
  have q195 := (bx_aT).1
  obtain ⟨a196, m197, c198, rfl⟩ := owns_form3 o178
  have t199 := Below.trans t191 (Below.mono b174 t191.size)
  have s200 := Below.trans s192 (Below.mono b174 s192.size)
  replace o131 := owns_below o131 b174
  replace o150 := owns_below o150 b174
  replace bx_aT := Box.below bx_aT b174
  have tb201 := Below.size t191
  have hb202 := Below.size s192
  have ap203 := apart p193 (Nat.le_refl _) o178
  have ap204 := apart p194 (Nat.le_refl _) o178
  have ne205 : ¬ (Value.slice a196 m197 c198).ownBlock = some (w.heap.size) := fun e => by have h1 := (World.ownsRow.lt o178 _ e).1; have h2 := q195; omega
  have k206 : w173.cell? ⟨w.heap.size, 0, none⟩ = some (Value.int .i64 o_aT.kind_) := bx_aT.2 0 (by simp)
  have k207 : w173.cell? ⟨w.heap.size, 1, none⟩ = some (Value.int .i64 o_aT.at_) := bx_aT.2 1 (by simp)
  have k208 : w173.cell? ⟨w.heap.size, 2, none⟩ = some (Value.int .i64 o_aT.from_) := bx_aT.2 2 (by simp)
  have k209 : w173.cell? ⟨w.heap.size, 3, none⟩ = some (Value.float .f64 o_aT.z0_) := bx_aT.2 3 (by simp)
  have k210 : w173.cell? ⟨w.heap.size, 4, none⟩ = some (Value.float .f64 o_aT.z1_) := bx_aT.2 4 (by simp)
  go_wp2_with fail
  clear k206 k207 k208 k209 k210
  refine (eqPhasorS_c _ _ _ _ _ (Flat.of_owns o178) (FlatB.flat (FlatB.below o24 s200) s200.size) (hq177.trans hq23.symm)).mono ?_
  rintro e w211 ⟨rfl, b212⟩
  have t213 := Below.trans t199 (Below.mono b212 t199.size)
  have s214 := Below.trans s200 (Below.mono b212 s200.size)
  replace o131 := owns_below o131 b212
  replace o150 := owns_below o150 b212
  replace o178 := owns_below o178 b212
  replace bx_aT := Box.below bx_aT b212
  have k215 : w211.cell? ⟨w.heap.size, 0, none⟩ = some (Value.int .i64 o_aT.kind_) := bx_aT.2 0 (by simp)
  have k216 : w211.cell? ⟨w.heap.size, 1, none⟩ = some (Value.int .i64 o_aT.at_) := bx_aT.2 1 (by simp)
  have k217 : w211.cell? ⟨w.heap.size, 2, none⟩ = some (Value.int .i64 o_aT.from_) := bx_aT.2 2 (by simp)
  have k218 : w211.cell? ⟨w.heap.size, 3, none⟩ = some (Value.float .f64 o_aT.z0_) := bx_aT.2 3 (by simp)
  have k219 : w211.cell? ⟨w.heap.size, 4, none⟩ = some (Value.float .f64 o_aT.z1_) := bx_aT.2 4 (by simp)
  go_wp2_with fail
  clear k215 k216 k217 k218 k219
  refine (heldPhasorS_c _ _ _ _ (by omega) (by omega) (by omega) (Flat.of_owns o150)).mono ?_
  rintro e w220 ⟨rfl, b221⟩
  have t222 := Below.trans t213 (Below.mono b221 t213.size)
  have s223 := Below.trans s214 (Below.mono b221 s214.size)
  replace o131 := owns_below o131 b221
  replace o150 := owns_below o150 b221
  replace o178 := owns_below o178 b221
  replace bx_aT := Box.below bx_aT b221
  have k224 : w220.cell? ⟨w.heap.size, 0, none⟩ = some (Value.int .i64 o_aT.kind_) := bx_aT.2 0 (by simp)
  have k225 : w220.cell? ⟨w.heap.size, 1, none⟩ = some (Value.int .i64 o_aT.at_) := bx_aT.2 1 (by simp)
  have k226 : w220.cell? ⟨w.heap.size, 2, none⟩ = some (Value.int .i64 o_aT.from_) := bx_aT.2 2 (by simp)
  have k227 : w220.cell? ⟨w.heap.size, 3, none⟩ = some (Value.float .f64 o_aT.z0_) := bx_aT.2 3 (by simp)
  have k228 : w220.cell? ⟨w.heap.size, 4, none⟩ = some (Value.float .f64 o_aT.z1_) := bx_aT.2 4 (by simp)
  go_wp2_with fail
  clear k224 k225 k226 k227 k228
  try go_wp2
  go_ret
  exact ⟨rfl, hB0.trans (Below.mono t222 hB0.size)⟩

end Go.Proofs.Ytjcnoogloncbbaa
