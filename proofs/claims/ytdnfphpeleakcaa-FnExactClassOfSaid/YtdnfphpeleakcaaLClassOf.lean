/- FnExactClassOf, walked. -/
import Derived.Test.YtdnfphpeleakcaaI3c
import Derived.Test.YtdnfphpeleakcaaS3c
import Derived.Deep.RegionHeld3
import Derived.StillTailTactics
namespace Go.Proofs.Ytdnfphpeleakcaa
set_option maxRecDepth 100000
open Go.RowKit Go.Proofs Go.Own
set_option linter.unusedVariables false

set_option maxRecDepth 100000 in
set_option maxHeartbeats 8000000 in
theorem law_ClassOf (v_aY0 : Value) (x_aY0 : List Block) (v_aY1 : Value) (x_aY1 : List Int) (v_aY2 : Value) (x_aY2 : List Int) (v_aY3 : Value) (x_aY3 : List Gone) (s_aY4 : Int) (s_aPlace0 : Int) (w : World) (h_aY0 : Blocks w v_aY0 x_aY0) (h_aY1 : Ints w v_aY1 x_aY1) (h_aY2 : Ints w v_aY2 x_aY2) (h_aY3 : Gones w v_aY3 x_aY3) (hgi_aY3 : GonesIn x_aY3) (hi_s_aPlace0 : InI s_aPlace0) :
    Calls Try.prog 10 #[(.agg #[v_aY0, v_aY1, v_aY2, v_aY3, .int .i64 s_aY4]), (.int .i64 s_aPlace0)] w fun e w' => e = .returned (.bool true) ∧ Below w.heap.size w w' := by
  obtain ⟨ad_aY0, cap_aY0, rfl, hl_aY0, hm_aY0⟩ := Flat.form h_aY0
  obtain ⟨ad_aY1, cap_aY1, rfl, hl_aY1, hm_aY1⟩ := Flat.form h_aY1
  obtain ⟨ad_aY2, cap_aY2, rfl, hl_aY2, hm_aY2⟩ := Flat.form h_aY2
  obtain ⟨ad_aY3, cap_aY3, rfl, hl_aY3, hm_aY3⟩ := Flat.form h_aY3
  obtain ⟨W1, hW1⟩ : ∃ X, w.alloc (.cells #[Value.slice ad_aY0 x_aY0.length cap_aY0, Value.slice ad_aY1 x_aY1.length cap_aY1, Value.slice ad_aY2 x_aY2.length cap_aY2, Value.slice ad_aY3 x_aY3.length cap_aY3, Value.int .i64 s_aY4] 46) = X := ⟨_, rfl⟩
  have hbx1 : Below w.heap.size w W1 := by rw [← hW1]; exact (Below.refl _ _).alloc (Nat.le_refl _) _
  have bx_aY : Box W1 w.heap.size [Value.slice ad_aY0 x_aY0.length cap_aY0, Value.slice ad_aY1 x_aY1.length cap_aY1, Value.slice ad_aY2 x_aY2.length cap_aY2, Value.slice ad_aY3 x_aY3.length cap_aY3, Value.int .i64 s_aY4] := by rw [← hW1]; exact Box.alloc _ _ _
  have hB0 : Below w.heap.size w W1 := hbx1
  replace h_aY0 := Flat.below h_aY0 hB0
  replace h_aY1 := Flat.below h_aY1 hB0
  replace h_aY2 := Flat.below h_aY2 hB0
  replace h_aY3 := Flat.below h_aY3 hB0
  go_enter Try.func10, Try.ntmps10
  have k1 : W1.cell? ⟨w.heap.size, 0, none⟩ = some (Value.slice ad_aY0 x_aY0.length cap_aY0) := bx_aY.2 0 (by simp)
  have k2 : W1.cell? ⟨w.heap.size, 1, none⟩ = some (Value.slice ad_aY1 x_aY1.length cap_aY1) := bx_aY.2 1 (by simp)
  have k3 : W1.cell? ⟨w.heap.size, 2, none⟩ = some (Value.slice ad_aY2 x_aY2.length cap_aY2) := bx_aY.2 2 (by simp)
  have k4 : W1.cell? ⟨w.heap.size, 3, none⟩ = some (Value.slice ad_aY3 x_aY3.length cap_aY3) := bx_aY.2 3 (by simp)
  have k5 : W1.cell? ⟨w.heap.size, 4, none⟩ = some (Value.int .i64 s_aY4) := bx_aY.2 4 (by simp)
  go_wp2_with fail
  clear k1 k2 k3 k4 k5 hW1
  have hl0_aY : 0 ≤ (1048576 : Int) := by omega
  refine (szYard_c _ _ _ _ _ _ _ _ _ _ _ _ _ _ _ (by omega) (by omega) (by omega) (by omega) (by omega) (by omega)).mono ?_
  rintro e w6 ⟨rfl, b7⟩
  by_cases big_aY : (1048576 : Int) < (x_aY0.length : Int) + (x_aY1.length : Int) + (x_aY2.length : Int) + (x_aY3.length : Int)
  · rw [if_pos big_aY]
    go_wp2
    go_ret
    exact ⟨rfl, hB0.trans (Below.mono (Below.trans (Below.refl _ _ : Below W1.heap.size W1 W1) (Below.mono b7 (Below.refl _ _ : Below W1.heap.size W1 W1).size)) hB0.size)⟩
  rw [if_neg big_aY]
  have t8 := Below.trans (Below.refl _ _ : Below W1.heap.size W1 W1) (Below.mono b7 (Below.refl _ _ : Below W1.heap.size W1 W1).size)
  replace bx_aY := Box.below bx_aY b7
  have k9 : w6.cell? ⟨w.heap.size, 0, none⟩ = some (Value.slice ad_aY0 x_aY0.length cap_aY0) := bx_aY.2 0 (by simp)
  have k10 : w6.cell? ⟨w.heap.size, 1, none⟩ = some (Value.slice ad_aY1 x_aY1.length cap_aY1) := bx_aY.2 1 (by simp)
  have k11 : w6.cell? ⟨w.heap.size, 2, none⟩ = some (Value.slice ad_aY2 x_aY2.length cap_aY2) := bx_aY.2 2 (by simp)
  have k12 : w6.cell? ⟨w.heap.size, 3, none⟩ = some (Value.slice ad_aY3 x_aY3.length cap_aY3) := bx_aY.2 3 (by simp)
  have k13 : w6.cell? ⟨w.heap.size, 4, none⟩ = some (Value.int .i64 s_aY4) := bx_aY.2 4 (by simp)
  go_wp2_with fail
  clear k9 k10 k11 k12 k13
  have hx_aY0 : x_aY0.length ≤ 1048576 := by omega
  have hx_aY1 : x_aY1.length ≤ 1048576 := by omega
  have hx_aY2 : x_aY2.length ≤ 1048576 := by omega
  have hx_aY3 : x_aY3.length ≤ 1048576 := by omega
  refine (toYard_c _ x_aY0 _ x_aY1 _ x_aY2 _ x_aY3 s_aY4 _ hx_aY0 hx_aY1 hx_aY2 hx_aY3 (FlatB.flat (FlatB.below h_aY0 t8) t8.size) (FlatB.flat (FlatB.below h_aY1 t8) t8.size) (FlatB.flat (FlatB.below h_aY2 t8) t8.size) (FlatB.flat (FlatB.below h_aY3 t8) t8.size)).mono ?_
  rintro e w14 ⟨v16, v17, v18, v19, rfl, o20, o21, o22, o23, ap24, ap25, ap26, ap27, ap28, ap29, b15⟩
  obtain ⟨a30, m31, c32, rfl⟩ := owns_form3 o20
  obtain ⟨a33, m34, c35, rfl⟩ := owns_form3 o21
  obtain ⟨a36, m37, c38, rfl⟩ := owns_form3 o22
  obtain ⟨a39, m40, c41, rfl⟩ := owns_form3 o23
  have t42 := Below.trans t8 (Below.mono b15 t8.size)
  replace bx_aY := Box.below bx_aY b15
  have k43 : w14.cell? ⟨w.heap.size, 0, none⟩ = some (Value.slice ad_aY0 x_aY0.length cap_aY0) := bx_aY.2 0 (by simp)
  have k44 : w14.cell? ⟨w.heap.size, 1, none⟩ = some (Value.slice ad_aY1 x_aY1.length cap_aY1) := bx_aY.2 1 (by simp)
  have k45 : w14.cell? ⟨w.heap.size, 2, none⟩ = some (Value.slice ad_aY2 x_aY2.length cap_aY2) := bx_aY.2 2 (by simp)
  have k46 : w14.cell? ⟨w.heap.size, 3, none⟩ = some (Value.slice ad_aY3 x_aY3.length cap_aY3) := bx_aY.2 3 (by simp)
  have k47 : w14.cell? ⟨w.heap.size, 4, none⟩ = some (Value.int .i64 s_aY4) := bx_aY.2 4 (by simp)
  go_wp2_with fail
  clear k43 k44 k45 k46 k47
  have q48 := (bx_aY).1
  refine (spec_ClassOf _ x_aY0 _ x_aY1 _ x_aY2 _ x_aY3 s_aY4 s_aPlace0 _ (Flat.of_owns o20) hx_aY0 (Flat.of_owns o21) hx_aY1 (Flat.of_owns o22) hx_aY2 (Flat.of_owns o23) hx_aY3).mono ?_
  rintro e w49 ⟨rfl, b50⟩
  have t51 := Below.trans t42 (Below.mono b50 t42.size)
  replace bx_aY := Box.below bx_aY b50
  have s52 : Below w49.heap.size w49 w49 := Below.refl _ _
  have k53 : w49.cell? ⟨w.heap.size, 0, none⟩ = some (Value.slice ad_aY0 x_aY0.length cap_aY0) := bx_aY.2 0 (by simp)
  have k54 : w49.cell? ⟨w.heap.size, 1, none⟩ = some (Value.slice ad_aY1 x_aY1.length cap_aY1) := bx_aY.2 1 (by simp)
  have k55 : w49.cell? ⟨w.heap.size, 2, none⟩ = some (Value.slice ad_aY2 x_aY2.length cap_aY2) := bx_aY.2 2 (by simp)
  have k56 : w49.cell? ⟨w.heap.size, 3, none⟩ = some (Value.slice ad_aY3 x_aY3.length cap_aY3) := bx_aY.2 3 (by simp)
  have k57 : w49.cell? ⟨w.heap.size, 4, none⟩ = some (Value.int .i64 s_aY4) := bx_aY.2 4 (by simp)
  go_wp2_with fail
  clear k53 k54 k55 k56 k57
  have q58 := (bx_aY).1
  refine (toYard_c _ x_aY0 _ x_aY1 _ x_aY2 _ x_aY3 s_aY4 _ hx_aY0 hx_aY1 hx_aY2 hx_aY3 (FlatB.flat (FlatB.below h_aY0 t51) t51.size) (FlatB.flat (FlatB.below h_aY1 t51) t51.size) (FlatB.flat (FlatB.below h_aY2 t51) t51.size) (FlatB.flat (FlatB.below h_aY3 t51) t51.size)).mono ?_
  rintro e w59 ⟨v61, v62, v63, v64, rfl, o65, o66, o67, o68, ap69, ap70, ap71, ap72, ap73, ap74, b60⟩
  obtain ⟨a75, m76, c77, rfl⟩ := owns_form3 o65
  obtain ⟨a78, m79, c80, rfl⟩ := owns_form3 o66
  obtain ⟨a81, m82, c83, rfl⟩ := owns_form3 o67
  obtain ⟨a84, m85, c86, rfl⟩ := owns_form3 o68
  have t87 := Below.trans t51 (Below.mono b60 t51.size)
  have s88 := Below.trans s52 (Below.mono b60 s52.size)
  replace bx_aY := Box.below bx_aY b60
  have tb89 := Below.size t51
  have hb90 := Below.size s52
  have ne91 : ¬ (Value.slice a75 m76 c77).ownBlock = some (w.heap.size) := fun e => by have h1 := (World.ownsRow.lt o65 _ e).1; have h2 := q58; omega
  have ne92 : ¬ (Value.slice a78 m79 c80).ownBlock = some (w.heap.size) := fun e => by have h1 := (World.ownsRow.lt o66 _ e).1; have h2 := q58; omega
  have ne93 : ¬ (Value.slice a81 m82 c83).ownBlock = some (w.heap.size) := fun e => by have h1 := (World.ownsRow.lt o67 _ e).1; have h2 := q58; omega
  have ne94 : ¬ (Value.slice a84 m85 c86).ownBlock = some (w.heap.size) := fun e => by have h1 := (World.ownsRow.lt o68 _ e).1; have h2 := q58; omega
  have k95 : w59.cell? ⟨w.heap.size, 0, none⟩ = some (Value.slice ad_aY0 x_aY0.length cap_aY0) := bx_aY.2 0 (by simp)
  have k96 : w59.cell? ⟨w.heap.size, 1, none⟩ = some (Value.slice ad_aY1 x_aY1.length cap_aY1) := bx_aY.2 1 (by simp)
  have k97 : w59.cell? ⟨w.heap.size, 2, none⟩ = some (Value.slice ad_aY2 x_aY2.length cap_aY2) := bx_aY.2 2 (by simp)
  have k98 : w59.cell? ⟨w.heap.size, 3, none⟩ = some (Value.slice ad_aY3 x_aY3.length cap_aY3) := bx_aY.2 3 (by simp)
  have k99 : w59.cell? ⟨w.heap.size, 4, none⟩ = some (Value.int .i64 s_aY4) := bx_aY.2 4 (by simp)
  obtain ⟨X100, hX101⟩ : ∃ X, w59.alloc (.cells #[(Value.slice a75 m76 c77), (Value.slice a78 m79 c80), (Value.slice a81 m82 c83), (Value.slice a84 m85 c86), Value.int .i64 s_aY4] 30) = X := ⟨_, rfl⟩
  have bX102 : Below w59.heap.size w59 X100 := by rw [← hX101]; exact (Below.refl _ _).alloc (Nat.le_refl _) _
  have ne103 : ¬ (Value.slice a75 m76 c77).ownBlock = some (w59.heap.size) := fun e => by have h1 := (World.ownsRow.lt o65 _ e).2; omega
  have ne104 : ¬ (Value.slice a78 m79 c80).ownBlock = some (w59.heap.size) := fun e => by have h1 := (World.ownsRow.lt o66 _ e).2; omega
  have ne105 : ¬ (Value.slice a81 m82 c83).ownBlock = some (w59.heap.size) := fun e => by have h1 := (World.ownsRow.lt o67 _ e).2; omega
  have ne106 : ¬ (Value.slice a84 m85 c86).ownBlock = some (w59.heap.size) := fun e => by have h1 := (World.ownsRow.lt o68 _ e).2; omega
  have t107 := Below.trans t87 (Below.mono bX102 t87.size)
  have s108 := Below.trans s88 (Below.mono bX102 s88.size)
  replace o65 := owns_below o65 bX102
  replace o66 := owns_below o66 bX102
  replace o67 := owns_below o67 bX102
  replace o68 := owns_below o68 bX102
  replace bx_aY := Box.below bx_aY bX102
  have bx109 : Box X100 (w59.heap.size) [(Value.slice a75 m76 c77), (Value.slice a78 m79 c80), (Value.slice a81 m82 c83), (Value.slice a84 m85 c86), Value.int .i64 s_aY4] := by rw [← hX101]; exact Box.alloc _ _ _
  have k110 : X100.cell? ⟨w.heap.size, 0, none⟩ = some (Value.slice ad_aY0 x_aY0.length cap_aY0) := bx_aY.2 0 (by simp)
  have k111 : X100.cell? ⟨w.heap.size, 1, none⟩ = some (Value.slice ad_aY1 x_aY1.length cap_aY1) := bx_aY.2 1 (by simp)
  have k112 : X100.cell? ⟨w.heap.size, 2, none⟩ = some (Value.slice ad_aY2 x_aY2.length cap_aY2) := bx_aY.2 2 (by simp)
  have k113 : X100.cell? ⟨w.heap.size, 3, none⟩ = some (Value.slice ad_aY3 x_aY3.length cap_aY3) := bx_aY.2 3 (by simp)
  have k114 : X100.cell? ⟨w.heap.size, 4, none⟩ = some (Value.int .i64 s_aY4) := bx_aY.2 4 (by simp)
  have k115 : X100.cell? ⟨w59.heap.size, 0, none⟩ = some ((Value.slice a75 m76 c77)) := bx109.2 0 (by simp)
  have k116 : X100.cell? ⟨w59.heap.size, 1, none⟩ = some ((Value.slice a78 m79 c80)) := bx109.2 1 (by simp)
  have k117 : X100.cell? ⟨w59.heap.size, 2, none⟩ = some ((Value.slice a81 m82 c83)) := bx109.2 2 (by simp)
  have k118 : X100.cell? ⟨w59.heap.size, 3, none⟩ = some ((Value.slice a84 m85 c86)) := bx109.2 3 (by simp)
  have k119 : X100.cell? ⟨w59.heap.size, 4, none⟩ = some (Value.int .i64 s_aY4) := bx109.2 4 (by simp)
  go_wp2_with fail
  clear k95 k96 k97 k98 k99 k110 k111 k112 k113 k114 k115 k116 k117 k118 k119 hX101
  have p120 := o65
  have p121 := o66
  have p122 := o67
  have p123 := o68
  have q124 := (bx_aY).1
  have q125 := (bx109).1
  refine (impl_ClassOf _ x_aY0 _ x_aY1 _ x_aY2 _ x_aY3 s_aY4 s_aPlace0 _ (Flat.of_owns o65) hx_aY0 (Flat.of_owns o66) hx_aY1 (Flat.of_owns o67) hx_aY2 (Flat.of_owns o68) hx_aY3).mono ?_
  rintro e w126 ⟨rfl, b127⟩
  have t128 := Below.trans t107 (Below.mono b127 t107.size)
  have s129 := Below.trans s108 (Below.mono b127 s108.size)
  replace o65 := owns_below o65 b127
  replace o66 := owns_below o66 b127
  replace o67 := owns_below o67 b127
  replace o68 := owns_below o68 b127
  replace bx_aY := Box.below bx_aY b127
  replace bx109 := Box.below bx109 b127
  have tb130 := Below.size t107
  have hb131 := Below.size s108
  have k132 : w126.cell? ⟨w.heap.size, 0, none⟩ = some (Value.slice ad_aY0 x_aY0.length cap_aY0) := bx_aY.2 0 (by simp)
  have k133 : w126.cell? ⟨w.heap.size, 1, none⟩ = some (Value.slice ad_aY1 x_aY1.length cap_aY1) := bx_aY.2 1 (by simp)
  have k134 : w126.cell? ⟨w.heap.size, 2, none⟩ = some (Value.slice ad_aY2 x_aY2.length cap_aY2) := bx_aY.2 2 (by simp)
  have k135 : w126.cell? ⟨w.heap.size, 3, none⟩ = some (Value.slice ad_aY3 x_aY3.length cap_aY3) := bx_aY.2 3 (by simp)
  have k136 : w126.cell? ⟨w.heap.size, 4, none⟩ = some (Value.int .i64 s_aY4) := bx_aY.2 4 (by simp)
  have k137 : w126.cell? ⟨w59.heap.size, 0, none⟩ = some ((Value.slice a75 m76 c77)) := bx109.2 0 (by simp)
  have k138 : w126.cell? ⟨w59.heap.size, 1, none⟩ = some ((Value.slice a78 m79 c80)) := bx109.2 1 (by simp)
  have k139 : w126.cell? ⟨w59.heap.size, 2, none⟩ = some ((Value.slice a81 m82 c83)) := bx109.2 2 (by simp)
  have k140 : w126.cell? ⟨w59.heap.size, 3, none⟩ = some ((Value.slice a84 m85 c86)) := bx109.2 3 (by simp)
  have k141 : w126.cell? ⟨w59.heap.size, 4, none⟩ = some (Value.int .i64 s_aY4) := bx109.2 4 (by simp)
  go_wp2_with fail
  clear k132 k133 k134 k135 k136 k137 k138 k139 k140 k141
  have lt164 := (bx_aY).1
  have lt165 := (bx109).1
  have k166 : w126.cell? ⟨w.heap.size, 0, none⟩ = some (Value.slice ad_aY0 x_aY0.length cap_aY0) := bx_aY.2 0 (by simp)
  have k167 : w126.cell? ⟨w.heap.size, 1, none⟩ = some (Value.slice ad_aY1 x_aY1.length cap_aY1) := bx_aY.2 1 (by simp)
  have k168 : w126.cell? ⟨w.heap.size, 2, none⟩ = some (Value.slice ad_aY2 x_aY2.length cap_aY2) := bx_aY.2 2 (by simp)
  have k169 : w126.cell? ⟨w.heap.size, 3, none⟩ = some (Value.slice ad_aY3 x_aY3.length cap_aY3) := bx_aY.2 3 (by simp)
  have k170 : w126.cell? ⟨w.heap.size, 4, none⟩ = some (Value.int .i64 s_aY4) := bx_aY.2 4 (by simp)
  have k171 : w126.cell? ⟨w59.heap.size, 0, none⟩ = some ((Value.slice a75 m76 c77)) := bx109.2 0 (by simp)
  have k172 : w126.cell? ⟨w59.heap.size, 1, none⟩ = some ((Value.slice a78 m79 c80)) := bx109.2 1 (by simp)
  have k173 : w126.cell? ⟨w59.heap.size, 2, none⟩ = some ((Value.slice a81 m82 c83)) := bx109.2 2 (by simp)
  have k174 : w126.cell? ⟨w59.heap.size, 3, none⟩ = some ((Value.slice a84 m85 c86)) := bx109.2 3 (by simp)
  have k175 : w126.cell? ⟨w59.heap.size, 4, none⟩ = some (Value.int .i64 s_aY4) := bx109.2 4 (by simp)
  go_region_held3 (fun w' => Below w126.heap.size w126 w' ∧ w126.heap.size ≤ w'.heap.size ∧ w'.cell? ⟨w.heap.size, 0, none⟩ = some (Value.slice ad_aY0 x_aY0.length cap_aY0) ∧ w'.cell? ⟨w.heap.size, 1, none⟩ = some (Value.slice ad_aY1 x_aY1.length cap_aY1) ∧ w'.cell? ⟨w.heap.size, 2, none⟩ = some (Value.slice ad_aY2 x_aY2.length cap_aY2) ∧ w'.cell? ⟨w.heap.size, 3, none⟩ = some (Value.slice ad_aY3 x_aY3.length cap_aY3) ∧ w'.cell? ⟨w.heap.size, 4, none⟩ = some (Value.int .i64 s_aY4) ∧ w'.cell? ⟨w59.heap.size, 0, none⟩ = some ((Value.slice a75 m76 c77)) ∧ w'.cell? ⟨w59.heap.size, 1, none⟩ = some ((Value.slice a78 m79 c80)) ∧ w'.cell? ⟨w59.heap.size, 2, none⟩ = some ((Value.slice a81 m82 c83)) ∧ w'.cell? ⟨w59.heap.size, 3, none⟩ = some ((Value.slice a84 m85 c86)) ∧ w'.cell? ⟨w59.heap.size, 4, none⟩ = some (Value.int .i64 s_aY4))
    (first | exact ⟨(Below.refl _ _).drew, Nat.le_refl _, k166, k167, k168, k169, k170, k171, k172, k173, k174, k175⟩ | exact keepBox10 (by omega) ‹_› ‹_›)
    (first
    | (go_at_call 21; refine (toYard_c _ x_aY0 _ x_aY1 _ x_aY2 _ x_aY3 s_aY4 _ hx_aY0 hx_aY1 hx_aY2 hx_aY3 (Flat.below (FlatB.flat (FlatB.below h_aY0 t128) t128.size) (by first | exact (Below.refl _ _).drew | exact And.left ‹_›)) (Flat.below (FlatB.flat (FlatB.below h_aY1 t128) t128.size) (by first | exact (Below.refl _ _).drew | exact And.left ‹_›)) (Flat.below (FlatB.flat (FlatB.below h_aY2 t128) t128.size) (by first | exact (Below.refl _ _).drew | exact And.left ‹_›)) (Flat.below (FlatB.flat (FlatB.below h_aY3 t128) t128.size) (by first | exact (Below.refl _ _).drew | exact And.left ‹_›))).mono ?_; rintro e w142 ⟨v144, v145, v146, v147, rfl, o148, o149, o150, o151, ap152, ap153, ap154, ap155, ap156, ap157, b143⟩)
    | (go_at_call 23; refine (eqYard_c _ _ _ _ _ _ _ _ _ _ _ _ _ _ (Flat.below (Flat.below (Flat.of_owns o65) ((Below.refl _ _).drew : Below w126.heap.size w126 w126.drew)) b143) (Flat.below (Flat.below (Flat.of_owns o66) ((Below.refl _ _).drew : Below w126.heap.size w126 w126.drew)) b143) (Flat.below (Flat.below (Flat.of_owns o67) ((Below.refl _ _).drew : Below w126.heap.size w126 w126.drew)) b143) (Flat.below (Flat.below (Flat.of_owns o68) ((Below.refl _ _).drew : Below w126.heap.size w126 w126.drew)) b143) (Flat.of_owns o148) (Flat.of_owns o149) (Flat.of_owns o150) (Flat.of_owns o151)).mono ?_; rintro e w158 ⟨rfl, b159⟩))
  clear k166 k167 k168 k169 k170 k171 k172 k173 k174 k175
  have d176 : Below w126.heap.size w126 w126.drew := (Below.refl _ _).drew
  have t177 := Below.trans t128 (Below.mono d176 t128.size)
  have s178 := Below.trans s129 (Below.mono d176 s129.size)
  replace o65 := owns_below o65 d176
  replace o66 := owns_below o66 d176
  replace o67 := owns_below o67 d176
  replace o68 := owns_below o68 d176
  replace bx_aY := Box.below bx_aY d176
  replace bx109 := Box.below bx109 d176
  have t179 := Below.trans t177 (Below.mono b143 t177.size)
  have s180 := Below.trans s178 (Below.mono b143 s178.size)
  replace o65 := owns_below o65 b143
  replace o66 := owns_below o66 b143
  replace o67 := owns_below o67 b143
  replace o68 := owns_below o68 b143
  replace bx_aY := Box.below bx_aY b143
  replace bx109 := Box.below bx109 b143
  have t181 := Below.trans t179 (Below.mono b159 t179.size)
  have s182 := Below.trans s180 (Below.mono b159 s180.size)
  replace o65 := owns_below o65 b159
  replace o66 := owns_below o66 b159
  replace o67 := owns_below o67 b159
  replace o68 := owns_below o68 b159
  replace bx_aY := Box.below bx_aY b159
  replace bx109 := Box.below bx109 b159
  have k183 : w158.cell? ⟨w.heap.size, 0, none⟩ = some (Value.slice ad_aY0 x_aY0.length cap_aY0) := bx_aY.2 0 (by simp)
  have k184 : w158.cell? ⟨w.heap.size, 1, none⟩ = some (Value.slice ad_aY1 x_aY1.length cap_aY1) := bx_aY.2 1 (by simp)
  have k185 : w158.cell? ⟨w.heap.size, 2, none⟩ = some (Value.slice ad_aY2 x_aY2.length cap_aY2) := bx_aY.2 2 (by simp)
  have k186 : w158.cell? ⟨w.heap.size, 3, none⟩ = some (Value.slice ad_aY3 x_aY3.length cap_aY3) := bx_aY.2 3 (by simp)
  have k187 : w158.cell? ⟨w.heap.size, 4, none⟩ = some (Value.int .i64 s_aY4) := bx_aY.2 4 (by simp)
  have k188 : w158.cell? ⟨w59.heap.size, 0, none⟩ = some ((Value.slice a75 m76 c77)) := bx109.2 0 (by simp)
  have k189 : w158.cell? ⟨w59.heap.size, 1, none⟩ = some ((Value.slice a78 m79 c80)) := bx109.2 1 (by simp)
  have k190 : w158.cell? ⟨w59.heap.size, 2, none⟩ = some ((Value.slice a81 m82 c83)) := bx109.2 2 (by simp)
  have k191 : w158.cell? ⟨w59.heap.size, 3, none⟩ = some ((Value.slice a84 m85 c86)) := bx109.2 3 (by simp)
  have k192 : w158.cell? ⟨w59.heap.size, 4, none⟩ = some (Value.int .i64 s_aY4) := bx109.2 4 (by simp)
  go_wp2_with fail
  clear k183 k184 k185 k186 k187 k188 k189 k190 k191 k192
  try go_wp2
  go_ret
  exact ⟨rfl, hB0.trans (Below.mono t181 hB0.size)⟩

end Go.Proofs.Ytdnfphpeleakcaa
