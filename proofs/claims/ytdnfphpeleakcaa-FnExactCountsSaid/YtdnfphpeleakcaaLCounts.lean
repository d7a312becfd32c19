/- FnExactCounts, walked. -/
import Derived.Test.YtdnfphpeleakcaaI3Counts
import Derived.Test.YtdnfphpeleakcaaS3Counts
import Derived.Test.YtdnfphpeleakcaaKeep
import Derived.Deep.RegionHeld3
import Derived.StillTailTactics
namespace Go.Proofs.Ytdnfphpeleakcaa
set_option maxRecDepth 100000
open Go.RowKit Go.Proofs Go.Own
set_option linter.unusedVariables false

set_option maxRecDepth 100000 in
set_option maxHeartbeats 8000000 in
theorem law_Counts (v_aY0 : Value) (x_aY0 : List Block) (v_aY1 : Value) (x_aY1 : List Int) (v_aY2 : Value) (x_aY2 : List Int) (v_aY3 : Value) (x_aY3 : List Gone) (s_aY4 : Int) (w : World) (h_aY0 : Blocks w v_aY0 x_aY0) (h_aY1 : Ints w v_aY1 x_aY1) (h_aY2 : Ints w v_aY2 x_aY2) (h_aY3 : Gones w v_aY3 x_aY3) (hgi_aY3 : GonesIn x_aY3) :
    Calls Try.prog 11 #[(.agg #[v_aY0, v_aY1, v_aY2, v_aY3, .int .i64 s_aY4])] w fun e w' => e = .returned (.bool true) ∧ Below w.heap.size w w' := by
  obtain ⟨ad_aY0, cap_aY0, rfl, hl_aY0, hm_aY0⟩ := Flat.form h_aY0
  obtain ⟨ad_aY1, cap_aY1, rfl, hl_aY1, hm_aY1⟩ := Flat.form h_aY1
  obtain ⟨ad_aY2, cap_aY2, rfl, hl_aY2, hm_aY2⟩ := Flat.form h_aY2
  obtain ⟨ad_aY3, cap_aY3, rfl, hl_aY3, hm_aY3⟩ := Flat.form h_aY3
  obtain ⟨W1, hW1⟩ : ∃ X, w.alloc (.cells #[Value.slice ad_aY0 x_aY0.length cap_aY0, Value.slice ad_aY1 x_aY1.length cap_aY1, Value.slice ad_aY2 x_aY2.length cap_aY2, Value.slice ad_aY3 x_aY3.length cap_aY3, Value.int .i64 s_aY4] 46) = X := ⟨_, rfl⟩
  have hbx1 : Below w.heap.size w W1 := by rw [← hW1]; exact (Below.refl _ _).alloc (Nat.le_refl _) _
  have bx_aY : Box W1 w.heap.size [Value.slice ad_aY0 x_aY0.length cap_aY0, Value.slice ad_aY1 x_aY1.length cap_aY1, Value.slice ad_aY2 x_aY2.length cap_aY2, Value.slice ad_aY3 x_aY3.length cap_aY3, Value.int .i64 s_aY4] := by rw [← hW1]; exact Box.alloc _ _ _
  have hB0 : Below w.heap.size w W1 := hbx1
  replace h_aY0 := Flat.below h_aY0 hB0
  replace h_aY1 := Flat.below h_aY1 hB0
  replace h_aY2 := Flat.below h_aY2 hB0
  replace h_aY3 := Flat.below h_aY3 hB0
  go_enter Try.func11, Try.ntmps11
  have k1 : W1.cell? ⟨w.heap.size, 0, none⟩ = some (Value.slice ad_aY0 x_aY0.length cap_aY0) := bx_aY.2 0 (by simp)
  have k2 : W1.cell? ⟨w.heap.size, 1, none⟩ = some (Value.slice ad_aY1 x_aY1.length cap_aY1) := bx_aY.2 1 (by simp)
  have k3 : W1.cell? ⟨w.heap.size, 2, none⟩ = some (Value.slice ad_aY2 x_aY2.length cap_aY2) := bx_aY.2 2 (by simp)
  have k4 : W1.cell? ⟨w.heap.size, 3, none⟩ = some (Value.slice ad_aY3 x_aY3.length cap_aY3) := bx_aY.2 3 (by simp)
  have k5 : W1.cell? ⟨w.heap.size, 4, none⟩ = some (Value.int .i64 s_aY4) := bx_aY.2 4 (by simp)
  go_wp2_with fail
  clear k1 k2 k3 k4 k5 hW1
  have hl0_aY : 0 ≤ (1048576 : Int) := by omega
  refine (szYard_c _ _ _ _ _ _ _ _ _ _ _ _ _ _ _ (by omega) (by omega) (by omega) (by omega) (by omega) (by omega)).mono ?_
  rintro e w6 ⟨rfl, b7⟩
  by_cases big_aY : (1048576 : Int) < (x_aY0.length : Int) + (x_aY1.length : Int) + (x_aY2.length : Int) + (x_aY3.length : Int)
  · rw [if_pos big_aY]
    go_wp2
    go_ret
    exact ⟨rfl, hB0.trans (Below.mono (Below.trans (Below.refl _ _ : Below W1.heap.size W1 W1) (Below.mono b7 (Below.refl _ _ : Below W1.heap.size W1 W1).size)) hB0.size)⟩
  rw [if_neg big_aY]
  have t8 := Below.trans (Below.refl _ _ : Below W1.heap.size W1 W1) (Below.mono b7 (Below.refl _ _ : Below W1.heap.size W1 W1).size)
  replace bx_aY := Box.below bx_aY b7
  have k9 : w6.cell? ⟨w.heap.size, 0, none⟩ = some (Value.slice ad_aY0 x_aY0.length cap_aY0) := bx_aY.2 0 (by simp)
  have k10 : w6.cell? ⟨w.heap.size, 1, none⟩ = some (Value.slice ad_aY1 x_aY1.length cap_aY1) := bx_aY.2 1 (by simp)
  have k11 : w6.cell? ⟨w.heap.size, 2, none⟩ = some (Value.slice ad_aY2 x_aY2.length cap_aY2) := bx_aY.2 2 (by simp)
  have k12 : w6.cell? ⟨w.heap.size, 3, none⟩ = some (Value.slice ad_aY3 x_aY3.length cap_aY3) := bx_aY.2 3 (by simp)
  have k13 : w6.cell? ⟨w.heap.size, 4, none⟩ = some (Value.int .i64 s_aY4) := bx_aY.2 4 (by simp)
  go_wp2_with fail
  clear k9 k10 k11 k12 k13
  have hx_aY0 : x_aY0.length ≤ 1048576 := by omega
  have hx_aY1 : x_aY1.length ≤ 1048576 := by omega
  have hx_aY2 : x_aY2.length ≤ 1048576 := by omega
  have hx_aY3 : x_aY3.length ≤ 1048576 := by omega
  refine (toYard_c _ x_aY0 _ x_aY1 _ x_aY2 _ x_aY3 s_aY4 _ hx_aY0 hx_aY1 hx_aY2 hx_aY3 (FlatB.flat (FlatB.below h_aY0 t8) t8.size) (FlatB.flat (FlatB.below h_aY1 t8) t8.size) (FlatB.flat (FlatB.below h_aY2 t8) t8.size) (FlatB.flat (FlatB.below h_aY3 t8) t8.size)).mono ?_
  rintro e w14 ⟨v16, v17, v18, v19, rfl, o20, o21, o22, o23, ap24, ap25, ap26, ap27, ap28, ap29, b15⟩
  obtain ⟨a30, m31, c32, rfl⟩ := owns_form3 o20
  obtain ⟨a33, m34, c35, rfl⟩ := owns_form3 o21
  obtain ⟨a36, m37, c38, rfl⟩ := owns_form3 o22
  obtain ⟨a39, m40, c41, rfl⟩ := owns_form3 o23
  have t42 := Below.trans t8 (Below.mono b15 t8.size)
  replace bx_aY := Box.below bx_aY b15
  have k43 : w14.cell? ⟨w.heap.size, 0, none⟩ = some (Value.slice ad_aY0 x_aY0.length cap_aY0) := bx_aY.2 0 (by simp)
  have k44 : w14.cell? ⟨w.heap.size, 1, none⟩ = some (Value.slice ad_aY1 x_aY1.length cap_aY1) := bx_aY.2 1 (by simp)
  have k45 : w14.cell? ⟨w.heap.size, 2, none⟩ = some (Value.slice ad_aY2 x_aY2.length cap_aY2) := bx_aY.2 2 (by simp)
  have k46 : w14.cell? ⟨w.heap.size, 3, none⟩ = some (Value.slice ad_aY3 x_aY3.length cap_aY3) := bx_aY.2 3 (by simp)
  have k47 : w14.cell? ⟨w.heap.size, 4, none⟩ = some (Value.int .i64 s_aY4) := bx_aY.2 4 (by simp)
  go_wp2_with fail
  clear k43 k44 k45 k46 k47
  have q48 := (bx_aY).1
  refine (spec_Counts _ x_aY0 _ x_aY1 _ x_aY2 _ x_aY3 s_aY4 _ (Flat.of_owns o20) hx_aY0 (Flat.of_owns o21) hx_aY1 (Flat.of_owns o22) hx_aY2 (Flat.of_owns o23) hx_aY3).mono ?_
  rintro e w49 ⟨rfl, b50⟩
  have t51 := Below.trans t42 (Below.mono b50 t42.size)
  replace bx_aY := Box.below bx_aY b50
  have s52 : Below w49.heap.size w49 w49 := Below.refl _ _
  have k53 : w49.cell? ⟨w.heap.size, 0, none⟩ = some (Value.slice ad_aY0 x_aY0.length cap_aY0) := bx_aY.2 0 (by simp)
  have k54 : w49.cell? ⟨w.heap.size, 1, none⟩ = some (Value.slice ad_aY1 x_aY1.length cap_aY1) := bx_aY.2 1 (by simp)
  have k55 : w49.cell? ⟨w.heap.size, 2, none⟩ = some (Value.slice ad_aY2 x_aY2.length cap_aY2) := bx_aY.2 2 (by simp)
  have k56 : w49.cell? ⟨w.heap.size, 3, none⟩ = some (Value.slice ad_aY3 x_aY3.length cap_aY3) := bx_aY.2 3 (by simp)
  have k57 : w49.cell? ⟨w.heap.size, 4, none⟩ = some (Value.int .i64 s_aY4) := bx_aY.2 4 (by simp)
  obtain ⟨X58, hX59⟩ : ∃ X, w49.alloc (.cells #[Value.int .i64 (cntF ⟨⟨x_aY0, x_aY1⟩, x_aY2, x_aY3, s_aY4⟩ 0), Value.int .i64 (cntF ⟨⟨x_aY0, x_aY1⟩, x_aY2, x_aY3, s_aY4⟩ 1), Value.int .i64 (cntF ⟨⟨x_aY0, x_aY1⟩, x_aY2, x_aY3, s_aY4⟩ 2), Value.int .i64 (cntF ⟨⟨x_aY0, x_aY1⟩, x_aY2, x_aY3, s_aY4⟩ 3)] 54) = X := ⟨_, rfl⟩
  have bX60 : Below w49.heap.size w49 X58 := by rw [← hX59]; exact (Below.refl _ _).alloc (Nat.le_refl _) _
  have t61 := Below.trans t51 (Below.mono bX60 t51.size)
  have s62 := Below.trans s52 (Below.mono bX60 s52.size)
  replace bx_aY := Box.below bx_aY bX60
  have bx63 : Box X58 (w49.heap.size) [Value.int .i64 (cntF ⟨⟨x_aY0, x_aY1⟩, x_aY2, x_aY3, s_aY4⟩ 0), Value.int .i64 (cntF ⟨⟨x_aY0, x_aY1⟩, x_aY2, x_aY3, s_aY4⟩ 1), Value.int .i64 (cntF ⟨⟨x_aY0, x_aY1⟩, x_aY2, x_aY3, s_aY4⟩ 2), Value.int .i64 (cntF ⟨⟨x_aY0, x_aY1⟩, x_aY2, x_aY3, s_aY4⟩ 3)] := by rw [← hX59]; exact Box.alloc _ _ _
  have k64 : X58.cell? ⟨w.heap.size, 0, none⟩ = some (Value.slice ad_aY0 x_aY0.length cap_aY0) := bx_aY.2 0 (by simp)
  have k65 : X58.cell? ⟨w.heap.size, 1, none⟩ = some (Value.slice ad_aY1 x_aY1.length cap_aY1) := bx_aY.2 1 (by simp)
  have k66 : X58.cell? ⟨w.heap.size, 2, none⟩ = some (Value.slice ad_aY2 x_aY2.length cap_aY2) := bx_aY.2 2 (by simp)
  have k67 : X58.cell? ⟨w.heap.size, 3, none⟩ = some (Value.slice ad_aY3 x_aY3.length cap_aY3) := bx_aY.2 3 (by simp)
  have k68 : X58.cell? ⟨w.heap.size, 4, none⟩ = some (Value.int .i64 s_aY4) := bx_aY.2 4 (by simp)
  have k69 : X58.cell? ⟨w49.heap.size, 0, none⟩ = some (Value.int .i64 (cntF ⟨⟨x_aY0, x_aY1⟩, x_aY2, x_aY3, s_aY4⟩ 0)) := bx63.2 0 (by simp)
  have k70 : X58.cell? ⟨w49.heap.size, 1, none⟩ = some (Value.int .i64 (cntF ⟨⟨x_aY0, x_aY1⟩, x_aY2, x_aY3, s_aY4⟩ 1)) := bx63.2 1 (by simp)
  have k71 : X58.cell? ⟨w49.heap.size, 2, none⟩ = some (Value.int .i64 (cntF ⟨⟨x_aY0, x_aY1⟩, x_aY2, x_aY3, s_aY4⟩ 2)) := bx63.2 2 (by simp)
  have k72 : X58.cell? ⟨w49.heap.size, 3, none⟩ = some (Value.int .i64 (cntF ⟨⟨x_aY0, x_aY1⟩, x_aY2, x_aY3, s_aY4⟩ 3)) := bx63.2 3 (by simp)
  go_wp2_with fail
  clear k53 k54 k55 k56 k57 k64 k65 k66 k67 k68 k69 k70 k71 k72 hX59
  have q73 := (bx_aY).1
  have q74 := (bx63).1
  refine (toYard_c _ x_aY0 _ x_aY1 _ x_aY2 _ x_aY3 s_aY4 _ hx_aY0 hx_aY1 hx_aY2 hx_aY3 (FlatB.flat (FlatB.below h_aY0 t61) t61.size) (FlatB.flat (FlatB.below h_aY1 t61) t61.size) (FlatB.flat (FlatB.below h_aY2 t61) t61.size) (FlatB.flat (FlatB.below h_aY3 t61) t61.size)).mono ?_
  rintro e w75 ⟨v77, v78, v79, v80, rfl, o81, o82, o83, o84, ap85, ap86, ap87, ap88, ap89, ap90, b76⟩
  obtain ⟨a91, m92, c93, rfl⟩ := owns_form3 o81
  obtain ⟨a94, m95, c96, rfl⟩ := owns_form3 o82
  obtain ⟨a97, m98, c99, rfl⟩ := owns_form3 o83
  obtain ⟨a100, m101, c102, rfl⟩ := owns_form3 o84
  have t103 := Below.trans t61 (Below.mono b76 t61.size)
  have s104 := Below.trans s62 (Below.mono b76 s62.size)
  replace bx_aY := Box.below bx_aY b76
  replace bx63 := Box.below bx63 b76
  have tb105 := Below.size t61
  have hb106 := Below.size s62
  have ne107 : ¬ (Value.slice a91 m92 c93).ownBlock = some (w.heap.size) := fun e => by have h1 := (World.ownsRow.lt o81 _ e).1; have h2 := q73; omega
  have ne108 : ¬ (Value.slice a91 m92 c93).ownBlock = some (w49.heap.size) := fun e => by have h1 := (World.ownsRow.lt o81 _ e).1; have h2 := q74; omega
  have ne109 : ¬ (Value.slice a94 m95 c96).ownBlock = some (w.heap.size) := fun e => by have h1 := (World.ownsRow.lt o82 _ e).1; have h2 := q73; omega
  have ne110 : ¬ (Value.slice a94 m95 c96).ownBlock = some (w49.heap.size) := fun e => by have h1 := (World.ownsRow.lt o82 _ e).1; have h2 := q74; omega
  have ne111 : ¬ (Value.slice a97 m98 c99).ownBlock = some (w.heap.size) := fun e => by have h1 := (World.ownsRow.lt o83 _ e).1; have h2 := q73; omega
  have ne112 : ¬ (Value.slice a97 m98 c99).ownBlock = some (w49.heap.size) := fun e => by have h1 := (World.ownsRow.lt o83 _ e).1; have h2 := q74; omega
  have ne113 : ¬ (Value.slice a100 m101 c102).ownBlock = some (w.heap.size) := fun e => by have h1 := (World.ownsRow.lt o84 _ e).1; have h2 := q73; omega
  have ne114 : ¬ (Value.slice a100 m101 c102).ownBlock = some (w49.heap.size) := fun e => by have h1 := (World.ownsRow.lt o84 _ e).1; have h2 := q74; omega
  have k115 : w75.cell? ⟨w.heap.size, 0, none⟩ = some (Value.slice ad_aY0 x_aY0.length cap_aY0) := bx_aY.2 0 (by simp)
  have k116 : w75.cell? ⟨w.heap.size, 1, none⟩ = some (Value.slice ad_aY1 x_aY1.length cap_aY1) := bx_aY.2 1 (by simp)
  have k117 : w75.cell? ⟨w.heap.size, 2, none⟩ = some (Value.slice ad_aY2 x_aY2.length cap_aY2) := bx_aY.2 2 (by simp)
  have k118 : w75.cell? ⟨w.heap.size, 3, none⟩ = some (Value.slice ad_aY3 x_aY3.length cap_aY3) := bx_aY.2 3 (by simp)
  have k119 : w75.cell? ⟨w.heap.size, 4, none⟩ = some (Value.int .i64 s_aY4) := bx_aY.2 4 (by simp)
  have k120 : w75.cell? ⟨w49.heap.size, 0, none⟩ = some (Value.int .i64 (cntF ⟨⟨x_aY0, x_aY1⟩, x_aY2, x_aY3, s_aY4⟩ 0)) := bx63.2 0 (by simp)
  have k121 : w75.cell? ⟨w49.heap.size, 1, none⟩ = some (Value.int .i64 (cntF ⟨⟨x_aY0, x_aY1⟩, x_aY2, x_aY3, s_aY4⟩ 1)) := bx63.2 1 (by simp)
  have k122 : w75.cell? ⟨w49.heap.size, 2, none⟩ = some (Value.int .i64 (cntF ⟨⟨x_aY0, x_aY1⟩, x_aY2, x_aY3, s_aY4⟩ 2)) := bx63.2 2 (by simp)
  have k123 : w75.cell? ⟨w49.heap.size, 3, none⟩ = some (Value.int .i64 (cntF ⟨⟨x_aY0, x_aY1⟩, x_aY2, x_aY3, s_aY4⟩ 3)) := bx63.2 3 (by simp)
  obtain ⟨X124, hX125⟩ : ∃ X, w75.alloc (.cells #[(Value.slice a91 m92 c93), (Value.slice a94 m95 c96), (Value.slice a97 m98 c99), (Value.slice a100 m101 c102), Value.int .i64 s_aY4] 30) = X := ⟨_, rfl⟩
  have bX126 : Below w75.heap.size w75 X124 := by rw [← hX125]; exact (Below.refl _ _).alloc (Nat.le_refl _) _
  have ne127 : ¬ (Value.slice a91 m92 c93).ownBlock = some (w75.heap.size) := fun e => by have h1 := (World.ownsRow.lt o81 _ e).2; omega
  have ne128 : ¬ (Value.slice a94 m95 c96).ownBlock = some (w75.heap.size) := fun e => by have h1 := (World.ownsRow.lt o82 _ e).2; omega
  have ne129 : ¬ (Value.slice a97 m98 c99).ownBlock = some (w75.heap.size) := fun e => by have h1 := (World.ownsRow.lt o83 _ e).2; omega
  have ne130 : ¬ (Value.slice a100 m101 c102).ownBlock = some (w75.heap.size) := fun e => by have h1 := (World.ownsRow.lt o84 _ e).2; omega
  have t131 := Below.trans t103 (Below.mono bX126 t103.size)
  have s132 := Below.trans s104 (Below.mono bX126 s104.size)
  replace o81 := owns_below o81 bX126
  replace o82 := owns_below o82 bX126
  replace o83 := owns_below o83 bX126
  replace o84 := owns_below o84 bX126
  replace bx_aY := Box.below bx_aY bX126
  replace bx63 := Box.below bx63 bX126
  have bx133 : Box X124 (w75.heap.size) [(Value.slice a91 m92 c93), (Value.slice a94 m95 c96), (Value.slice a97 m98 c99), (Value.slice a100 m101 c102), Value.int .i64 s_aY4] := by rw [← hX125]; exact Box.alloc _ _ _
  have k134 : X124.cell? ⟨w.heap.size, 0, none⟩ = some (Value.slice ad_aY0 x_aY0.length cap_aY0) := bx_aY.2 0 (by simp)
  have k135 : X124.cell? ⟨w.heap.size, 1, none⟩ = some (Value.slice ad_aY1 x_aY1.length cap_aY1) := bx_aY.2 1 (by simp)
  have k136 : X124.cell? ⟨w.heap.size, 2, none⟩ = some (Value.slice ad_aY2 x_aY2.length cap_aY2) := bx_aY.2 2 (by simp)
  have k137 : X124.cell? ⟨w.heap.size, 3, none⟩ = some (Value.slice ad_aY3 x_aY3.length cap_aY3) := bx_aY.2 3 (by simp)
  have k138 : X124.cell? ⟨w.heap.size, 4, none⟩ = some (Value.int .i64 s_aY4) := bx_aY.2 4 (by simp)
  have k139 : X124.cell? ⟨w49.heap.size, 0, none⟩ = some (Value.int .i64 (cntF ⟨⟨x_aY0, x_aY1⟩, x_aY2, x_aY3, s_aY4⟩ 0)) := bx63.2 0 (by simp)
  have k140 : X124.cell? ⟨w49.heap.size, 1, none⟩ = some (Value.int .i64 (cntF ⟨⟨x_aY0, x_aY1⟩, x_aY2, x_aY3, s_aY4⟩ 1)) := bx63.2 1 (by simp)
  have k141 : X124.cell? ⟨w49.heap.size, 2, none⟩ = some (Value.int .i64 (cntF ⟨⟨x_aY0, x_aY1⟩, x_aY2, x_aY3, s_aY4⟩ 2)) := bx63.2 2 (by simp)
  have k142 : X124.cell? ⟨w49.heap.size, 3, none⟩ = some (Value.int .i64 (cntF ⟨⟨x_aY0, x_aY1⟩, x_aY2, x_aY3, s_aY4⟩ 3)) := bx63.2 3 (by simp)
  have k143 : X124.cell? ⟨w75.heap.size, 0, none⟩ = some ((Value.slice a91 m92 c93)) := bx133.2 0 (by simp)
  have k144 : X124.cell? ⟨w75.heap.size, 1, none⟩ = some ((Value.slice a94 m95 c96)) := bx133.2 1 (by simp)
  have k145 : X124.cell? ⟨w75.heap.size, 2, none⟩ = some ((Value.slice a97 m98 c99)) := bx133.2 2 (by simp)
  have k146 : X124.cell? ⟨w75.heap.size, 3, none⟩ = some ((Value.slice a100 m101 c102)) := bx133.2 3 (by simp)
  have k147 : X124.cell? ⟨w75.heap.size, 4, none⟩ = some (Value.int .i64 s_aY4) := bx133.2 4 (by simp)
  go_wp2_with fail
  clear k115 k116 k117 k118 k119 k120 k121 k122 k123 k134 k135 k136 k137 k138 k139 k140 k141 k142 k143 k144 k145 k146 k147 hX125
  have p148 := o81
  have p149 := o82
  have p150 := o83
  have p151 := o84
  have q152 := (bx_aY).1
  have q153 := (bx63).1
  have q154 := (bx133).1
  refine (impl_Counts _ x_aY0 _ x_aY1 _ x_aY2 _ x_aY3 s_aY4 _ (Flat.of_owns o81) hx_aY0 (Flat.of_owns o82) hx_aY1 (Flat.of_owns o83) hx_aY2 (Flat.of_owns o84) hx_aY3).mono ?_
  rintro e w155 ⟨rfl, b156⟩
  have t157 := Below.trans t131 (Below.mono b156 t131.size)
  have s158 := Below.trans s132 (Below.mono b156 s132.size)
  replace o81 := owns_below o81 b156
  replace o82 := owns_below o82 b156
  replace o83 := owns_below o83 b156
  replace o84 := owns_below o84 b156
  replace bx_aY := Box.below bx_aY b156
  replace bx63 := Box.below bx63 b156
  replace bx133 := Box.below bx133 b156
  have tb159 := Below.size t131
  have hb160 := Below.size s132
  have k161 : w155.cell? ⟨w.heap.size, 0, none⟩ = some (Value.slice ad_aY0 x_aY0.length cap_aY0) := bx_aY.2 0 (by simp)
  have k162 : w155.cell? ⟨w.heap.size, 1, none⟩ = some (Value.slice ad_aY1 x_aY1.length cap_aY1) := bx_aY.2 1 (by simp)
  have k163 : w155.cell? ⟨w.heap.size, 2, none⟩ = some (Value.slice ad_aY2 x_aY2.length cap_aY2) := bx_aY.2 2 (by simp)
  have k164 : w155.cell? ⟨w.heap.size, 3, none⟩ = some (Value.slice ad_aY3 x_aY3.length cap_aY3) := bx_aY.2 3 (by simp)
  have k165 : w155.cell? ⟨w.heap.size, 4, none⟩ = some (Value.int .i64 s_aY4) := bx_aY.2 4 (by simp)
  have k166 : w155.cell? ⟨w49.heap.size, 0, none⟩ = some (Value.int .i64 (cntF ⟨⟨x_aY0, x_aY1⟩, x_aY2, x_aY3, s_aY4⟩ 0)) := bx63.2 0 (by simp)
  have k167 : w155.cell? ⟨w49.heap.size, 1, none⟩ = some (Value.int .i64 (cntF ⟨⟨x_aY0, x_aY1⟩, x_aY2, x_aY3, s_aY4⟩ 1)) := bx63.2 1 (by simp)
  have k168 : w155.cell? ⟨w49.heap.size, 2, none⟩ = some (Value.int .i64 (cntF ⟨⟨x_aY0, x_aY1⟩, x_aY2, x_aY3, s_aY4⟩ 2)) := bx63.2 2 (by simp)
  have k169 : w155.cell? ⟨w49.heap.size, 3, none⟩ = some (Value.int .i64 (cntF ⟨⟨x_aY0, x_aY1⟩, x_aY2, x_aY3, s_aY4⟩ 3)) := bx63.2 3 (by simp)
  have k170 : w155.cell? ⟨w75.heap.size, 0, none⟩ = some ((Value.slice a91 m92 c93)) := bx133.2 0 (by simp)
  have k171 : w155.cell? ⟨w75.heap.size, 1, none⟩ = some ((Value.slice a94 m95 c96)) := bx133.2 1 (by simp)
  have k172 : w155.cell? ⟨w75.heap.size, 2, none⟩ = some ((Value.slice a97 m98 c99)) := bx133.2 2 (by simp)
  have k173 : w155.cell? ⟨w75.heap.size, 3, none⟩ = some ((Value.slice a100 m101 c102)) := bx133.2 3 (by simp)
  have k174 : w155.cell? ⟨w75.heap.size, 4, none⟩ = some (Value.int .i64 s_aY4) := bx133.2 4 (by simp)
  obtain ⟨X175, hX176⟩ : ∃ X, w155.alloc (.cells #[Value.int .i64 (cntF ⟨⟨x_aY0, x_aY1⟩, x_aY2, x_aY3, s_aY4⟩ 0), Value.int .i64 (cntF ⟨⟨x_aY0, x_aY1⟩, x_aY2, x_aY3, s_aY4⟩ 1), Value.int .i64 (cntF ⟨⟨x_aY0, x_aY1⟩, x_aY2, x_aY3, s_aY4⟩ 2), Value.int .i64 (cntF ⟨⟨x_aY0, x_aY1⟩, x_aY2, x_aY3, s_aY4⟩ 3)] 54) = X := ⟨_, rfl⟩
  have bX177 : Below w155.heap.size w155 X175 := by rw [← hX176]; exact (Below.refl _ _).alloc (Nat.le_refl _) _
  have ne178 : ¬ (Value.slice a91 m92 c93).ownBlock = some (w155.heap.size) := fun e => by have h1 := (World.ownsRow.lt o81 _ e).2; omega
  have ne179 : ¬ (Value.slice a94 m95 c96).ownBlock = some (w155.heap.size) := fun e => by have h1 := (World.ownsRow.lt o82 _ e).2; omega
  have ne180 : ¬ (Value.slice a97 m98 c99).ownBlock = some (w155.heap.size) := fun e => by have h1 := (World.ownsRow.lt o83 _ e).2; omega
  have ne181 : ¬ (Value.slice a100 m101 c102).ownBlock = some (w155.heap.size) := fun e => by have h1 := (World.ownsRow.lt o84 _ e).2; omega
  have t182 := Below.trans t157 (Below.mono bX177 t157.size)
  have s183 := Below.trans s158 (Below.mono bX177 s158.size)
  replace o81 := owns_below o81 bX177
  replace o82 := owns_below o82 bX177
  replace o83 := owns_below o83 bX177
  replace o84 := owns_below o84 bX177
  replace bx_aY := Box.below bx_aY bX177
  replace bx63 := Box.below bx63 bX177
  replace bx133 := Box.below bx133 bX177
  have bx184 : Box X175 (w155.heap.size) [Value.int .i64 (cntF ⟨⟨x_aY0, x_aY1⟩, x_aY2, x_aY3, s_aY4⟩ 0), Value.int .i64 (cntF ⟨⟨x_aY0, x_aY1⟩, x_aY2, x_aY3, s_aY4⟩ 1), Value.int .i64 (cntF ⟨⟨x_aY0, x_aY1⟩, x_aY2, x_aY3, s_aY4⟩ 2), Value.int .i64 (cntF ⟨⟨x_aY0, x_aY1⟩, x_aY2, x_aY3, s_aY4⟩ 3)] := by rw [← hX176]; exact Box.alloc _ _ _
  have k185 : X175.cell? ⟨w.heap.size, 0, none⟩ = some (Value.slice ad_aY0 x_aY0.length cap_aY0) := bx_aY.2 0 (by simp)
  have k186 : X175.cell? ⟨w.heap.size, 1, none⟩ = some (Value.slice ad_aY1 x_aY1.length cap_aY1) := bx_aY.2 1 (by simp)
  have k187 : X175.cell? ⟨w.heap.size, 2, none⟩ = some (Value.slice ad_aY2 x_aY2.length cap_aY2) := bx_aY.2 2 (by simp)
  have k188 : X175.cell? ⟨w.heap.size, 3, none⟩ = some (Value.slice ad_aY3 x_aY3.length cap_aY3) := bx_aY.2 3 (by simp)
  have k189 : X175.cell? ⟨w.heap.size, 4, none⟩ = some (Value.int .i64 s_aY4) := bx_aY.2 4 (by simp)
  have k190 : X175.cell? ⟨w49.heap.size, 0, none⟩ = some (Value.int .i64 (cntF ⟨⟨x_aY0, x_aY1⟩, x_aY2, x_aY3, s_aY4⟩ 0)) := bx63.2 0 (by simp)
  have k191 : X175.cell? ⟨w49.heap.size, 1, none⟩ = some (Value.int .i64 (cntF ⟨⟨x_aY0, x_aY1⟩, x_aY2, x_aY3, s_aY4⟩ 1)) := bx63.2 1 (by simp)
  have k192 : X175.cell? ⟨w49.heap.size, 2, none⟩ = some (Value.int .i64 (cntF ⟨⟨x_aY0, x_aY1⟩, x_aY2, x_aY3, s_aY4⟩ 2)) := bx63.2 2 (by simp)
  have k193 : X175.cell? ⟨w49.heap.size, 3, none⟩ = some (Value.int .i64 (cntF ⟨⟨x_aY0, x_aY1⟩, x_aY2, x_aY3, s_aY4⟩ 3)) := bx63.2 3 (by simp)
  have k194 : X175.cell? ⟨w75.heap.size, 0, none⟩ = some ((Value.slice a91 m92 c93)) := bx133.2 0 (by simp)
  have k195 : X175.cell? ⟨w75.heap.size, 1, none⟩ = some ((Value.slice a94 m95 c96)) := bx133.2 1 (by simp)
  have k196 : X175.cell? ⟨w75.heap.size, 2, none⟩ = some ((Value.slice a97 m98 c99)) := bx133.2 2 (by simp)
  have k197 : X175.cell? ⟨w75.heap.size, 3, none⟩ = some ((Value.slice a100 m101 c102)) := bx133.2 3 (by simp)
  have k198 : X175.cell? ⟨w75.heap.size, 4, none⟩ = some (Value.int .i64 s_aY4) := bx133.2 4 (by simp)
  have k199 : X175.cell? ⟨w155.heap.size, 0, none⟩ = some (Value.int .i64 (cntF ⟨⟨x_aY0, x_aY1⟩, x_aY2, x_aY3, s_aY4⟩ 0)) := bx184.2 0 (by simp)
  have k200 : X175.cell? ⟨w155.heap.size, 1, none⟩ = some (Value.int .i64 (cntF ⟨⟨x_aY0, x_aY1⟩, x_aY2, x_aY3, s_aY4⟩ 1)) := bx184.2 1 (by simp)
  have k201 : X175.cell? ⟨w155.heap.size, 2, none⟩ = some (Value.int .i64 (cntF ⟨⟨x_aY0, x_aY1⟩, x_aY2, x_aY3, s_aY4⟩ 2)) := bx184.2 2 (by simp)
  have k202 : X175.cell? ⟨w155.heap.size, 3, none⟩ = some (Value.int .i64 (cntF ⟨⟨x_aY0, x_aY1⟩, x_aY2, x_aY3, s_aY4⟩ 3)) := bx184.2 3 (by simp)
  go_wp2_with fail
  clear k161 k162 k163 k164 k165 k166 k167 k168 k169 k170 k171 k172 k173 k174 k185 k186 k187 k188 k189 k190 k191 k192 k193 k194 k195 k196 k197 k198 k199 k200 k201 k202 hX176
  refine (eqIntA4_c _ _ _ _ _).mono ?_
  rintro e w203 ⟨rfl, b204⟩
  have t205 := Below.trans t182 (Below.mono b204 t182.size)
  have s206 := Below.trans s183 (Below.mono b204 s183.size)
  replace o81 := owns_below o81 b204
  replace o82 := owns_below o82 b204
  replace o83 := owns_below o83 b204
  replace o84 := owns_below o84 b204
  replace bx_aY := Box.below bx_aY b204
  replace bx63 := Box.below bx63 b204
  replace bx133 := Box.below bx133 b204
  replace bx184 := Box.below bx184 b204
  have k207 : w203.cell? ⟨w.heap.size, 0, none⟩ = some (Value.slice ad_aY0 x_aY0.length cap_aY0) := bx_aY.2 0 (by simp)
  have k208 : w203.cell? ⟨w.heap.size, 1, none⟩ = some (Value.slice ad_aY1 x_aY1.length cap_aY1) := bx_aY.2 1 (by simp)
  have k209 : w203.cell? ⟨w.heap.size, 2, none⟩ = some (Value.slice ad_aY2 x_aY2.length cap_aY2) := bx_aY.2 2 (by simp)
  have k210 : w203.cell? ⟨w.heap.size, 3, none⟩ = some (Value.slice ad_aY3 x_aY3.length cap_aY3) := bx_aY.2 3 (by simp)
  have k211 : w203.cell? ⟨w.heap.size, 4, none⟩ = some (Value.int .i64 s_aY4) := bx_aY.2 4 (by simp)
  have k212 : w203.cell? ⟨w49.heap.size, 0, none⟩ = some (Value.int .i64 (cntF ⟨⟨x_aY0, x_aY1⟩, x_aY2, x_aY3, s_aY4⟩ 0)) := bx63.2 0 (by simp)
  have k213 : w203.cell? ⟨w49.heap.size, 1, none⟩ = some (Value.int .i64 (cntF ⟨⟨x_aY0, x_aY1⟩, x_aY2, x_aY3, s_aY4⟩ 1)) := bx63.2 1 (by simp)
  have k214 : w203.cell? ⟨w49.heap.size, 2, none⟩ = some (Value.int .i64 (cntF ⟨⟨x_aY0, x_aY1⟩, x_aY2, x_aY3, s_aY4⟩ 2)) := bx63.2 2 (by simp)
  have k215 : w203.cell? ⟨w49.heap.size, 3, none⟩ = some (Value.int .i64 (cntF ⟨⟨x_aY0, x_aY1⟩, x_aY2, x_aY3, s_aY4⟩ 3)) := bx63.2 3 (by simp)
  have k216 : w203.cell? ⟨w75.heap.size, 0, none⟩ = some ((Value.slice a91 m92 c93)) := bx133.2 0 (by simp)
  have k217 : w203.cell? ⟨w75.heap.size, 1, none⟩ = some ((Value.slice a94 m95 c96)) := bx133.2 1 (by simp)
  have k218 : w203.cell? ⟨w75.heap.size, 2, none⟩ = some ((Value.slice a97 m98 c99)) := bx133.2 2 (by simp)
  have k219 : w203.cell? ⟨w75.heap.size, 3, none⟩ = some ((Value.slice a100 m101 c102)) := bx133.2 3 (by simp)
  have k220 : w203.cell? ⟨w75.heap.size, 4, none⟩ = some (Value.int .i64 s_aY4) := bx133.2 4 (by simp)
  have k221 : w203.cell? ⟨w155.heap.size, 0, none⟩ = some (Value.int .i64 (cntF ⟨⟨x_aY0, x_aY1⟩, x_aY2, x_aY3, s_aY4⟩ 0)) := bx184.2 0 (by simp)
  have k222 : w203.cell? ⟨w155.heap.size, 1, none⟩ = some (Value.int .i64 (cntF ⟨⟨x_aY0, x_aY1⟩, x_aY2, x_aY3, s_aY4⟩ 1)) := bx184.2 1 (by simp)
  have k223 : w203.cell? ⟨w155.heap.size, 2, none⟩ = some (Value.int .i64 (cntF ⟨⟨x_aY0, x_aY1⟩, x_aY2, x_aY3, s_aY4⟩ 2)) := bx184.2 2 (by simp)
  have k224 : w203.cell? ⟨w155.heap.size, 3, none⟩ = some (Value.int .i64 (cntF ⟨⟨x_aY0, x_aY1⟩, x_aY2, x_aY3, s_aY4⟩ 3)) := bx184.2 3 (by simp)
  go_wp2_with fail
  clear k207 k208 k209 k210 k211 k212 k213 k214 k215 k216 k217 k218 k219 k220 k221 k222 k223 k224
  have lt247 := (bx_aY).1
  have lt248 := (bx63).1
  have lt249 := (bx133).1
  have lt250 := (bx184).1
  have k251 : w203.cell? ⟨w.heap.size, 0, none⟩ = some (Value.slice ad_aY0 x_aY0.length cap_aY0) := bx_aY.2 0 (by simp)
  have k252 : w203.cell? ⟨w.heap.size, 1, none⟩ = some (Value.slice ad_aY1 x_aY1.length cap_aY1) := bx_aY.2 1 (by simp)
  have k253 : w203.cell? ⟨w.heap.size, 2, none⟩ = some (Value.slice ad_aY2 x_aY2.length cap_aY2) := bx_aY.2 2 (by simp)
  have k254 : w203.cell? ⟨w.heap.size, 3, none⟩ = some (Value.slice ad_aY3 x_aY3.length cap_aY3) := bx_aY.2 3 (by simp)
  have k255 : w203.cell? ⟨w.heap.size, 4, none⟩ = some (Value.int .i64 s_aY4) := bx_aY.2 4 (by simp)
  have k256 : w203.cell? ⟨w49.heap.size, 0, none⟩ = some (Value.int .i64 (cntF ⟨⟨x_aY0, x_aY1⟩, x_aY2, x_aY3, s_aY4⟩ 0)) := bx63.2 0 (by simp)
  have k257 : w203.cell? ⟨w49.heap.size, 1, none⟩ = some (Value.int .i64 (cntF ⟨⟨x_aY0, x_aY1⟩, x_aY2, x_aY3, s_aY4⟩ 1)) := bx63.2 1 (by simp)
  have k258 : w203.cell? ⟨w49.heap.size, 2, none⟩ = some (Value.int .i64 (cntF ⟨⟨x_aY0, x_aY1⟩, x_aY2, x_aY3, s_aY4⟩ 2)) := bx63.2 2 (by simp)
  have k259 : w203.cell? ⟨w49.heap.size, 3, none⟩ = some (Value.int .i64 (cntF ⟨⟨x_aY0, x_aY1⟩, x_aY2, x_aY3, s_aY4⟩ 3)) := bx63.2 3 (by simp)
  have k260 : w203.cell? ⟨w75.heap.size, 0, none⟩ = some ((Value.slice a91 m92 c93)) := bx133.2 0 (by simp)
  have k261 : w203.cell? ⟨w75.heap.size, 1, none⟩ = some ((Value.slice a94 m95 c96)) := bx133.2 1 (by simp)
  have k262 : w203.cell? ⟨w75.heap.size, 2, none⟩ = some ((Value.slice a97 m98 c99)) := bx133.2 2 (by simp)
  have k263 : w203.cell? ⟨w75.heap.size, 3, none⟩ = some ((Value.slice a100 m101 c102)) := bx133.2 3 (by simp)
  have k264 : w203.cell? ⟨w75.heap.size, 4, none⟩ = some (Value.int .i64 s_aY4) := bx133.2 4 (by simp)
  have k265 : w203.cell? ⟨w155.heap.size, 0, none⟩ = some (Value.int .i64 (cntF ⟨⟨x_aY0, x_aY1⟩, x_aY2, x_aY3, s_aY4⟩ 0)) := bx184.2 0 (by simp)
  have k266 : w203.cell? ⟨w155.heap.size, 1, none⟩ = some (Value.int .i64 (cntF ⟨⟨x_aY0, x_aY1⟩, x_aY2, x_aY3, s_aY4⟩ 1)) := bx184.2 1 (by simp)
  have k267 : w203.cell? ⟨w155.heap.size, 2, none⟩ = some (Value.int .i64 (cntF ⟨⟨x_aY0, x_aY1⟩, x_aY2, x_aY3, s_aY4⟩ 2)) := bx184.2 2 (by simp)
  have k268 : w203.cell? ⟨w155.heap.size, 3, none⟩ = some (Value.int .i64 (cntF ⟨⟨x_aY0, x_aY1⟩, x_aY2, x_aY3, s_aY4⟩ 3)) := bx184.2 3 (by simp)
  go_region_held3 (fun w' => Below w203.heap.size w203 w' ∧ w203.heap.size ≤ w'.heap.size ∧ w'.cell? ⟨w.heap.size, 0, none⟩ = some (Value.slice ad_aY0 x_aY0.length cap_aY0) ∧ w'.cell? ⟨w.heap.size, 1, none⟩ = some (Value.slice ad_aY1 x_aY1.length cap_aY1) ∧ w'.cell? ⟨w.heap.size, 2, none⟩ = some (Value.slice ad_aY2 x_aY2.length cap_aY2) ∧ w'.cell? ⟨w.heap.size, 3, none⟩ = some (Value.slice ad_aY3 x_aY3.length cap_aY3) ∧ w'.cell? ⟨w.heap.size, 4, none⟩ = some (Value.int .i64 s_aY4) ∧ w'.cell? ⟨w49.heap.size, 0, none⟩ = some (Value.int .i64 (cntF ⟨⟨x_aY0, x_aY1⟩, x_aY2, x_aY3, s_aY4⟩ 0)) ∧ w'.cell? ⟨w49.heap.size, 1, none⟩ = some (Value.int .i64 (cntF ⟨⟨x_aY0, x_aY1⟩, x_aY2, x_aY3, s_aY4⟩ 1)) ∧ w'.cell? ⟨w49.heap.size, 2, none⟩ = some (Value.int .i64 (cntF ⟨⟨x_aY0, x_aY1⟩, x_aY2, x_aY3, s_aY4⟩ 2)) ∧ w'.cell? ⟨w49.heap.size, 3, none⟩ = some (Value.int .i64 (cntF ⟨⟨x_aY0, x_aY1⟩, x_aY2, x_aY3, s_aY4⟩ 3)) ∧ w'.cell? ⟨w75.heap.size, 0, none⟩ = some ((Value.slice a91 m92 c93)) ∧ w'.cell? ⟨w75.heap.size, 1, none⟩ = some ((Value.slice a94 m95 c96)) ∧ w'.cell? ⟨w75.heap.size, 2, none⟩ = some ((Value.slice a97 m98 c99)) ∧ w'.cell? ⟨w75.heap.size, 3, none⟩ = some ((Value.slice a100 m101 c102)) ∧ w'.cell? ⟨w75.heap.size, 4, none⟩ = some (Value.int .i64 s_aY4) ∧ w'.cell? ⟨w155.heap.size, 0, none⟩ = some (Value.int .i64 (cntF ⟨⟨x_aY0, x_aY1⟩, x_aY2, x_aY3, s_aY4⟩ 0)) ∧ w'.cell? ⟨w155.heap.size, 1, none⟩ = some (Value.int .i64 (cntF ⟨⟨x_aY0, x_aY1⟩, x_aY2, x_aY3, s_aY4⟩ 1)) ∧ w'.cell? ⟨w155.heap.size, 2, none⟩ = some (Value.int .i64 (cntF ⟨⟨x_aY0, x_aY1⟩, x_aY2, x_aY3, s_aY4⟩ 2)) ∧ w'.cell? ⟨w155.heap.size, 3, none⟩ = some (Value.int .i64 (cntF ⟨⟨x_aY0, x_aY1⟩, x_aY2, x_aY3, s_aY4⟩ 3)))
    (first | exact ⟨(Below.refl _ _).drew, Nat.le_refl _, k251, k252, k253, k254, k255, k256, k257, k258, k259, k260, k261, k262, k263, k264, k265, k266, k267, k268⟩ | exact keepBox18 (by omega) ‹_› ‹_›)
    (first
    | (go_at_call 21; refine (toYard_c _ x_aY0 _ x_aY1 _ x_aY2 _ x_aY3 s_aY4 _ hx_aY0 hx_aY1 hx_aY2 hx_aY3 (Flat.below (FlatB.flat (FlatB.below h_aY0 t205) t205.size) (by first | exact (Below.refl _ _).drew | exact And.left ‹_›)) (Flat.below (FlatB.flat (FlatB.below h_aY1 t205) t205.size) (by first | exact (Below.refl _ _).drew | exact And.left ‹_›)) (Flat.below (FlatB.flat (FlatB.below h_aY2 t205) t205.size) (by first | exact (Below.refl _ _).drew | exact And.left ‹_›)) (Flat.below (FlatB.flat (FlatB.below h_aY3 t205) t205.size) (by first | exact (Below.refl _ _).drew | exact And.left ‹_›))).mono ?_; rintro e w225 ⟨v227, v228, v229, v230, rfl, o231, o232, o233, o234, ap235, ap236, ap237, ap238, ap239, ap240, b226⟩)
    | (go_at_call 23; refine (eqYard_c _ _ _ _ _ _ _ _ _ _ _ _ _ _ (Flat.below (Flat.below (Flat.of_owns o81) ((Below.refl _ _).drew : Below w203.heap.size w203 w203.drew)) b226) (Flat.below (Flat.below (Flat.of_owns o82) ((Below.refl _ _).drew : Below w203.heap.size w203 w203.drew)) b226) (Flat.below (Flat.below (Flat.of_owns o83) ((Below.refl _ _).drew : Below w203.heap.size w203 w203.drew)) b226) (Flat.below (Flat.below (Flat.of_owns o84) ((Below.refl _ _).drew : Below w203.heap.size w203 w203.drew)) b226) (Flat.of_owns o231) (Flat.of_owns o232) (Flat.of_owns o233) (Flat.of_owns o234)).mono ?_; rintro e w241 ⟨rfl, b242⟩))
  clear k251 k252 k253 k254 k255 k256 k257 k258 k259 k260 k261 k262 k263 k264 k265 k266 k267 k268
  have d269 : Below w203.heap.size w203 w203.drew := (Below.refl _ _).drew
  have t270 := Below.trans t205 (Below.mono d269 t205.size)
  have s271 := Below.trans s206 (Below.mono d269 s206.size)
  replace o81 := owns_below o81 d269
  replace o82 := owns_below o82 d269
  replace o83 := owns_below o83 d269
  replace o84 := owns_below o84 d269
  replace bx_aY := Box.below bx_aY d269
  replace bx63 := Box.below bx63 d269
  replace bx133 := Box.below bx133 d269
  replace bx184 := Box.below bx184 d269
  have t272 := Below.trans t270 (Below.mono b226 t270.size)
  have s273 := Below.trans s271 (Below.mono b226 s271.size)
  replace o81 := owns_below o81 b226
  replace o82 := owns_below o82 b226
  replace o83 := owns_below o83 b226
  replace o84 := owns_below o84 b226
  replace bx_aY := Box.below bx_aY b226
  replace bx63 := Box.below bx63 b226
  replace bx133 := Box.below bx133 b226
  replace bx184 := Box.below bx184 b226
  have t274 := Below.trans t272 (Below.mono b242 t272.size)
  have s275 := Below.trans s273 (Below.mono b242 s273.size)
  replace o81 := owns_below o81 b242
  replace o82 := owns_below o82 b242
  replace o83 := owns_below o83 b242
  replace o84 := owns_below o84 b242
  replace bx_aY := Box.below bx_aY b242
  replace bx63 := Box.below bx63 b242
  replace bx133 := Box.below bx133 b242
  replace bx184 := Box.below bx184 b242
  have k276 : w241.cell? ⟨w.heap.size, 0, none⟩ = some (Value.slice ad_aY0 x_aY0.length cap_aY0) := bx_aY.2 0 (by simp)
  have k277 : w241.cell? ⟨w.heap.size, 1, none⟩ = some (Value.slice ad_aY1 x_aY1.length cap_aY1) := bx_aY.2 1 (by simp)
  have k278 : w241.cell? ⟨w.heap.size, 2, none⟩ = some (Value.slice ad_aY2 x_aY2.length cap_aY2) := bx_aY.2 2 (by simp)
  have k279 : w241.cell? ⟨w.heap.size, 3, none⟩ = some (Value.slice ad_aY3 x_aY3.length cap_aY3) := bx_aY.2 3 (by simp)
  have k280 : w241.cell? ⟨w.heap.size, 4, none⟩ = some (Value.int .i64 s_aY4) := bx_aY.2 4 (by simp)
  have k281 : w241.cell? ⟨w49.heap.size, 0, none⟩ = some (Value.int .i64 (cntF ⟨⟨x_aY0, x_aY1⟩, x_aY2, x_aY3, s_aY4⟩ 0)) := bx63.2 0 (by simp)
  have k282 : w241.cell? ⟨w49.heap.size, 1, none⟩ = some (Value.int .i64 (cntF ⟨⟨x_aY0, x_aY1⟩, x_aY2, x_aY3, s_aY4⟩ 1)) := bx63.2 1 (by simp)
  have k283 : w241.cell? ⟨w49.heap.size, 2, none⟩ = some (Value.int .i64 (cntF ⟨⟨x_aY0, x_aY1⟩, x_aY2, x_aY3, s_aY4⟩ 2)) := bx63.2 2 (by simp)
  have k284 : w241.cell? ⟨w49.heap.size, 3, none⟩ = some (Value.int .i64 (cntF ⟨⟨x_aY0, x_aY1⟩, x_aY2, x_aY3, s_aY4⟩ 3)) := bx63.2 3 (by simp)
  have k285 : w241.cell? ⟨w75.heap.size, 0, none⟩ = some ((Value.slice a91 m92 c93)) := bx133.2 0 (by simp)
  have k286 : w241.cell? ⟨w75.heap.size, 1, none⟩ = some ((Value.slice a94 m95 c96)) := bx133.2 1 (by simp)
  have k287 : w241.cell? ⟨w75.heap.size, 2, none⟩ = some ((Value.slice a97 m98 c99)) := bx133.2 2 (by simp)
  have k288 : w241.cell? ⟨w75.heap.size, 3, none⟩ = some ((Value.slice a100 m101 c102)) := bx133.2 3 (by simp)
  have k289 : w241.cell? ⟨w75.heap.size, 4, none⟩ = some (Value.int .i64 s_aY4) := bx133.2 4 (by simp)
  have k290 : w241.cell? ⟨w155.heap.size, 0, none⟩ = some (Value.int .i64 (cntF ⟨⟨x_aY0, x_aY1⟩, x_aY2, x_aY3, s_aY4⟩ 0)) := bx184.2 0 (by simp)
  have k291 : w241.cell? ⟨w155.heap.size, 1, none⟩ = some (Value.int .i64 (cntF ⟨⟨x_aY0, x_aY1⟩, x_aY2, x_aY3, s_aY4⟩ 1)) := bx184.2 1 (by simp)
  have k292 : w241.cell? ⟨w155.heap.size, 2, none⟩ = some (Value.int .i64 (cntF ⟨⟨x_aY0, x_aY1⟩, x_aY2, x_aY3, s_aY4⟩ 2)) := bx184.2 2 (by simp)
  have k293 : w241.cell? ⟨w155.heap.size, 3, none⟩ = some (Value.int .i64 (cntF ⟨⟨x_aY0, x_aY1⟩, x_aY2, x_aY3, s_aY4⟩ 3)) := bx184.2 3 (by simp)
  go_wp2_with fail
  clear k276 k277 k278 k279 k280 k281 k282 k283 k284 k285 k286 k287 k288 k289 k290 k291 k292 k293
  try go_wp2
  go_ret
  exact ⟨rfl, hB0.trans (Below.mono t274 hB0.size)⟩

end Go.Proofs.Ytdnfphpeleakcaa
