/- FnExactTake, walked. -/
import Derived.Test.YtiibpgbdnbpmoaaI2take
import Derived.Test.YtiibpgbdnbpmoaaS2take
import Derived.Test.YtiibpgbdnbpmoaaDeep2At
import Derived.Deep.RegionHeld3
import Derived.StillTailTactics
namespace Go.Proofs.Ytiibpgbdnbpmoaa
open Go.RowKit Go.Proofs Go.Own
set_option linter.unusedVariables false

set_option maxRecDepth 100000 in
set_option maxHeartbeats 8000000 in
theorem law_Take (v_aA0 : Value) (x_aA0 : List Block) (v_aA1 : Value) (x_aA1 : List Int) (w : World) (h_aA0 : Blocks w v_aA0 x_aA0) (h_aA1 : Ints w v_aA1 x_aA1) :
    Calls Try.prog 6 #[(.agg #[v_aA0, v_aA1])] w fun e w' => e = .returned (.bool true) ∧ Below w.heap.size w w' := by
  obtain ⟨ad_aA0, cap_aA0, rfl, hl_aA0, hm_aA0⟩ := Flat.form h_aA0
  obtain ⟨ad_aA1, cap_aA1, rfl, hl_aA1, hm_aA1⟩ := Flat.form h_aA1
  obtain ⟨W1, hW1⟩ : ∃ X, w.alloc (.cells #[Value.slice ad_aA0 x_aA0.length cap_aA0, Value.slice ad_aA1 x_aA1.length cap_aA1] 25) = X := ⟨_, rfl⟩
  have hbx1 : Below w.heap.size w W1 := by rw [← hW1]; exact (Below.refl _ _).alloc (Nat.le_refl _) _
  have bx_aA : Box W1 w.heap.size [Value.slice ad_aA0 x_aA0.length cap_aA0, Value.slice ad_aA1 x_aA1.length cap_aA1] := by rw [← hW1]; exact Box.alloc _ _ _
  have hB0 : Below w.heap.size w W1 := hbx1
  replace h_aA0 := Flat.below h_aA0 hB0
  replace h_aA1 := Flat.below h_aA1 hB0
  go_enter Try.func6, Try.ntmps6
  have k1 : W1.cell? ⟨w.heap.size, 0, none⟩ = some (Value.slice ad_aA0 x_aA0.length cap_aA0) := bx_aA.2 0 (by simp)
  have k2 : W1.cell? ⟨w.heap.size, 1, none⟩ = some (Value.slice ad_aA1 x_aA1.length cap_aA1) := bx_aA.2 1 (by simp)
  go_wp2_with fail
  clear k1 k2 hW1
  have hl0_aA : 0 ≤ (1048576 : Int) := by omega
  refine (szArena_c _ _ _ _ _ _ _ _ (by omega) (by omega) (by omega) (by omega)).mono ?_
  rintro e w3 ⟨rfl, b4⟩
  by_cases big_aA : (1048576 : Int) < (x_aA0.length : Int) + (x_aA1.length : Int)
  · rw [if_pos big_aA]
    go_wp2
    go_ret
    exact ⟨rfl, hB0.trans (Below.mono (Below.trans (Below.refl _ _ : Below W1.heap.size W1 W1) (Below.mono b4 (Below.refl _ _ : Below W1.heap.size W1 W1).size)) hB0.size)⟩
  rw [if_neg big_aA]
  have t5 := Below.trans (Below.refl _ _ : Below W1.heap.size W1 W1) (Below.mono b4 (Below.refl _ _ : Below W1.heap.size W1 W1).size)
  replace bx_aA := Box.below bx_aA b4
  have k6 : w3.cell? ⟨w.heap.size, 0, none⟩ = some (Value.slice ad_aA0 x_aA0.length cap_aA0) := bx_aA.2 0 (by simp)
  have k7 : w3.cell? ⟨w.heap.size, 1, none⟩ = some (Value.slice ad_aA1 x_aA1.length cap_aA1) := bx_aA.2 1 (by simp)
  go_wp2_with fail
  clear k6 k7
  have hx_aA0 : x_aA0.length ≤ 1048576 := by omega
  have hx_aA1 : x_aA1.length ≤ 1048576 := by omega
  refine (toArena_c _ x_aA0 _ x_aA1 _ hx_aA0 hx_aA1 (FlatB.flat (FlatB.below h_aA0 t5) t5.size) (FlatB.flat (FlatB.below h_aA1 t5) t5.size)).mono ?_
  rintro e w8 ⟨v10, v11, rfl, o12, o13, ap14, b9⟩
  obtain ⟨a15, m16, c17, rfl⟩ := owns_form3 o12
  obtain ⟨a18, m19, c20, rfl⟩ := owns_form3 o13
  have t21 := Below.trans t5 (Below.mono b9 t5.size)
  replace bx_aA := Box.below bx_aA b9
  have k22 : w8.cell? ⟨w.heap.size, 0, none⟩ = some (Value.slice ad_aA0 x_aA0.length cap_aA0) := bx_aA.2 0 (by simp)
  have k23 : w8.cell? ⟨w.heap.size, 1, none⟩ = some (Value.slice ad_aA1 x_aA1.length cap_aA1) := bx_aA.2 1 (by simp)
  go_wp2_with fail
  clear k22 k23
  have q24 := (bx_aA).1
  refine (spec_Take _ x_aA0 _ x_aA1 _ (Flat.of_owns o12) hx_aA0 (Flat.of_owns o13) hx_aA1).mono ?_
  rintro e w25 ⟨v27, v30, rfl, o28, o31, b26⟩
  obtain ⟨a34, m35, c36, rfl⟩ := Flat.form3 o28
  obtain ⟨a37, m38, c39, rfl⟩ := Flat.form3 o31
  have t40 := Below.trans t21 (Below.mono b26 t21.size)
  replace bx_aA := Box.below bx_aA b26
  have s41 : Below w25.heap.size w25 w25 := Below.refl _ _
  have k42 : w25.cell? ⟨w.heap.size, 0, none⟩ = some (Value.slice ad_aA0 x_aA0.length cap_aA0) := bx_aA.2 0 (by simp)
  have k43 : w25.cell? ⟨w.heap.size, 1, none⟩ = some (Value.slice ad_aA1 x_aA1.length cap_aA1) := bx_aA.2 1 (by simp)
  obtain ⟨X44, hX45⟩ : ∃ X, w25.alloc (.cells #[(Value.slice a34 m35 c36), (Value.slice a37 m38 c39)] 30) = X := ⟨_, rfl⟩
  have bX46 : Below w25.heap.size w25 X44 := by rw [← hX45]; exact (Below.refl _ _).alloc (Nat.le_refl _) _
  have t47 := Below.trans t40 (Below.mono bX46 t40.size)
  have s48 := Below.trans s41 (Below.mono bX46 s41.size)
  replace bx_aA := Box.below bx_aA bX46
  have bx49 : Box X44 (w25.heap.size) [(Value.slice a34 m35 c36), (Value.slice a37 m38 c39)] := by rw [← hX45]; exact Box.alloc _ _ _
  have k50 : X44.cell? ⟨w.heap.size, 0, none⟩ = some (Value.slice ad_aA0 x_aA0.length cap_aA0) := bx_aA.2 0 (by simp)
  have k51 : X44.cell? ⟨w.heap.size, 1, none⟩ = some (Value.slice ad_aA1 x_aA1.length cap_aA1) := bx_aA.2 1 (by simp)
  have k52 : X44.cell? ⟨w25.heap.size, 0, none⟩ = some ((Value.slice a34 m35 c36)) := bx49.2 0 (by simp)
  have k53 : X44.cell? ⟨w25.heap.size, 1, none⟩ = some ((Value.slice a37 m38 c39)) := bx49.2 1 (by simp)
  go_wp2_with fail
  clear k42 k43 k50 k51 k52 k53 hX45
  have q54 := (bx_aA).1
  have q55 := (bx49).1
  refine (toArena_c _ x_aA0 _ x_aA1 _ hx_aA0 hx_aA1 (FlatB.flat (FlatB.below h_aA0 t47) t47.size) (FlatB.flat (FlatB.below h_aA1 t47) t47.size)).mono ?_
  rintro e w56 ⟨v58, v59, rfl, o60, o61, ap62, b57⟩
  obtain ⟨a63, m64, c65, rfl⟩ := owns_form3 o60
  obtain ⟨a66, m67, c68, rfl⟩ := owns_form3 o61
  have t69 := Below.trans t47 (Below.mono b57 t47.size)
  have s70 := Below.trans s48 (Below.mono b57 s48.size)
  replace bx_aA := Box.below bx_aA b57
  replace bx49 := Box.below bx49 b57
  have tb71 := Below.size t47
  have hb72 := Below.size s48
  have ne73 : ¬ (Value.slice a63 m64 c65).ownBlock = some (w.heap.size) := fun e => by have h1 := (World.ownsRow.lt o60 _ e).1; have h2 := q54; omega
  have ne74 : ¬ (Value.slice a63 m64 c65).ownBlock = some (w25.heap.size) := fun e => by have h1 := (World.ownsRow.lt o60 _ e).1; have h2 := q55; omega
  have ne75 : ¬ (Value.slice a66 m67 c68).ownBlock = some (w.heap.size) := fun e => by have h1 := (World.ownsRow.lt o61 _ e).1; have h2 := q54; omega
  have ne76 : ¬ (Value.slice a66 m67 c68).ownBlock = some (w25.heap.size) := fun e => by have h1 := (World.ownsRow.lt o61 _ e).1; have h2 := q55; omega
  have k77 : w56.cell? ⟨w.heap.size, 0, none⟩ = some (Value.slice ad_aA0 x_aA0.length cap_aA0) := bx_aA.2 0 (by simp)
  have k78 : w56.cell? ⟨w.heap.size, 1, none⟩ = some (Value.slice ad_aA1 x_aA1.length cap_aA1) := bx_aA.2 1 (by simp)
  have k79 : w56.cell? ⟨w25.heap.size, 0, none⟩ = some ((Value.slice a34 m35 c36)) := bx49.2 0 (by simp)
  have k80 : w56.cell? ⟨w25.heap.size, 1, none⟩ = some ((Value.slice a37 m38 c39)) := bx49.2 1 (by simp)
  obtain ⟨X81, hX82⟩ : ∃ X, w56.alloc (.cells #[(Value.slice a63 m64 c65), (Value.slice a66 m67 c68)] 30) = X := ⟨_, rfl⟩
  have bX83 : Below w56.heap.size w56 X81 := by rw [← hX82]; exact (Below.refl _ _).alloc (Nat.le_refl _) _
  have ne84 : ¬ (Value.slice a63 m64 c65).ownBlock = some (w56.heap.size) := fun e => by have h1 := (World.ownsRow.lt o60 _ e).2; omega
  have ne85 : ¬ (Value.slice a66 m67 c68).ownBlock = some (w56.heap.size) := fun e => by have h1 := (World.ownsRow.lt o61 _ e).2; omega
  have t86 := Below.trans t69 (Below.mono bX83 t69.size)
  have s87 := Below.trans s70 (Below.mono bX83 s70.size)
  replace o60 := owns_below o60 bX83
  replace o61 := owns_below o61 bX83
  replace bx_aA := Box.below bx_aA bX83
  replace bx49 := Box.below bx49 bX83
  have bx88 : Box X81 (w56.heap.size) [(Value.slice a63 m64 c65), (Value.slice a66 m67 c68)] := by rw [← hX82]; exact Box.alloc _ _ _
  have k89 : X81.cell? ⟨w.heap.size, 0, none⟩ = some (Value.slice ad_aA0 x_aA0.length cap_aA0) := bx_aA.2 0 (by simp)
  have k90 : X81.cell? ⟨w.heap.size, 1, none⟩ = some (Value.slice ad_aA1 x_aA1.length cap_aA1) := bx_aA.2 1 (by simp)
  have k91 : X81.cell? ⟨w25.heap.size, 0, none⟩ = some ((Value.slice a34 m35 c36)) := bx49.2 0 (by simp)
  have k92 : X81.cell? ⟨w25.heap.size, 1, none⟩ = some ((Value.slice a37 m38 c39)) := bx49.2 1 (by simp)
  have k93 : X81.cell? ⟨w56.heap.size, 0, none⟩ = some ((Value.slice a63 m64 c65)) := bx88.2 0 (by simp)
  have k94 : X81.cell? ⟨w56.heap.size, 1, none⟩ = some ((Value.slice a66 m67 c68)) := bx88.2 1 (by simp)
  go_wp2_with fail
  clear k77 k78 k79 k80 k89 k90 k91 k92 k93 k94 hX82
  have p95 := o60
  have p96 := o61
  have q97 := (bx_aA).1
  have q98 := (bx49).1
  have q99 := (bx88).1
  refine (impl_Take _ x_aA0 _ x_aA1 _ (Flat.of_owns o60) hx_aA0 (Flat.of_owns o61) hx_aA1).mono ?_
  rintro e w100 ⟨v102, v105, rfl, o103, l104, o106, l107, ap108, b101⟩
  obtain ⟨a109, m110, c111, rfl⟩ := owns_form3 o103
  obtain ⟨a112, m113, c114, rfl⟩ := OwnsAt.form3 o106
  have t115 := Below.trans t86 (Below.mono b101 t86.size)
  have s116 := Below.trans s87 (Below.mono b101 s87.size)
  replace o60 := owns_below o60 b101
  replace o61 := owns_below o61 b101
  replace bx_aA := Box.below bx_aA b101
  replace bx49 := Box.below bx49 b101
  replace bx88 := Box.below bx88 b101
  have tb117 := Below.size t86
  have hb118 := Below.size s87
  have ap119 := apart p95 (Nat.le_refl _) o103
  have ap120 := apart p96 (Nat.le_refl _) o103
  have ne121 : ¬ (Value.slice a109 m110 c111).ownBlock = some (w.heap.size) := fun e => by have h1 := (World.ownsRow.lt o103 _ e).1; have h2 := q97; omega
  have ne122 : ¬ (Value.slice a109 m110 c111).ownBlock = some (w25.heap.size) := fun e => by have h1 := (World.ownsRow.lt o103 _ e).1; have h2 := q98; omega
  have ne123 : ¬ (Value.slice a109 m110 c111).ownBlock = some (w56.heap.size) := fun e => by have h1 := (World.ownsRow.lt o103 _ e).1; have h2 := q99; omega
  have ap124 := apartAt (World.ownsRow.lt p95) (Nat.le_refl _) (OwnsAt.lt o106)
  have ap125 := apartAt (World.ownsRow.lt p96) (Nat.le_refl _) (OwnsAt.lt o106)
  have ne126 : ¬ (Value.slice a112 m113 c114).ownBlock = some (w.heap.size) := fun e => by have h1 := (OwnsAt.lt o106 _ e).1; have h2 := q97; omega
  have ne127 : ¬ (Value.slice a112 m113 c114).ownBlock = some (w25.heap.size) := fun e => by have h1 := (OwnsAt.lt o106 _ e).1; have h2 := q98; omega
  have ne128 : ¬ (Value.slice a112 m113 c114).ownBlock = some (w56.heap.size) := fun e => by have h1 := (OwnsAt.lt o106 _ e).1; have h2 := q99; omega
  have k129 : w100.cell? ⟨w.heap.size, 0, none⟩ = some (Value.slice ad_aA0 x_aA0.length cap_aA0) := bx_aA.2 0 (by simp)
  have k130 : w100.cell? ⟨w.heap.size, 1, none⟩ = some (Value.slice ad_aA1 x_aA1.length cap_aA1) := bx_aA.2 1 (by simp)
  have k131 : w100.cell? ⟨w25.heap.size, 0, none⟩ = some ((Value.slice a34 m35 c36)) := bx49.2 0 (by simp)
  have k132 : w100.cell? ⟨w25.heap.size, 1, none⟩ = some ((Value.slice a37 m38 c39)) := bx49.2 1 (by simp)
  have k133 : w100.cell? ⟨w56.heap.size, 0, none⟩ = some ((Value.slice a63 m64 c65)) := bx88.2 0 (by simp)
  have k134 : w100.cell? ⟨w56.heap.size, 1, none⟩ = some ((Value.slice a66 m67 c68)) := bx88.2 1 (by simp)
  obtain ⟨X135, hX136⟩ : ∃ X, w100.alloc (.cells #[(Value.slice a109 m110 c111), (Value.slice a112 m113 c114)] 30) = X := ⟨_, rfl⟩
  have bX137 : Below w100.heap.size w100 X135 := by rw [← hX136]; exact (Below.refl _ _).alloc (Nat.le_refl _) _
  have ne138 : ¬ (Value.slice a63 m64 c65).ownBlock = some (w100.heap.size) := fun e => by have h1 := (World.ownsRow.lt o60 _ e).2; omega
  have ne139 : ¬ (Value.slice a66 m67 c68).ownBlock = some (w100.heap.size) := fun e => by have h1 := (World.ownsRow.lt o61 _ e).2; omega
  have ne140 : ¬ (Value.slice a109 m110 c111).ownBlock = some (w100.heap.size) := fun e => by have h1 := (World.ownsRow.lt o103 _ e).2; omega
  have ne141 : ¬ (Value.slice a112 m113 c114).ownBlock = some (w100.heap.size) := fun e => by have h1 := (OwnsAt.lt o106 _ e).2; omega
  have t142 := Below.trans t115 (Below.mono bX137 t115.size)
  have s143 := Below.trans s116 (Below.mono bX137 s116.size)
  replace o60 := owns_below o60 bX137
  replace o61 := owns_below o61 bX137
  replace o103 := owns_below o103 bX137
  replace o106 := OwnsAt.below o106 bX137
  replace bx_aA := Box.below bx_aA bX137
  replace bx49 := Box.below bx49 bX137
  replace bx88 := Box.below bx88 bX137
  have bx144 : Box X135 (w100.heap.size) [(Value.slice a109 m110 c111), (Value.slice a112 m113 c114)] := by rw [← hX136]; exact Box.alloc _ _ _
  have k145 : X135.cell? ⟨w.heap.size, 0, none⟩ = some (Value.slice ad_aA0 x_aA0.length cap_aA0) := bx_aA.2 0 (by simp)
  have k146 : X135.cell? ⟨w.heap.size, 1, none⟩ = some (Value.slice ad_aA1 x_aA1.length cap_aA1) := bx_aA.2 1 (by simp)
  have k147 : X135.cell? ⟨w25.heap.size, 0, none⟩ = some ((Value.slice a34 m35 c36)) := bx49.2 0 (by simp)
  have k148 : X135.cell? ⟨w25.heap.size, 1, none⟩ = some ((Value.slice a37 m38 c39)) := bx49.2 1 (by simp)
  have k149 : X135.cell? ⟨w56.heap.size, 0, none⟩ = some ((Value.slice a63 m64 c65)) := bx88.2 0 (by simp)
  have k150 : X135.cell? ⟨w56.heap.size, 1, none⟩ = some ((Value.slice a66 m67 c68)) := bx88.2 1 (by simp)
  have k151 : X135.cell? ⟨w100.heap.size, 0, none⟩ = some ((Value.slice a109 m110 c111)) := bx144.2 0 (by simp)
  have k152 : X135.cell? ⟨w100.heap.size, 1, none⟩ = some ((Value.slice a112 m113 c114)) := bx144.2 1 (by simp)
  go_wp2_with fail
  clear k129 k130 k131 k132 k133 k134 k145 k146 k147 k148 k149 k150 k151 k152 hX136
  refine (eqArena_c _ _ _ _ _ _ _ (Flat.of_owns o103) (Flat.of_at o106) (FlatB.flat (FlatB.below o28 s143) s143.size) (FlatB.flat (FlatB.below o31 s143) s143.size)).mono ?_
  rintro e w153 ⟨rfl, b154⟩
  have t155 := Below.trans t142 (Below.mono b154 t142.size)
  have s156 := Below.trans s143 (Below.mono b154 s143.size)
  replace o60 := owns_below o60 b154
  replace o61 := owns_below o61 b154
  replace o103 := owns_below o103 b154
  replace o106 := OwnsAt.below o106 b154
  replace bx_aA := Box.below bx_aA b154
  replace bx49 := Box.below bx49 b154
  replace bx88 := Box.below bx88 b154
  replace bx144 := Box.below bx144 b154
  have k157 : w153.cell? ⟨w.heap.size, 0, none⟩ = some (Value.slice ad_aA0 x_aA0.length cap_aA0) := bx_aA.2 0 (by simp)
  have k158 : w153.cell? ⟨w.heap.size, 1, none⟩ = some (Value.slice ad_aA1 x_aA1.length cap_aA1) := bx_aA.2 1 (by simp)
  have k159 : w153.cell? ⟨w25.heap.size, 0, none⟩ = some ((Value.slice a34 m35 c36)) := bx49.2 0 (by simp)
  have k160 : w153.cell? ⟨w25.heap.size, 1, none⟩ = some ((Value.slice a37 m38 c39)) := bx49.2 1 (by simp)
  have k161 : w153.cell? ⟨w56.heap.size, 0, none⟩ = some ((Value.slice a63 m64 c65)) := bx88.2 0 (by simp)
  have k162 : w153.cell? ⟨w56.heap.size, 1, none⟩ = some ((Value.slice a66 m67 c68)) := bx88.2 1 (by simp)
  have k163 : w153.cell? ⟨w100.heap.size, 0, none⟩ = some ((Value.slice a109 m110 c111)) := bx144.2 0 (by simp)
  have k164 : w153.cell? ⟨w100.heap.size, 1, none⟩ = some ((Value.slice a112 m113 c114)) := bx144.2 1 (by simp)
  go_wp2_with fail
  clear k157 k158 k159 k160 k161 k162 k163 k164
  have lt176 := (bx_aA).1
  have lt177 := (bx49).1
  have lt178 := (bx88).1
  have lt179 := (bx144).1
  have k180 : w153.cell? ⟨w.heap.size, 0, none⟩ = some (Value.slice ad_aA0 x_aA0.length cap_aA0) := bx_aA.2 0 (by simp)
  have k181 : w153.cell? ⟨w.heap.size, 1, none⟩ = some (Value.slice ad_aA1 x_aA1.length cap_aA1) := bx_aA.2 1 (by simp)
  have k182 : w153.cell? ⟨w25.heap.size, 0, none⟩ = some ((Value.slice a34 m35 c36)) := bx49.2 0 (by simp)
  have k183 : w153.cell? ⟨w25.heap.size, 1, none⟩ = some ((Value.slice a37 m38 c39)) := bx49.2 1 (by simp)
  have k184 : w153.cell? ⟨w56.heap.size, 0, none⟩ = some ((Value.slice a63 m64 c65)) := bx88.2 0 (by simp)
  have k185 : w153.cell? ⟨w56.heap.size, 1, none⟩ = some ((Value.slice a66 m67 c68)) := bx88.2 1 (by simp)
  have k186 : w153.cell? ⟨w100.heap.size, 0, none⟩ = some ((Value.slice a109 m110 c111)) := bx144.2 0 (by simp)
  have k187 : w153.cell? ⟨w100.heap.size, 1, none⟩ = some ((Value.slice a112 m113 c114)) := bx144.2 1 (by simp)
  go_region_held3 (fun w' => Below w153.heap.size w153 w' ∧ w153.heap.size ≤ w'.heap.size ∧ w'.cell? ⟨w.heap.size, 0, none⟩ = some (Value.slice ad_aA0 x_aA0.length cap_aA0) ∧ w'.cell? ⟨w.heap.size, 1, none⟩ = some (Value.slice ad_aA1 x_aA1.length cap_aA1) ∧ w'.cell? ⟨w25.heap.size, 0, none⟩ = some ((Value.slice a34 m35 c36)) ∧ w'.cell? ⟨w25.heap.size, 1, none⟩ = some ((Value.slice a37 m38 c39)) ∧ w'.cell? ⟨w56.heap.size, 0, none⟩ = some ((Value.slice a63 m64 c65)) ∧ w'.cell? ⟨w56.heap.size, 1, none⟩ = some ((Value.slice a66 m67 c68)) ∧ w'.cell? ⟨w100.heap.size, 0, none⟩ = some ((Value.slice a109 m110 c111)) ∧ w'.cell? ⟨w100.heap.size, 1, none⟩ = some ((Value.slice a112 m113 c114)))
    (first | exact ⟨(Below.refl _ _).drew, Nat.le_refl _, k180, k181, k182, k183, k184, k185, k186, k187⟩ | exact keepBox8 (by omega) ‹_› ‹_›)
    (first
    | (go_at_call 13; refine (toArena_c _ x_aA0 _ x_aA1 _ hx_aA0 hx_aA1 (Flat.below (FlatB.flat (FlatB.below h_aA0 t155) t155.size) (by first | exact (Below.refl _ _).drew | exact And.left ‹_›)) (Flat.below (FlatB.flat (FlatB.below h_aA1 t155) t155.size) (by first | exact (Below.refl _ _).drew | exact And.left ‹_›))).mono ?_; rintro e w165 ⟨v167, v168, rfl, o169, o170, ap171, b166⟩)
    | (go_at_call 15; refine (eqArena_c _ _ _ _ _ _ _ (Flat.below (Flat.below (Flat.of_owns o60) ((Below.refl _ _).drew : Below w153.heap.size w153 w153.drew)) b166) (Flat.below (Flat.below (Flat.of_owns o61) ((Below.refl _ _).drew : Below w153.heap.size w153 w153.drew)) b166) (Flat.of_owns o169) (Flat.of_owns o170)).mono ?_; rintro e w172 ⟨rfl, b173⟩))
  clear k180 k181 k182 k183 k184 k185 k186 k187
  have d188 : Below w153.heap.size w153 w153.drew := (Below.refl _ _).drew
  have t189 := Below.trans t155 (Below.mono d188 t155.size)
  have s190 := Below.trans s156 (Below.mono d188 s156.size)
  replace o60 := owns_below o60 d188
  replace o61 := owns_below o61 d188
  replace o103 := owns_below o103 d188
  replace o106 := OwnsAt.below o106 d188
  replace bx_aA := Box.below bx_aA d188
  replace bx49 := Box.below bx49 d188
  replace bx88 := Box.below bx88 d188
  replace bx144 := Box.below bx144 d188
  have t191 := Below.trans t189 (Below.mono b166 t189.size)
  have s192 := Below.trans s190 (Below.mono b166 s190.size)
  replace o60 := owns_below o60 b166
  replace o61 := owns_below o61 b166
  replace o103 := owns_below o103 b166
  replace o106 := OwnsAt.below o106 b166
  replace bx_aA := Box.below bx_aA b166
  replace bx49 := Box.below bx49 b166
  replace bx88 := Box.below bx88 b166
  replace bx144 := Box.below bx144 b166
  have t193 := Below.trans t191 (Below.mono b173 t191.size)
  have s194 := Below.trans s192 (Below.mono b173 s192.size)
  replace o60 := owns_below o60 b173
  replace o61 := owns_below o61 b173
  replace o103 := owns_below o103 b173
  replace o106 := OwnsAt.below o106 b173
  replace bx_aA := Box.below bx_aA b173
  replace bx49 := Box.below bx49 b173
  replace bx88 := Box.below bx88 b173
  replace bx144 := Box.below bx144 b173
  have k195 : w172.cell? ⟨w.heap.size, 0, none⟩ = some (Value.slice ad_aA0 x_aA0.length cap_aA0) := bx_aA.2 0 (by simp)
  have k196 : w172.cell? ⟨w.heap.size, 1, none⟩ = some (Value.slice ad_aA1 x_aA1.length cap_aA1) := bx_aA.2 1 (by simp)
  have k197 : w172.cell? ⟨w25.heap.size, 0, none⟩ = some ((Value.slice a34 m35 c36)) := bx49.2 0 (by simp)
  have k198 : w172.cell? ⟨w25.heap.size, 1, none⟩ = some ((Value.slice a37 m38 c39)) := bx49.2 1 (by simp)
  have k199 : w172.cell? ⟨w56.heap.size, 0, none⟩ = some ((Value.slice a63 m64 c65)) := bx88.2 0 (by simp)
  have k200 : w172.cell? ⟨w56.heap.size, 1, none⟩ = some ((Value.slice a66 m67 c68)) := bx88.2 1 (by simp)
  have k201 : w172.cell? ⟨w100.heap.size, 0, none⟩ = some ((Value.slice a109 m110 c111)) := bx144.2 0 (by simp)
  have k202 : w172.cell? ⟨w100.heap.size, 1, none⟩ = some ((Value.slice a112 m113 c114)) := bx144.2 1 (by simp)
  go_wp2_with fail
  clear k195 k196 k197 k198 k199 k200 k201 k202
  refine (markArena_c _ _ _ _ _ _ _ _ _ (by omega) (by omega) (by omega) (by omega) o60 o61 ⟨ap62.1, ap62.2⟩).mono ?_
  rintro e w203 ⟨z208, rfl, o206, o207, g204, g205⟩
  have t209 := Below.trans t193 (below_of_mark2 o60 g204 tb71 (Below.size t193))
  have s210 := Below.trans s194 (below_of_mark2 o60 g204 hb72 (Below.size s194))
  replace o103 := World.ownsRow.kept o103 g204 ap119.2
  replace o106 := OwnsAt.kept o106 g204 ap124.2
  replace bx_aA := Box.grown bx_aA g204 ne73
  replace bx49 := Box.grown bx49 g204 ne74
  replace bx88 := Box.grown bx88 g204 ne84
  replace bx144 := Box.grown bx144 g204 ne138
  have t211 := Below.trans t209 (below_of_mark2 o61 g205 tb71 (Below.size t209))
  have s212 := Below.trans s210 (below_of_mark2 o61 g205 hb72 (Below.size s210))
  replace o103 := World.ownsRow.kept o103 g205 ap120.2
  replace o106 := OwnsAt.kept o106 g205 ap125.2
  replace bx_aA := Box.grown bx_aA g205 ne75
  replace bx49 := Box.grown bx49 g205 ne76
  replace bx88 := Box.grown bx88 g205 ne85
  replace bx144 := Box.grown bx144 g205 ne139
  have k213 : w203.cell? ⟨w.heap.size, 0, none⟩ = some (Value.slice ad_aA0 x_aA0.length cap_aA0) := bx_aA.2 0 (by simp)
  have k214 : w203.cell? ⟨w.heap.size, 1, none⟩ = some (Value.slice ad_aA1 x_aA1.length cap_aA1) := bx_aA.2 1 (by simp)
  have k215 : w203.cell? ⟨w25.heap.size, 0, none⟩ = some ((Value.slice a34 m35 c36)) := bx49.2 0 (by simp)
  have k216 : w203.cell? ⟨w25.heap.size, 1, none⟩ = some ((Value.slice a37 m38 c39)) := bx49.2 1 (by simp)
  have k217 : w203.cell? ⟨w56.heap.size, 0, none⟩ = some ((Value.slice a63 m64 c65)) := bx88.2 0 (by simp)
  have k218 : w203.cell? ⟨w56.heap.size, 1, none⟩ = some ((Value.slice a66 m67 c68)) := bx88.2 1 (by simp)
  have k219 : w203.cell? ⟨w100.heap.size, 0, none⟩ = some ((Value.slice a109 m110 c111)) := bx144.2 0 (by simp)
  have k220 : w203.cell? ⟨w100.heap.size, 1, none⟩ = some ((Value.slice a112 m113 c114)) := bx144.2 1 (by simp)
  go_wp2_with fail
  clear k213 k214 k215 k216 k217 k218 k219 k220
  refine (eqArena_c _ _ _ _ _ _ _ (Flat.of_owns o103) (Flat.of_at o106) (FlatB.flat (FlatB.below o28 s212) s212.size) (FlatB.flat (FlatB.below o31 s212) s212.size)).mono ?_
  rintro e w221 ⟨rfl, b222⟩
  have t223 := Below.trans t211 (Below.mono b222 t211.size)
  have s224 := Below.trans s212 (Below.mono b222 s212.size)
  replace o206 := owns_below o206 b222
  replace o207 := owns_below o207 b222
  replace o103 := owns_below o103 b222
  replace o106 := OwnsAt.below o106 b222
  replace bx_aA := Box.below bx_aA b222
  replace bx49 := Box.below bx49 b222
  replace bx88 := Box.below bx88 b222
  replace bx144 := Box.below bx144 b222
  have k225 : w221.cell? ⟨w.heap.size, 0, none⟩ = some (Value.slice ad_aA0 x_aA0.length cap_aA0) := bx_aA.2 0 (by simp)
  have k226 : w221.cell? ⟨w.heap.size, 1, none⟩ = some (Value.slice ad_aA1 x_aA1.length cap_aA1) := bx_aA.2 1 (by simp)
  have k227 : w221.cell? ⟨w25.heap.size, 0, none⟩ = some ((Value.slice a34 m35 c36)) := bx49.2 0 (by simp)
  have k228 : w221.cell? ⟨w25.heap.size, 1, none⟩ = some ((Value.slice a37 m38 c39)) := bx49.2 1 (by simp)
  have k229 : w221.cell? ⟨w56.heap.size, 0, none⟩ = some ((Value.slice a63 m64 c65)) := bx88.2 0 (by simp)
  have k230 : w221.cell? ⟨w56.heap.size, 1, none⟩ = some ((Value.slice a66 m67 c68)) := bx88.2 1 (by simp)
  have k231 : w221.cell? ⟨w100.heap.size, 0, none⟩ = some ((Value.slice a109 m110 c111)) := bx144.2 0 (by simp)
  have k232 : w221.cell? ⟨w100.heap.size, 1, none⟩ = some ((Value.slice a112 m113 c114)) := bx144.2 1 (by simp)
  go_wp2_with fail
  clear k225 k226 k227 k228 k229 k230 k231 k232
  refine (markArena_at _ _ _ _ _ _ _ _ _ (by omega) (by omega) (by omega) (by omega) o103 o106 ⟨ap108.1, ap108.2⟩).mono ?_
  rintro e w233 ⟨z238, rfl, o236, o237, g234, g235⟩
  have t239 := Below.trans t223 (below_of_mark2 o103 g234 tb117 (Below.size t223))
  have s240 := Below.trans s224 (below_of_mark2 o103 g234 hb118 (Below.size s224))
  replace o206 := World.ownsRow.kept o206 g234 ap119.1
  replace o207 := World.ownsRow.kept o207 g234 ap120.1
  replace bx_aA := Box.grown bx_aA g234 ne121
  replace bx49 := Box.grown bx49 g234 ne122
  replace bx88 := Box.grown bx88 g234 ne123
  replace bx144 := Box.grown bx144 g234 ne140
  have t241 := Below.trans t239 (below_of_lt (OwnsAt.lt o106) g235 tb117 (Below.size t239))
  have s242 := Below.trans s240 (below_of_lt (OwnsAt.lt o106) g235 hb118 (Below.size s240))
  replace o206 := World.ownsRow.kept o206 g235 ap124.1
  replace o207 := World.ownsRow.kept o207 g235 ap125.1
  replace bx_aA := Box.grown bx_aA g235 ne126
  replace bx49 := Box.grown bx49 g235 ne127
  replace bx88 := Box.grown bx88 g235 ne128
  replace bx144 := Box.grown bx144 g235 ne141
  have k243 : w233.cell? ⟨w.heap.size, 0, none⟩ = some (Value.slice ad_aA0 x_aA0.length cap_aA0) := bx_aA.2 0 (by simp)
  have k244 : w233.cell? ⟨w.heap.size, 1, none⟩ = some (Value.slice ad_aA1 x_aA1.length cap_aA1) := bx_aA.2 1 (by simp)
  have k245 : w233.cell? ⟨w25.heap.size, 0, none⟩ = some ((Value.slice a34 m35 c36)) := bx49.2 0 (by simp)
  have k246 : w233.cell? ⟨w25.heap.size, 1, none⟩ = some ((Value.slice a37 m38 c39)) := bx49.2 1 (by simp)
  have k247 : w233.cell? ⟨w56.heap.size, 0, none⟩ = some ((Value.slice a63 m64 c65)) := bx88.2 0 (by simp)
  have k248 : w233.cell? ⟨w56.heap.size, 1, none⟩ = some ((Value.slice a66 m67 c68)) := bx88.2 1 (by simp)
  have k249 : w233.cell? ⟨w100.heap.size, 0, none⟩ = some ((Value.slice a109 m110 c111)) := bx144.2 0 (by simp)
  have k250 : w233.cell? ⟨w100.heap.size, 1, none⟩ = some ((Value.slice a112 m113 c114)) := bx144.2 1 (by simp)
  go_wp2_with fail
  clear k243 k244 k245 k246 k247 k248 k249 k250
  refine (heldArena_c _ _ _ _ _ _ (by omega) (by omega) (by omega) (by omega) (Flat.of_owns o236) (Flat.of_at o237)).mono ?_
  rintro e w251 ⟨rfl, b252⟩
  have t253 := Below.trans t241 (Below.mono b252 t241.size)
  have s254 := Below.trans s242 (Below.mono b252 s242.size)
  replace o206 := owns_below o206 b252
  replace o207 := owns_below o207 b252
  replace o236 := owns_below o236 b252
  replace o237 := OwnsAt.below o237 b252
  replace bx_aA := Box.below bx_aA b252
  replace bx49 := Box.below bx49 b252
  replace bx88 := Box.below bx88 b252
  replace bx144 := Box.below bx144 b252
  have k255 : w251.cell? ⟨w.heap.size, 0, none⟩ = some (Value.slice ad_aA0 x_aA0.length cap_aA0) := bx_aA.2 0 (by simp)
  have k256 : w251.cell? ⟨w.heap.size, 1, none⟩ = some (Value.slice ad_aA1 x_aA1.length cap_aA1) := bx_aA.2 1 (by simp)
  have k257 : w251.cell? ⟨w25.heap.size, 0, none⟩ = some ((Value.slice a34 m35 c36)) := bx49.2 0 (by simp)
  have k258 : w251.cell? ⟨w25.heap.size, 1, none⟩ = some ((Value.slice a37 m38 c39)) := bx49.2 1 (by simp)
  have k259 : w251.cell? ⟨w56.heap.size, 0, none⟩ = some ((Value.slice a63 m64 c65)) := bx88.2 0 (by simp)
  have k260 : w251.cell? ⟨w56.heap.size, 1, none⟩ = some ((Value.slice a66 m67 c68)) := bx88.2 1 (by simp)
  have k261 : w251.cell? ⟨w100.heap.size, 0, none⟩ = some ((Value.slice a109 m110 c111)) := bx144.2 0 (by simp)
  have k262 : w251.cell? ⟨w100.heap.size, 1, none⟩ = some ((Value.slice a112 m113 c114)) := bx144.2 1 (by simp)
  go_wp2_with fail
  clear k255 k256 k257 k258 k259 k260 k261 k262
  refine (toArena_c _ x_aA0 _ x_aA1 _ hx_aA0 hx_aA1 (FlatB.flat (FlatB.below h_aA0 t253) t253.size) (FlatB.flat (FlatB.below h_aA1 t253) t253.size)).mono ?_
  rintro e w263 ⟨v265, v266, rfl, o267, o268, ap269, b264⟩
  obtain ⟨a270, m271, c272, rfl⟩ := owns_form3 o267
  obtain ⟨a273, m274, c275, rfl⟩ := owns_form3 o268
  have t276 := Below.trans t253 (Below.mono b264 t253.size)
  have s277 := Below.trans s254 (Below.mono b264 s254.size)
  replace o206 := owns_below o206 b264
  replace o207 := owns_below o207 b264
  replace o236 := owns_below o236 b264
  replace o237 := OwnsAt.below o237 b264
  replace bx_aA := Box.below bx_aA b264
  replace bx49 := Box.below bx49 b264
  replace bx88 := Box.below bx88 b264
  replace bx144 := Box.below bx144 b264
  have k278 : w263.cell? ⟨w.heap.size, 0, none⟩ = some (Value.slice ad_aA0 x_aA0.length cap_aA0) := bx_aA.2 0 (by simp)
  have k279 : w263.cell? ⟨w.heap.size, 1, none⟩ = some (Value.slice ad_aA1 x_aA1.length cap_aA1) := bx_aA.2 1 (by simp)
  have k280 : w263.cell? ⟨w25.heap.size, 0, none⟩ = some ((Value.slice a34 m35 c36)) := bx49.2 0 (by simp)
  have k281 : w263.cell? ⟨w25.heap.size, 1, none⟩ = some ((Value.slice a37 m38 c39)) := bx49.2 1 (by simp)
  have k282 : w263.cell? ⟨w56.heap.size, 0, none⟩ = some ((Value.slice a63 m64 c65)) := bx88.2 0 (by simp)
  have k283 : w263.cell? ⟨w56.heap.size, 1, none⟩ = some ((Value.slice a66 m67 c68)) := bx88.2 1 (by simp)
  have k284 : w263.cell? ⟨w100.heap.size, 0, none⟩ = some ((Value.slice a109 m110 c111)) := bx144.2 0 (by simp)
  have k285 : w263.cell? ⟨w100.heap.size, 1, none⟩ = some ((Value.slice a112 m113 c114)) := bx144.2 1 (by simp)
  go_wp2_with fail
  clear k278 k279 k280 k281 k282 k283 k284 k285
  have p286 := o206
  have p287 := o207
  have p288 := o236
  have p289 := o237
  have q290 := (bx_aA).1
  have q291 := (bx49).1
  have q292 := (bx88).1
  have q293 := (bx144).1
  refine (impl_Take _ x_aA0 _ x_aA1 _ (Flat.of_owns o267) hx_aA0 (Flat.of_owns o268) hx_aA1).mono ?_
  rintro e w294 ⟨v296, v299, rfl, o297, l298, o300, l301, ap302, b295⟩
  obtain ⟨a303, m304, c305, rfl⟩ := owns_form3 o297
  obtain ⟨a306, m307, c308, rfl⟩ := OwnsAt.form3 o300
  have t309 := Below.trans t276 (Below.mono b295 t276.size)
  have s310 := Below.trans s277 (Below.mono b295 s277.size)
  replace o206 := owns_below o206 b295
  replace o207 := owns_below o207 b295
  replace o236 := owns_below o236 b295
  replace o237 := OwnsAt.below o237 b295
  replace bx_aA := Box.below bx_aA b295
  replace bx49 := Box.below bx49 b295
  replace bx88 := Box.below bx88 b295
  replace bx144 := Box.below bx144 b295
  have tb311 := Below.size t276
  have hb312 := Below.size s277
  have ap313 := apart p286 (Nat.le_refl _) o297
  have ap314 := apart p287 (Nat.le_refl _) o297
  have ap315 := apart p288 (Nat.le_refl _) o297
  have ap316 := apartAt (OwnsAt.lt p289) (Nat.le_refl _) (World.ownsRow.lt o297)
  have ne317 : ¬ (Value.slice a303 m304 c305).ownBlock = some (w.heap.size) := fun e => by have h1 := (World.ownsRow.lt o297 _ e).1; have h2 := q290; omega
  have ne318 : ¬ (Value.slice a303 m304 c305).ownBlock = some (w25.heap.size) := fun e => by have h1 := (World.ownsRow.lt o297 _ e).1; have h2 := q291; omega
  have ne319 : ¬ (Value.slice a303 m304 c305).ownBlock = some (w56.heap.size) := fun e => by have h1 := (World.ownsRow.lt o297 _ e).1; have h2 := q292; omega
  have ne320 : ¬ (Value.slice a303 m304 c305).ownBlock = some (w100.heap.size) := fun e => by have h1 := (World.ownsRow.lt o297 _ e).1; have h2 := q293; omega
  have ap321 := apartAt (World.ownsRow.lt p286) (Nat.le_refl _) (OwnsAt.lt o300)
  have ap322 := apartAt (World.ownsRow.lt p287) (Nat.le_refl _) (OwnsAt.lt o300)
  have ap323 := apartAt (World.ownsRow.lt p288) (Nat.le_refl _) (OwnsAt.lt o300)
  have ap324 := apartAt (OwnsAt.lt p289) (Nat.le_refl _) (OwnsAt.lt o300)
  have ne325 : ¬ (Value.slice a306 m307 c308).ownBlock = some (w.heap.size) := fun e => by have h1 := (OwnsAt.lt o300 _ e).1; have h2 := q290; omega
  have ne326 : ¬ (Value.slice a306 m307 c308).ownBlock = some (w25.heap.size) := fun e => by have h1 := (OwnsAt.lt o300 _ e).1; have h2 := q291; omega
  have ne327 : ¬ (Value.slice a306 m307 c308).ownBlock = some (w56.heap.size) := fun e => by have h1 := (OwnsAt.lt o300 _ e).1; have h2 := q292; omega
  have ne328 : ¬ (Value.slice a306 m307 c308).ownBlock = some (w100.heap.size) := fun e => by have h1 := (OwnsAt.lt o300 _ e).1; have h2 := q293; omega
  have k329 : w294.cell? ⟨w.heap.size, 0, none⟩ = some (Value.slice ad_aA0 x_aA0.length cap_aA0) := bx_aA.2 0 (by simp)
  have k330 : w294.cell? ⟨w.heap.size, 1, none⟩ = some (Value.slice ad_aA1 x_aA1.length cap_aA1) := bx_aA.2 1 (by simp)
  have k331 : w294.cell? ⟨w25.heap.size, 0, none⟩ = some ((Value.slice a34 m35 c36)) := bx49.2 0 (by simp)
  have k332 : w294.cell? ⟨w25.heap.size, 1, none⟩ = some ((Value.slice a37 m38 c39)) := bx49.2 1 (by simp)
  have k333 : w294.cell? ⟨w56.heap.size, 0, none⟩ = some ((Value.slice a63 m64 c65)) := bx88.2 0 (by simp)
  have k334 : w294.cell? ⟨w56.heap.size, 1, none⟩ = some ((Value.slice a66 m67 c68)) := bx88.2 1 (by simp)
  have k335 : w294.cell? ⟨w100.heap.size, 0, none⟩ = some ((Value.slice a109 m110 c111)) := bx144.2 0 (by simp)
  have k336 : w294.cell? ⟨w100.heap.size, 1, none⟩ = some ((Value.slice a112 m113 c114)) := bx144.2 1 (by simp)
  obtain ⟨X337, hX338⟩ : ∃ X, w294.alloc (.cells #[(Value.slice a303 m304 c305), (Value.slice a306 m307 c308)] 30) = X := ⟨_, rfl⟩
  have bX339 : Below w294.heap.size w294 X337 := by rw [← hX338]; exact (Below.refl _ _).alloc (Nat.le_refl _) _
  have ne340 : ¬ (Value.slice a63 m64 c65).ownBlock = some (w294.heap.size) := fun e => by have h1 := (World.ownsRow.lt o206 _ e).2; omega
  have ne341 : ¬ (Value.slice a66 m67 c68).ownBlock = some (w294.heap.size) := fun e => by have h1 := (World.ownsRow.lt o207 _ e).2; omega
  have ne342 : ¬ (Value.slice a109 m110 c111).ownBlock = some (w294.heap.size) := fun e => by have h1 := (World.ownsRow.lt o236 _ e).2; omega
  have ne343 : ¬ (Value.slice a112 m113 c114).ownBlock = some (w294.heap.size) := fun e => by have h1 := (OwnsAt.lt o237 _ e).2; omega
  have ne344 : ¬ (Value.slice a303 m304 c305).ownBlock = some (w294.heap.size) := fun e => by have h1 := (World.ownsRow.lt o297 _ e).2; omega
  have ne345 : ¬ (Value.slice a306 m307 c308).ownBlock = some (w294.heap.size) := fun e => by have h1 := (OwnsAt.lt o300 _ e).2; omega
  have t346 := Below.trans t309 (Below.mono bX339 t309.size)
  have s347 := Below.trans s310 (Below.mono bX339 s310.size)
  replace o206 := owns_below o206 bX339
  replace o207 := owns_below o207 bX339
  replace o236 := owns_below o236 bX339
  replace o237 := OwnsAt.below o237 bX339
  replace o297 := owns_below o297 bX339
  replace o300 := OwnsAt.below o300 bX339
  replace bx_aA := Box.below bx_aA bX339
  replace bx49 := Box.below bx49 bX339
  replace bx88 := Box.below bx88 bX339
  replace bx144 := Box.below bx144 bX339
  have bx348 : Box X337 (w294.heap.size) [(Value.slice a303 m304 c305), (Value.slice a306 m307 c308)] := by rw [← hX338]; exact Box.alloc _ _ _
  have k349 : X337.cell? ⟨w.heap.size, 0, none⟩ = some (Value.slice ad_aA0 x_aA0.length cap_aA0) := bx_aA.2 0 (by simp)
  have k350 : X337.cell? ⟨w.heap.size, 1, none⟩ = some (Value.slice ad_aA1 x_aA1.length cap_aA1) := bx_aA.2 1 (by simp)
  have k351 : X337.cell? ⟨w25.heap.size, 0, none⟩ = some ((Value.slice a34 m35 c36)) := bx49.2 0 (by simp)
  have k352 : X337.cell? ⟨w25.heap.size, 1, none⟩ = some ((Value.slice a37 m38 c39)) := bx49.2 1 (by simp)
  have k353 : X337.cell? ⟨w56.heap.size, 0, none⟩ = some ((Value.slice a63 m64 c65)) := bx88.2 0 (by simp)
  have k354 : X337.cell? ⟨w56.heap.size, 1, none⟩ = some ((Value.slice a66 m67 c68)) := bx88.2 1 (by simp)
  have k355 : X337.cell? ⟨w100.heap.size, 0, none⟩ = some ((Value.slice a109 m110 c111)) := bx144.2 0 (by simp)
  have k356 : X337.cell? ⟨w100.heap.size, 1, none⟩ = some ((Value.slice a112 m113 c114)) := bx144.2 1 (by simp)
  have k357 : X337.cell? ⟨w294.heap.size, 0, none⟩ = some ((Value.slice a303 m304 c305)) := bx348.2 0 (by simp)
  have k358 : X337.cell? ⟨w294.heap.size, 1, none⟩ = some ((Value.slice a306 m307 c308)) := bx348.2 1 (by simp)
  go_wp2_with fail
  clear k329 k330 k331 k332 k333 k334 k335 k336 k349 k350 k351 k352 k353 k354 k355 k356 k357 k358 hX338
  refine (eqArena_c _ _ _ _ _ _ _ (Flat.of_owns o297) (Flat.of_at o300) (FlatB.flat (FlatB.below o28 s347) s347.size) (FlatB.flat (FlatB.below o31 s347) s347.size)).mono ?_
  rintro e w359 ⟨rfl, b360⟩
  have t361 := Below.trans t346 (Below.mono b360 t346.size)
  have s362 := Below.trans s347 (Below.mono b360 s347.size)
  replace o206 := owns_below o206 b360
  replace o207 := owns_below o207 b360
  replace o236 := owns_below o236 b360
  replace o237 := OwnsAt.below o237 b360
  replace o297 := owns_below o297 b360
  replace o300 := OwnsAt.below o300 b360
  replace bx_aA := Box.below bx_aA b360
  replace bx49 := Box.below bx49 b360
  replace bx88 := Box.below bx88 b360
  replace bx144 := Box.below bx144 b360
  replace bx348 := Box.below bx348 b360
  have k363 : w359.cell? ⟨w.heap.size, 0, none⟩ = some (Value.slice ad_aA0 x_aA0.length cap_aA0) := bx_aA.2 0 (by simp)
  have k364 : w359.cell? ⟨w.heap.size, 1, none⟩ = some (Value.slice ad_aA1 x_aA1.length cap_aA1) := bx_aA.2 1 (by simp)
  have k365 : w359.cell? ⟨w25.heap.size, 0, none⟩ = some ((Value.slice a34 m35 c36)) := bx49.2 0 (by simp)
  have k366 : w359.cell? ⟨w25.heap.size, 1, none⟩ = some ((Value.slice a37 m38 c39)) := bx49.2 1 (by simp)
  have k367 : w359.cell? ⟨w56.heap.size, 0, none⟩ = some ((Value.slice a63 m64 c65)) := bx88.2 0 (by simp)
  have k368 : w359.cell? ⟨w56.heap.size, 1, none⟩ = some ((Value.slice a66 m67 c68)) := bx88.2 1 (by simp)
  have k369 : w359.cell? ⟨w100.heap.size, 0, none⟩ = some ((Value.slice a109 m110 c111)) := bx144.2 0 (by simp)
  have k370 : w359.cell? ⟨w100.heap.size, 1, none⟩ = some ((Value.slice a112 m113 c114)) := bx144.2 1 (by simp)
  have k371 : w359.cell? ⟨w294.heap.size, 0, none⟩ = some ((Value.slice a303 m304 c305)) := bx348.2 0 (by simp)
  have k372 : w359.cell? ⟨w294.heap.size, 1, none⟩ = some ((Value.slice a306 m307 c308)) := bx348.2 1 (by simp)
  go_wp2_with fail
  clear k363 k364 k365 k366 k367 k368 k369 k370 k371 k372
  refine (heldArena_c _ _ _ _ _ _ (by omega) (by omega) (by omega) (by omega) (Flat.of_owns o236) (Flat.of_at o237)).mono ?_
  rintro e w373 ⟨rfl, b374⟩
  have t375 := Below.trans t361 (Below.mono b374 t361.size)
  have s376 := Below.trans s362 (Below.mono b374 s362.size)
  replace o206 := owns_below o206 b374
  replace o207 := owns_below o207 b374
  replace o236 := owns_below o236 b374
  replace o237 := OwnsAt.below o237 b374
  replace o297 := owns_below o297 b374
  replace o300 := OwnsAt.below o300 b374
  replace bx_aA := Box.below bx_aA b374
  replace bx49 := Box.below bx49 b374
  replace bx88 := Box.below bx88 b374
  replace bx144 := Box.below bx144 b374
  replace bx348 := Box.below bx348 b374
  have k377 : w373.cell? ⟨w.heap.size, 0, none⟩ = some (Value.slice ad_aA0 x_aA0.length cap_aA0) := bx_aA.2 0 (by simp)
  have k378 : w373.cell? ⟨w.heap.size, 1, none⟩ = some (Value.slice ad_aA1 x_aA1.length cap_aA1) := bx_aA.2 1 (by simp)
  have k379 : w373.cell? ⟨w25.heap.size, 0, none⟩ = some ((Value.slice a34 m35 c36)) := bx49.2 0 (by simp)
  have k380 : w373.cell? ⟨w25.heap.size, 1, none⟩ = some ((Value.slice a37 m38 c39)) := bx49.2 1 (by simp)
  have k381 : w373.cell? ⟨w56.heap.size, 0, none⟩ = some ((Value.slice a63 m64 c65)) := bx88.2 0 (by simp)
  have k382 : w373.cell? ⟨w56.heap.size, 1, none⟩ = some ((Value.slice a66 m67 c68)) := bx88.2 1 (by simp)
  have k383 : w373.cell? ⟨w100.heap.size, 0, none⟩ = some ((Value.slice a109 m110 c111)) := bx144.2 0 (by simp)
  have k384 : w373.cell? ⟨w100.heap.size, 1, none⟩ = some ((Value.slice a112 m113 c114)) := bx144.2 1 (by simp)
  have k385 : w373.cell? ⟨w294.heap.size, 0, none⟩ = some ((Value.slice a303 m304 c305)) := bx348.2 0 (by simp)
  have k386 : w373.cell? ⟨w294.heap.size, 1, none⟩ = some ((Value.slice a306 m307 c308)) := bx348.2 1 (by simp)
  go_wp2_with fail
  clear k377 k378 k379 k380 k381 k382 k383 k384 k385 k386
  try go_wp2
  go_ret
  exact ⟨rfl, hB0.trans (Below.mono t375 hB0.size)⟩

end Go.Proofs.Ytiibpgbdnbpmoaa
