/- FnExactSpent, walked. -/
import Derived.Test.YtiibpgbdnbpmoaaI2d
import Derived.Test.YtiibpgbdnbpmoaaDeep2
import Derived.Deep.RegionHeld3
import Derived.StillTailTactics
namespace Go.Proofs.Ytiibpgbdnbpmoaa
open Go.RowKit Go.Proofs Go.Own
set_option linter.unusedVariables false

set_option maxRecDepth 100000 in
set_option maxHeartbeats 8000000 in
theorem law_Spent (v_aA0 : Value) (x_aA0 : List Block) (v_aA1 : Value) (x_aA1 : List Int) (w : World) (h_aA0 : Blocks w v_aA0 x_aA0) (h_aA1 : Ints w v_aA1 x_aA1) :
    Calls Try.prog 10 #[(.agg #[v_aA0, v_aA1])] w fun e w' => e = .returned (.bool true) ∧ Below w.heap.size w w' := by
  obtain ⟨ad_aA0, cap_aA0, rfl, hl_aA0, hm_aA0⟩ := Flat.form h_aA0
  obtain ⟨ad_aA1, cap_aA1, rfl, hl_aA1, hm_aA1⟩ := Flat.form h_aA1
  obtain ⟨W1, hW1⟩ : ∃ X, w.alloc (.cells #[Value.slice ad_aA0 x_aA0.length cap_aA0, Value.slice ad_aA1 x_aA1.length cap_aA1] 25) = X := ⟨_, rfl⟩
  have hbx1 : Below w.heap.size w W1 := by rw [← hW1]; exact (Below.refl _ _).alloc (Nat.le_refl _) _
  have bx_aA : Box W1 w.heap.size [Value.slice ad_aA0 x_aA0.length cap_aA0, Value.slice ad_aA1 x_aA1.length cap_aA1] := by rw [← hW1]; exact Box.alloc _ _ _
  have hB0 : Below w.heap.size w W1 := hbx1
  replace h_aA0 := Flat.below h_aA0 hB0
  replace h_aA1 := Flat.below h_aA1 hB0
  go_enter Try.func10, Try.ntmps10
  have k1 : W1.cell? ⟨w.heap.size, 0, none⟩ = some (Value.slice ad_aA0 x_aA0.length cap_aA0) := bx_aA.2 0 (by simp)
  have k2 : W1.cell? ⟨w.heap.size, 1, none⟩ = some (Value.slice ad_aA1 x_aA1.length cap_aA1) := bx_aA.2 1 (by simp)
  go_wp2_with fail
  clear k1 k2 hW1
  have hl0_aA : 0 ≤ (1048576 : Int) := by omega
  refine (szArena_c _ _ _ _ _ _ _ _ (by omega) (by omega) (by omega) (by omega)).mono ?_
  rintro e w3 ⟨rfl, b4⟩
  by_cases big_aA : (1048576 : Int) < (x_aA0.length : Int) + (x_aA1.length : Int)
  · rw [if_pos big_aA]
    go_wp2
    go_ret
    exact ⟨rfl, hB0.trans (Below.mono (Below.trans (Below.refl _ _ : Below W1.heap.size W1 W1) (Below.mono b4 (Below.refl _ _ : Below W1.heap.size W1 W1).size)) hB0.size)⟩
  rw [if_neg big_aA]
  have t5 := Below.trans (Below.refl _ _ : Below W1.heap.size W1 W1) (Below.mono b4 (Below.refl _ _ : Below W1.heap.size W1 W1).size)
  replace bx_aA := Box.below bx_aA b4
  have k6 : w3.cell? ⟨w.heap.size, 0, none⟩ = some (Value.slice ad_aA0 x_aA0.length cap_aA0) := bx_aA.2 0 (by simp)
  have k7 : w3.cell? ⟨w.heap.size, 1, none⟩ = some (Value.slice ad_aA1 x_aA1.length cap_aA1) := bx_aA.2 1 (by simp)
  go_wp2_with fail
  clear k6 k7
  have hx_aA0 : x_aA0.length ≤ 1048576 := by omega
  have hx_aA1 : x_aA1.length ≤ 1048576 := by omega
  refine (toArena_c _ x_aA0 _ x_aA1 _ hx_aA0 hx_aA1 (FlatB.flat (FlatB.below h_aA0 t5) t5.size) (FlatB.flat (FlatB.below h_aA1 t5) t5.size)).mono ?_
  rintro e w8 ⟨v10, v11, rfl, o12, o13, ap14, b9⟩
  obtain ⟨a15, m16, c17, rfl⟩ := owns_form3 o12
  obtain ⟨a18, m19, c20, rfl⟩ := owns_form3 o13
  have t21 := Below.trans t5 (Below.mono b9 t5.size)
  replace bx_aA := Box.below bx_aA b9
  have k22 : w8.cell? ⟨w.heap.size, 0, none⟩ = some (Value.slice ad_aA0 x_aA0.length cap_aA0) := bx_aA.2 0 (by simp)
  have k23 : w8.cell? ⟨w.heap.size, 1, none⟩ = some (Value.slice ad_aA1 x_aA1.length cap_aA1) := bx_aA.2 1 (by simp)
  go_wp2_with fail
  clear k22 k23
  have q24 := (bx_aA).1
  refine (spec_Spent _ x_aA0 _ x_aA1 _ (Flat.of_owns o12) hx_aA0 (Flat.of_owns o13) hx_aA1).mono ?_
  rintro e w25 ⟨rfl, b26⟩
  have t27 := Below.trans t21 (Below.mono b26 t21.size)
  replace bx_aA := Box.below bx_aA b26
  have s28 : Below w25.heap.size w25 w25 := Below.refl _ _
  have k29 : w25.cell? ⟨w.heap.size, 0, none⟩ = some (Value.slice ad_aA0 x_aA0.length cap_aA0) := bx_aA.2 0 (by simp)
  have k30 : w25.cell? ⟨w.heap.size, 1, none⟩ = some (Value.slice ad_aA1 x_aA1.length cap_aA1) := bx_aA.2 1 (by simp)
  go_wp2_with fail
  clear k29 k30
  have q31 := (bx_aA).1
  refine (toArena_c _ x_aA0 _ x_aA1 _ hx_aA0 hx_aA1 (FlatB.flat (FlatB.below h_aA0 t27) t27.size) (FlatB.flat (FlatB.below h_aA1 t27) t27.size)).mono ?_
  rintro e w32 ⟨v34, v35, rfl, o36, o37, ap38, b33⟩
  obtain ⟨a39, m40, c41, rfl⟩ := owns_form3 o36
  obtain ⟨a42, m43, c44, rfl⟩ := owns_form3 o37
  have t45 := Below.trans t27 (Below.mono b33 t27.size)
  have s46 := Below.trans s28 (Below.mono b33 s28.size)
  replace bx_aA := Box.below bx_aA b33
  have tb47 := Below.size t27
  have hb48 := Below.size s28
  have ne49 : ¬ (Value.slice a39 m40 c41).ownBlock = some (w.heap.size) := fun e => by have h1 := (World.ownsRow.lt o36 _ e).1; have h2 := q31; omega
  have ne50 : ¬ (Value.slice a42 m43 c44).ownBlock = some (w.heap.size) := fun e => by have h1 := (World.ownsRow.lt o37 _ e).1; have h2 := q31; omega
  have k51 : w32.cell? ⟨w.heap.size, 0, none⟩ = some (Value.slice ad_aA0 x_aA0.length cap_aA0) := bx_aA.2 0 (by simp)
  have k52 : w32.cell? ⟨w.heap.size, 1, none⟩ = some (Value.slice ad_aA1 x_aA1.length cap_aA1) := bx_aA.2 1 (by simp)
  obtain ⟨X53, hX54⟩ : ∃ X, w32.alloc (.cells #[(Value.slice a39 m40 c41), (Value.slice a42 m43 c44)] 30) = X := ⟨_, rfl⟩
  have bX55 : Below w32.heap.size w32 X53 := by rw [← hX54]; exact (Below.refl _ _).alloc (Nat.le_refl _) _
  have ne56 : ¬ (Value.slice a39 m40 c41).ownBlock = some (w32.heap.size) := fun e => by have h1 := (World.ownsRow.lt o36 _ e).2; omega
  have ne57 : ¬ (Value.slice a42 m43 c44).ownBlock = some (w32.heap.size) := fun e => by have h1 := (World.ownsRow.lt o37 _ e).2; omega
  have t58 := Below.trans t45 (Below.mono bX55 t45.size)
  have s59 := Below.trans s46 (Below.mono bX55 s46.size)
  replace o36 := owns_below o36 bX55
  replace o37 := owns_below o37 bX55
  replace bx_aA := Box.below bx_aA bX55
  have bx60 : Box X53 (w32.heap.size) [(Value.slice a39 m40 c41), (Value.slice a42 m43 c44)] := by rw [← hX54]; exact Box.alloc _ _ _
  have k61 : X53.cell? ⟨w.heap.size, 0, none⟩ = some (Value.slice ad_aA0 x_aA0.length cap_aA0) := bx_aA.2 0 (by simp)
  have k62 : X53.cell? ⟨w.heap.size, 1, none⟩ = some (Value.slice ad_aA1 x_aA1.length cap_aA1) := bx_aA.2 1 (by simp)
  have k63 : X53.cell? ⟨w32.heap.size, 0, none⟩ = some ((Value.slice a39 m40 c41)) := bx60.2 0 (by simp)
  have k64 : X53.cell? ⟨w32.heap.size, 1, none⟩ = some ((Value.slice a42 m43 c44)) := bx60.2 1 (by simp)
  go_wp2_with fail
  clear k51 k52 k61 k62 k63 k64 hX54
  have p65 := o36
  have p66 := o37
  have q67 := (bx_aA).1
  have q68 := (bx60).1
  refine (impl_Spent _ x_aA0 _ x_aA1 _ (Flat.of_owns o36) hx_aA0 (Flat.of_owns o37) hx_aA1).mono ?_
  rintro e w69 ⟨rfl, b70⟩
  have t71 := Below.trans t58 (Below.mono b70 t58.size)
  have s72 := Below.trans s59 (Below.mono b70 s59.size)
  replace o36 := owns_below o36 b70
  replace o37 := owns_below o37 b70
  replace bx_aA := Box.below bx_aA b70
  replace bx60 := Box.below bx60 b70
  have tb73 := Below.size t58
  have hb74 := Below.size s59
  have k75 : w69.cell? ⟨w.heap.size, 0, none⟩ = some (Value.slice ad_aA0 x_aA0.length cap_aA0) := bx_aA.2 0 (by simp)
  have k76 : w69.cell? ⟨w.heap.size, 1, none⟩ = some (Value.slice ad_aA1 x_aA1.length cap_aA1) := bx_aA.2 1 (by simp)
  have k77 : w69.cell? ⟨w32.heap.size, 0, none⟩ = some ((Value.slice a39 m40 c41)) := bx60.2 0 (by simp)
  have k78 : w69.cell? ⟨w32.heap.size, 1, none⟩ = some ((Value.slice a42 m43 c44)) := bx60.2 1 (by simp)
  go_wp2_with fail
  clear k75 k76 k77 k78
  have lt90 := (bx_aA).1
  have lt91 := (bx60).1
  have k92 : w69.cell? ⟨w.heap.size, 0, none⟩ = some (Value.slice ad_aA0 x_aA0.length cap_aA0) := bx_aA.2 0 (by simp)
  have k93 : w69.cell? ⟨w.heap.size, 1, none⟩ = some (Value.slice ad_aA1 x_aA1.length cap_aA1) := bx_aA.2 1 (by simp)
  have k94 : w69.cell? ⟨w32.heap.size, 0, none⟩ = some ((Value.slice a39 m40 c41)) := bx60.2 0 (by simp)
  have k95 : w69.cell? ⟨w32.heap.size, 1, none⟩ = some ((Value.slice a42 m43 c44)) := bx60.2 1 (by simp)
  go_region_held3 (fun w' => Below w69.heap.size w69 w' ∧ w69.heap.size ≤ w'.heap.size ∧ w'.cell? ⟨w.heap.size, 0, none⟩ = some (Value.slice ad_aA0 x_aA0.length cap_aA0) ∧ w'.cell? ⟨w.heap.size, 1, none⟩ = some (Value.slice ad_aA1 x_aA1.length cap_aA1) ∧ w'.cell? ⟨w32.heap.size, 0, none⟩ = some ((Value.slice a39 m40 c41)) ∧ w'.cell? ⟨w32.heap.size, 1, none⟩ = some ((Value.slice a42 m43 c44)))
    (first | exact ⟨(Below.refl _ _).drew, Nat.le_refl _, k92, k93, k94, k95⟩ | exact keepBox4 (by omega) ‹_› ‹_›)
    (first
    | (go_at_call 13; refine (toArena_c _ x_aA0 _ x_aA1 _ hx_aA0 hx_aA1 (Flat.below (FlatB.flat (FlatB.below h_aA0 t71) t71.size) (by first | exact (Below.refl _ _).drew | exact And.left ‹_›)) (Flat.below (FlatB.flat (FlatB.below h_aA1 t71) t71.size) (by first | exact (Below.refl _ _).drew | exact And.left ‹_›))).mono ?_; rintro e w79 ⟨v81, v82, rfl, o83, o84, ap85, b80⟩)
    | (go_at_call 15; refine (eqArena_c _ _ _ _ _ _ _ (Flat.below (Flat.below (Flat.of_owns o36) ((Below.refl _ _).drew : Below w69.heap.size w69 w69.drew)) b80) (Flat.below (Flat.below (Flat.of_owns o37) ((Below.refl _ _).drew : Below w69.heap.size w69 w69.drew)) b80) (Flat.of_owns o83) (Flat.of_owns o84)).mono ?_; rintro e w86 ⟨rfl, b87⟩))
  clear k92 k93 k94 k95
  have d96 : Below w69.heap.size w69 w69.drew := (Below.refl _ _).drew
  have t97 := Below.trans t71 (Below.mono d96 t71.size)
  have s98 := Below.trans s72 (Below.mono d96 s72.size)
  replace o36 := owns_below o36 d96
  replace o37 := owns_below o37 d96
  replace bx_aA := Box.below bx_aA d96
  replace bx60 := Box.below bx60 d96
  have t99 := Below.trans t97 (Below.mono b80 t97.size)
  have s100 := Below.trans s98 (Below.mono b80 s98.size)
  replace o36 := owns_below o36 b80
  replace o37 := owns_below o37 b80
  replace bx_aA := Box.below bx_aA b80
  replace bx60 := Box.below bx60 b80
  have t101 := Below.trans t99 (Below.mono b87 t99.size)
  have s102 := Below.trans s100 (Below.mono b87 s100.size)
  replace o36 := owns_below o36 b87
  replace o37 := owns_below o37 b87
  replace bx_aA := Box.below bx_aA b87
  replace bx60 := Box.below bx60 b87
  have k103 : w86.cell? ⟨w.heap.size, 0, none⟩ = some (Value.slice ad_aA0 x_aA0.length cap_aA0) := bx_aA.2 0 (by simp)
  have k104 : w86.cell? ⟨w.heap.size, 1, none⟩ = some (Value.slice ad_aA1 x_aA1.length cap_aA1) := bx_aA.2 1 (by simp)
  have k105 : w86.cell? ⟨w32.heap.size, 0, none⟩ = some ((Value.slice a39 m40 c41)) := bx60.2 0 (by simp)
  have k106 : w86.cell? ⟨w32.heap.size, 1, none⟩ = some ((Value.slice a42 m43 c44)) := bx60.2 1 (by simp)
  go_wp2_with fail
  clear k103 k104 k105 k106
  try go_wp2
  go_ret
  exact ⟨rfl, hB0.trans (Below.mono t101 hB0.size)⟩

end Go.Proofs.Ytiibpgbdnbpmoaa
