/- FnExactMeets, walked. -/
import Derived.Test.YtmfepmbkgomlcaaW6
import Derived.Test.YtmfepmbkgomlcaaDeep6
import Derived.Test.YtmfepmbkgomlcaaBx
import Derived.Test.YtmfepmbkgomlcaaKeep
import Derived.Deep.RegionHeld3
import Derived.StillTailTactics
namespace Go.Proofs.Ytmfepmbkgomlcaa
set_option maxRecDepth 100000
open Go.RowKit Go.Proofs Go.Own
set_option linter.unusedVariables false

set_option maxRecDepth 100000 in
set_option maxHeartbeats 8000000 in
theorem law_Meets (s_aA0 : Int) (s_aA1 : Int) (v_aA2 : Value) (x_aA2 : List Entry) (s_aB0 : Int) (s_aB1 : Int) (v_aB2 : Value) (x_aB2 : List Entry) (w : World) (h_aA2 : Entrys w v_aA2 x_aA2) (h_aB2 : Entrys w v_aB2 x_aB2) :
    Calls Try.prog 9 #[(.agg #[.int .i64 s_aA0, .int .i64 s_aA1, v_aA2]), (.agg #[.int .i64 s_aB0, .int .i64 s_aB1, v_aB2])] w fun e w' => e = .returned (.bool true) ∧ Below w.heap.size w w' := by
  obtain ⟨ad_aA2, cap_aA2, rfl, hl_aA2, hm_aA2⟩ := Flat.form h_aA2
  obtain ⟨ad_aB2, cap_aB2, rfl, hl_aB2, hm_aB2⟩ := Flat.form h_aB2
  obtain ⟨W1, hW1⟩ : ∃ X, w.alloc (.cells #[Value.int .i64 s_aA0, Value.int .i64 s_aA1, Value.slice ad_aA2 x_aA2.length cap_aA2] 38) = X := ⟨_, rfl⟩
  have hbx1 : Below w.heap.size w W1 := by rw [← hW1]; exact (Below.refl _ _).alloc (Nat.le_refl _) _
  have bx_aA : Box W1 w.heap.size [Value.int .i64 s_aA0, Value.int .i64 s_aA1, Value.slice ad_aA2 x_aA2.length cap_aA2] := by rw [← hW1]; exact Box.alloc _ _ _
  obtain ⟨W2, hW2⟩ : ∃ X, W1.alloc (.cells #[Value.int .i64 s_aB0, Value.int .i64 s_aB1, Value.slice ad_aB2 x_aB2.length cap_aB2] 38) = X := ⟨_, rfl⟩
  have hbx2 : Below W1.heap.size W1 W2 := by rw [← hW2]; exact (Below.refl _ _).alloc (Nat.le_refl _) _
  replace bx_aA := Box.below bx_aA hbx2
  have bx_aB : Box W2 W1.heap.size [Value.int .i64 s_aB0, Value.int .i64 s_aB1, Value.slice ad_aB2 x_aB2.length cap_aB2] := by rw [← hW2]; exact Box.alloc _ _ _
  have hB0 : Below w.heap.size w W2 := (hbx1.trans (hbx2.mono hbx1.size))
  replace h_aA2 := Flat.below h_aA2 hB0
  replace h_aB2 := Flat.below h_aB2 hB0
  go_enter Try.func9, Try.ntmps9
  have k1 : W2.cell? ⟨w.heap.size, 0, none⟩ = some (Value.int .i64 s_aA0) := bx_aA.2 0 (by simp)
  have k2 : W2.cell? ⟨w.heap.size, 1, none⟩ = some (Value.int .i64 s_aA1) := bx_aA.2 1 (by simp)
  have k3 : W2.cell? ⟨w.heap.size, 2, none⟩ = some (Value.slice ad_aA2 x_aA2.length cap_aA2) := bx_aA.2 2 (by simp)
  have k4 : W2.cell? ⟨W1.heap.size, 0, none⟩ = some (Value.int .i64 s_aB0) := bx_aB.2 0 (by simp)
  have k5 : W2.cell? ⟨W1.heap.size, 1, none⟩ = some (Value.int .i64 s_aB1) := bx_aB.2 1 (by simp)
  have k6 : W2.cell? ⟨W1.heap.size, 2, none⟩ = some (Value.slice ad_aB2 x_aB2.length cap_aB2) := bx_aB.2 2 (by simp)
  go_wp2_with fail
  clear k1 k2 k3 k4 k5 k6 hW1 hW2
  have hl0_aA : 0 ≤ (1048576 : Int) := by omega
  refine (szDesc_c _ _ _ _ _ _ _ (by omega) (by omega) (by omega)).mono ?_
  rintro e w7 ⟨rfl, b8⟩
  by_cases big_aA : (1048576 : Int) < (x_aA2.length : Int)
  · rw [if_pos big_aA]
    go_wp2
    go_ret
    exact ⟨rfl, hB0.trans (Below.mono (Below.trans (Below.refl _ _ : Below W2.heap.size W2 W2) (Below.mono b8 (Below.refl _ _ : Below W2.heap.size W2 W2).size)) hB0.size)⟩
  rw [if_neg big_aA]
  have t9 := Below.trans (Below.refl _ _ : Below W2.heap.size W2 W2) (Below.mono b8 (Below.refl _ _ : Below W2.heap.size W2 W2).size)
  replace bx_aA := Box.below bx_aA b8
  replace bx_aB := Box.below bx_aB b8
  have k10 : w7.cell? ⟨w.heap.size, 0, none⟩ = some (Value.int .i64 s_aA0) := bx_aA.2 0 (by simp)
  have k11 : w7.cell? ⟨w.heap.size, 1, none⟩ = some (Value.int .i64 s_aA1) := bx_aA.2 1 (by simp)
  have k12 : w7.cell? ⟨w.heap.size, 2, none⟩ = some (Value.slice ad_aA2 x_aA2.length cap_aA2) := bx_aA.2 2 (by simp)
  have k13 : w7.cell? ⟨W1.heap.size, 0, none⟩ = some (Value.int .i64 s_aB0) := bx_aB.2 0 (by simp)
  have k14 : w7.cell? ⟨W1.heap.size, 1, none⟩ = some (Value.int .i64 s_aB1) := bx_aB.2 1 (by simp)
  have k15 : w7.cell? ⟨W1.heap.size, 2, none⟩ = some (Value.slice ad_aB2 x_aB2.length cap_aB2) := bx_aB.2 2 (by simp)
  go_wp2_with fail
  clear k10 k11 k12 k13 k14 k15
  have hl0_aB : 0 ≤ (1048576 : Int) - ((x_aA2.length : Int)) := by omega
  refine (szDesc_c _ _ _ _ _ _ _ (by omega) (by omega) (by omega)).mono ?_
  rintro e w16 ⟨rfl, b17⟩
  by_cases big_aB : (1048576 : Int) - ((x_aA2.length : Int)) < (x_aB2.length : Int)
  · rw [if_pos big_aB]
    go_wp2
    go_ret
    exact ⟨rfl, hB0.trans (Below.mono (Below.trans t9 (Below.mono b17 t9.size)) hB0.size)⟩
  rw [if_neg big_aB]
  have t18 := Below.trans t9 (Below.mono b17 t9.size)
  replace bx_aA := Box.below bx_aA b17
  replace bx_aB := Box.below bx_aB b17
  have k19 : w16.cell? ⟨w.heap.size, 0, none⟩ = some (Value.int .i64 s_aA0) := bx_aA.2 0 (by simp)
  have k20 : w16.cell? ⟨w.heap.size, 1, none⟩ = some (Value.int .i64 s_aA1) := bx_aA.2 1 (by simp)
  have k21 : w16.cell? ⟨w.heap.size, 2, none⟩ = some (Value.slice ad_aA2 x_aA2.length cap_aA2) := bx_aA.2 2 (by simp)
  have k22 : w16.cell? ⟨W1.heap.size, 0, none⟩ = some (Value.int .i64 s_aB0) := bx_aB.2 0 (by simp)
  have k23 : w16.cell? ⟨W1.heap.size, 1, none⟩ = some (Value.int .i64 s_aB1) := bx_aB.2 1 (by simp)
  have k24 : w16.cell? ⟨W1.heap.size, 2, none⟩ = some (Value.slice ad_aB2 x_aB2.length cap_aB2) := bx_aB.2 2 (by simp)
  go_wp2_with fail
  clear k19 k20 k21 k22 k23 k24
  have hx_aA2 : x_aA2.length ≤ 1048576 := by omega
  have hx_aB2 : x_aB2.length ≤ 1048576 := by omega
  have lt35 := (bx_aA).1
  have lt36 := (bx_aB).1
  have k37 : w16.cell? ⟨w.heap.size, 0, none⟩ = some (Value.int .i64 s_aA0) := bx_aA.2 0 (by simp)
  have k38 : w16.cell? ⟨w.heap.size, 1, none⟩ = some (Value.int .i64 s_aA1) := bx_aA.2 1 (by simp)
  have k39 : w16.cell? ⟨w.heap.size, 2, none⟩ = some (Value.slice ad_aA2 x_aA2.length cap_aA2) := bx_aA.2 2 (by simp)
  have k40 : w16.cell? ⟨W1.heap.size, 0, none⟩ = some (Value.int .i64 s_aB0) := bx_aB.2 0 (by simp)
  have k41 : w16.cell? ⟨W1.heap.size, 1, none⟩ = some (Value.int .i64 s_aB1) := bx_aB.2 1 (by simp)
  have k42 : w16.cell? ⟨W1.heap.size, 2, none⟩ = some (Value.slice ad_aB2 x_aB2.length cap_aB2) := bx_aB.2 2 (by simp)
  go_region_held3 (fun w' => Below w16.heap.size w16 w' ∧ w16.heap.size ≤ w'.heap.size ∧ w'.cell? ⟨w.heap.size, 0, none⟩ = some (Value.int .i64 s_aA0) ∧ w'.cell? ⟨w.heap.size, 1, none⟩ = some (Value.int .i64 s_aA1) ∧ w'.cell? ⟨w.heap.size, 2, none⟩ = some (Value.slice ad_aA2 x_aA2.length cap_aA2) ∧ w'.cell? ⟨W1.heap.size, 0, none⟩ = some (Value.int .i64 s_aB0) ∧ w'.cell? ⟨W1.heap.size, 1, none⟩ = some (Value.int .i64 s_aB1) ∧ w'.cell? ⟨W1.heap.size, 2, none⟩ = some (Value.slice ad_aB2 x_aB2.length cap_aB2))
    (first | exact ⟨(Below.refl _ _).drew, Nat.le_refl _, k37, k38, k39, k40, k41, k42⟩ | exact keepBox6 (by omega) ‹_› ‹_›)
    (first
    | (go_at_call 25; have hz_w29 := hq_w25; refine (toDesc_c s_aB0 s_aB1 _ x_aB2 _ hx_aB2 (Flat.below (FlatB.flat (FlatB.below h_aB2 t18) t18.size) (hq_w25))).mono ?_; rintro e w29 ⟨v31, rfl, o32, b30⟩; have hq_w29 : Below w16.heap.size w16 w29 := Below.trans (hq_w25) (Below.mono b30 (Below.size (hq_w25))))
    | (go_at_call 25; refine (toDesc_c s_aA0 s_aA1 _ x_aA2 _ hx_aA2 (Flat.below (FlatB.flat (FlatB.below h_aA2 t18) t18.size) ((Below.refl _ _).drew : Below w16.heap.size w16 w16.drew))).mono ?_; rintro e w25 ⟨v27, rfl, o28, b26⟩; have hq_w25 : Below w16.heap.size w16 w25 := Below.trans ((Below.refl _ _).drew : Below w16.heap.size w16 w16.drew) (Below.mono b26 (Below.size ((Below.refl _ _).drew : Below w16.heap.size w16 w16.drew))))
    | (go_at_call 32; refine (spec_MeetsW s_aA0 s_aA1 _ x_aA2 s_aB0 s_aB1 _ x_aB2 _ (Flat.below (Flat.of_owns o28) b30) hx_aA2 (Flat.of_owns o32) hx_aB2).mono ?_; rintro e w33 ⟨rfl, b34⟩))
  clear k37 k38 k39 k40 k41 k42
  have d43 : Below w16.heap.size w16 w16.drew := (Below.refl _ _).drew
  have t44 := Below.trans t18 (Below.mono d43 t18.size)
  replace bx_aA := Box.below bx_aA d43
  replace bx_aB := Box.below bx_aB d43
  have t45 := Below.trans t44 (Below.mono b26 t44.size)
  replace bx_aA := Box.below bx_aA b26
  replace bx_aB := Box.below bx_aB b26
  have t46 := Below.trans t45 (Below.mono b30 t45.size)
  replace bx_aA := Box.below bx_aA b30
  replace bx_aB := Box.below bx_aB b30
  have q47 := (bx_aA).1
  have q48 := (bx_aB).1
  have t49 := Below.trans t46 (Below.mono b34 t46.size)
  replace bx_aA := Box.below bx_aA b34
  replace bx_aB := Box.below bx_aB b34
  have s50 : Below w33.heap.size w33 w33 := Below.refl _ _
  have k51 : w33.cell? ⟨w.heap.size, 0, none⟩ = some (Value.int .i64 s_aA0) := bx_aA.2 0 (by simp)
  have k52 : w33.cell? ⟨w.heap.size, 1, none⟩ = some (Value.int .i64 s_aA1) := bx_aA.2 1 (by simp)
  have k53 : w33.cell? ⟨w.heap.size, 2, none⟩ = some (Value.slice ad_aA2 x_aA2.length cap_aA2) := bx_aA.2 2 (by simp)
  have k54 : w33.cell? ⟨W1.heap.size, 0, none⟩ = some (Value.int .i64 s_aB0) := bx_aB.2 0 (by simp)
  have k55 : w33.cell? ⟨W1.heap.size, 1, none⟩ = some (Value.int .i64 s_aB1) := bx_aB.2 1 (by simp)
  have k56 : w33.cell? ⟨W1.heap.size, 2, none⟩ = some (Value.slice ad_aB2 x_aB2.length cap_aB2) := bx_aB.2 2 (by simp)
  go_wp2_with fail
  clear k51 k52 k53 k54 k55 k56
  have q57 := (bx_aA).1
  have q58 := (bx_aB).1
  refine (toDesc_c s_aA0 s_aA1 _ x_aA2 _ hx_aA2 (FlatB.flat (FlatB.below h_aA2 t49) t49.size)).mono ?_
  rintro e w59 ⟨v61, rfl, o62, b60⟩
  obtain ⟨a63, m64, c65, rfl⟩ := owns_form3 o62
  have t66 := Below.trans t49 (Below.mono b60 t49.size)
  have s67 := Below.trans s50 (Below.mono b60 s50.size)
  replace bx_aA := Box.below bx_aA b60
  replace bx_aB := Box.below bx_aB b60
  have tb68 := Below.size t49
  have hb69 := Below.size s50
  have ne70 : ¬ (Value.slice a63 m64 c65).ownBlock = some (w.heap.size) := fun e => by have h1 := (World.ownsRow.lt o62 _ e).1; have h2 := q57; omega
  have ne71 : ¬ (Value.slice a63 m64 c65).ownBlock = some (W1.heap.size) := fun e => by have h1 := (World.ownsRow.lt o62 _ e).1; have h2 := q58; omega
  have k72 : w59.cell? ⟨w.heap.size, 0, none⟩ = some (Value.int .i64 s_aA0) := bx_aA.2 0 (by simp)
  have k73 : w59.cell? ⟨w.heap.size, 1, none⟩ = some (Value.int .i64 s_aA1) := bx_aA.2 1 (by simp)
  have k74 : w59.cell? ⟨w.heap.size, 2, none⟩ = some (Value.slice ad_aA2 x_aA2.length cap_aA2) := bx_aA.2 2 (by simp)
  have k75 : w59.cell? ⟨W1.heap.size, 0, none⟩ = some (Value.int .i64 s_aB0) := bx_aB.2 0 (by simp)
  have k76 : w59.cell? ⟨W1.heap.size, 1, none⟩ = some (Value.int .i64 s_aB1) := bx_aB.2 1 (by simp)
  have k77 : w59.cell? ⟨W1.heap.size, 2, none⟩ = some (Value.slice ad_aB2 x_aB2.length cap_aB2) := bx_aB.2 2 (by simp)
  obtain ⟨X78, hX79⟩ : ∃ X, w59.alloc (.cells #[Value.int .i64 s_aA0, Value.int .i64 s_aA1, (Value.slice a63 m64 c65)] 42) = X := ⟨_, rfl⟩
  have bX80 : Below w59.heap.size w59 X78 := by rw [← hX79]; exact (Below.refl _ _).alloc (Nat.le_refl _) _
  have ne81 : ¬ (Value.slice a63 m64 c65).ownBlock = some (w59.heap.size) := fun e => by have h1 := (World.ownsRow.lt o62 _ e).2; omega
  have t82 := Below.trans t66 (Below.mono bX80 t66.size)
  have s83 := Below.trans s67 (Below.mono bX80 s67.size)
  replace o62 := owns_below o62 bX80
  replace bx_aA := Box.below bx_aA bX80
  replace bx_aB := Box.below bx_aB bX80
  have bx84 : Box X78 (w59.heap.size) [Value.int .i64 s_aA0, Value.int .i64 s_aA1, (Value.slice a63 m64 c65)] := by rw [← hX79]; exact Box.alloc _ _ _
  have k85 : X78.cell? ⟨w.heap.size, 0, none⟩ = some (Value.int .i64 s_aA0) := bx_aA.2 0 (by simp)
  have k86 : X78.cell? ⟨w.heap.size, 1, none⟩ = some (Value.int .i64 s_aA1) := bx_aA.2 1 (by simp)
  have k87 : X78.cell? ⟨w.heap.size, 2, none⟩ = some (Value.slice ad_aA2 x_aA2.length cap_aA2) := bx_aA.2 2 (by simp)
  have k88 : X78.cell? ⟨W1.heap.size, 0, none⟩ = some (Value.int .i64 s_aB0) := bx_aB.2 0 (by simp)
  have k89 : X78.cell? ⟨W1.heap.size, 1, none⟩ = some (Value.int .i64 s_aB1) := bx_aB.2 1 (by simp)
  have k90 : X78.cell? ⟨W1.heap.size, 2, none⟩ = some (Value.slice ad_aB2 x_aB2.length cap_aB2) := bx_aB.2 2 (by simp)
  have k91 : X78.cell? ⟨w59.heap.size, 0, none⟩ = some (Value.int .i64 s_aA0) := bx84.2 0 (by simp)
  have k92 : X78.cell? ⟨w59.heap.size, 1, none⟩ = some (Value.int .i64 s_aA1) := bx84.2 1 (by simp)
  have k93 : X78.cell? ⟨w59.heap.size, 2, none⟩ = some ((Value.slice a63 m64 c65)) := bx84.2 2 (by simp)
  go_wp2_with fail
  clear k72 k73 k74 k75 k76 k77 k85 k86 k87 k88 k89 k90 k91 k92 k93 hX79
  have p94 := o62
  have q95 := (bx_aA).1
  have q96 := (bx_aB).1
  have q97 := (bx84).1
  refine (toDesc_c s_aB0 s_aB1 _ x_aB2 _ hx_aB2 (FlatB.flat (FlatB.below h_aB2 t82) t82.size)).mono ?_
  rintro e w98 ⟨v100, rfl, o101, b99⟩
  obtain ⟨a102, m103, c104, rfl⟩ := owns_form3 o101
  have t105 := Below.trans t82 (Below.mono b99 t82.size)
  have s106 := Below.trans s83 (Below.mono b99 s83.size)
  replace o62 := owns_below o62 b99
  replace bx_aA := Box.below bx_aA b99
  replace bx_aB := Box.below bx_aB b99
  replace bx84 := Box.below bx84 b99
  have tb107 := Below.size t82
  have hb108 := Below.size s83
  have ap109 := apart p94 (Nat.le_refl _) o101
  have ne110 : ¬ (Value.slice a102 m103 c104).ownBlock = some (w.heap.size) := fun e => by have h1 := (World.ownsRow.lt o101 _ e).1; have h2 := q95; omega
  have ne111 : ¬ (Value.slice a102 m103 c104).ownBlock = some (W1.heap.size) := fun e => by have h1 := (World.ownsRow.lt o101 _ e).1; have h2 := q96; omega
  have ne112 : ¬ (Value.slice a102 m103 c104).ownBlock = some (w59.heap.size) := fun e => by have h1 := (World.ownsRow.lt o101 _ e).1; have h2 := q97; omega
  have k113 : w98.cell? ⟨w.heap.size, 0, none⟩ = some (Value.int .i64 s_aA0) := bx_aA.2 0 (by simp)
  have k114 : w98.cell? ⟨w.heap.size, 1, none⟩ = some (Value.int .i64 s_aA1) := bx_aA.2 1 (by simp)
  have k115 : w98.cell? ⟨w.heap.size, 2, none⟩ = some (Value.slice ad_aA2 x_aA2.length cap_aA2) := bx_aA.2 2 (by simp)
  have k116 : w98.cell? ⟨W1.heap.size, 0, none⟩ = some (Value.int .i64 s_aB0) := bx_aB.2 0 (by simp)
  have k117 : w98.cell? ⟨W1.heap.size, 1, none⟩ = some (Value.int .i64 s_aB1) := bx_aB.2 1 (by simp)
  have k118 : w98.cell? ⟨W1.heap.size, 2, none⟩ = some (Value.slice ad_aB2 x_aB2.length cap_aB2) := bx_aB.2 2 (by simp)
  have k119 : w98.cell? ⟨w59.heap.size, 0, none⟩ = some (Value.int .i64 s_aA0) := bx84.2 0 (by simp)
  have k120 : w98.cell? ⟨w59.heap.size, 1, none⟩ = some (Value.int .i64 s_aA1) := bx84.2 1 (by simp)
  have k121 : w98.cell? ⟨w59.heap.size, 2, none⟩ = some ((Value.slice a63 m64 c65)) := bx84.2 2 (by simp)
  obtain ⟨X122, hX123⟩ : ∃ X, w98.alloc (.cells #[Value.int .i64 s_aB0, Value.int .i64 s_aB1, (Value.slice a102 m103 c104)] 42) = X := ⟨_, rfl⟩
  have bX124 : Below w98.heap.size w98 X122 := by rw [← hX123]; exact (Below.refl _ _).alloc (Nat.le_refl _) _
  have ne125 : ¬ (Value.slice a63 m64 c65).ownBlock = some (w98.heap.size) := fun e => by have h1 := (World.ownsRow.lt o62 _ e).2; omega
  have ne126 : ¬ (Value.slice a102 m103 c104).ownBlock = some (w98.heap.size) := fun e => by have h1 := (World.ownsRow.lt o101 _ e).2; omega
  have t127 := Below.trans t105 (Below.mono bX124 t105.size)
  have s128 := Below.trans s106 (Below.mono bX124 s106.size)
  replace o62 := owns_below o62 bX124
  replace o101 := owns_below o101 bX124
  replace bx_aA := Box.below bx_aA bX124
  replace bx_aB := Box.below bx_aB bX124
  replace bx84 := Box.below bx84 bX124
  have bx129 : Box X122 (w98.heap.size) [Value.int .i64 s_aB0, Value.int .i64 s_aB1, (Value.slice a102 m103 c104)] := by rw [← hX123]; exact Box.alloc _ _ _
  have k130 : X122.cell? ⟨w.heap.size, 0, none⟩ = some (Value.int .i64 s_aA0) := bx_aA.2 0 (by simp)
  have k131 : X122.cell? ⟨w.heap.size, 1, none⟩ = some (Value.int .i64 s_aA1) := bx_aA.2 1 (by simp)
  have k132 : X122.cell? ⟨w.heap.size, 2, none⟩ = some (Value.slice ad_aA2 x_aA2.length cap_aA2) := bx_aA.2 2 (by simp)
  have k133 : X122.cell? ⟨W1.heap.size, 0, none⟩ = some (Value.int .i64 s_aB0) := bx_aB.2 0 (by simp)
  have k134 : X122.cell? ⟨W1.heap.size, 1, none⟩ = some (Value.int .i64 s_aB1) := bx_aB.2 1 (by simp)
  have k135 : X122.cell? ⟨W1.heap.size, 2, none⟩ = some (Value.slice ad_aB2 x_aB2.length cap_aB2) := bx_aB.2 2 (by simp)
  have k136 : X122.cell? ⟨w59.heap.size, 0, none⟩ = some (Value.int .i64 s_aA0) := bx84.2 0 (by simp)
  have k137 : X122.cell? ⟨w59.heap.size, 1, none⟩ = some (Value.int .i64 s_aA1) := bx84.2 1 (by simp)
  have k138 : X122.cell? ⟨w59.heap.size, 2, none⟩ = some ((Value.slice a63 m64 c65)) := bx84.2 2 (by simp)
  have k139 : X122.cell? ⟨w98.heap.size, 0, none⟩ = some (Value.int .i64 s_aB0) := bx129.2 0 (by simp)
  have k140 : X122.cell? ⟨w98.heap.size, 1, none⟩ = some (Value.int .i64 s_aB1) := bx129.2 1 (by simp)
  have k141 : X122.cell? ⟨w98.heap.size, 2, none⟩ = some ((Value.slice a102 m103 c104)) := bx129.2 2 (by simp)
  go_wp2_with fail
  clear k113 k114 k115 k116 k117 k118 k119 k120 k121 k130 k131 k132 k133 k134 k135 k136 k137 k138 k139 k140 k141 hX123
  have p142 := o62
  have p143 := o101
  have q144 := (bx_aA).1
  have q145 := (bx_aB).1
  have q146 := (bx84).1
  have q147 := (bx129).1
  refine (impl_MeetsW s_aA0 s_aA1 _ x_aA2 s_aB0 s_aB1 _ x_aB2 _ (Flat.of_owns o62) hx_aA2 (Flat.of_owns o101) hx_aB2).mono ?_
  rintro e w148 ⟨rfl, b149⟩
  have t150 := Below.trans t127 (Below.mono b149 t127.size)
  have s151 := Below.trans s128 (Below.mono b149 s128.size)
  replace o62 := owns_below o62 b149
  replace o101 := owns_below o101 b149
  replace bx_aA := Box.below bx_aA b149
  replace bx_aB := Box.below bx_aB b149
  replace bx84 := Box.below bx84 b149
  replace bx129 := Box.below bx129 b149
  have tb152 := Below.size t127
  have hb153 := Below.size s128
  have k154 : w148.cell? ⟨w.heap.size, 0, none⟩ = some (Value.int .i64 s_aA0) := bx_aA.2 0 (by simp)
  have k155 : w148.cell? ⟨w.heap.size, 1, none⟩ = some (Value.int .i64 s_aA1) := bx_aA.2 1 (by simp)
  have k156 : w148.cell? ⟨w.heap.size, 2, none⟩ = some (Value.slice ad_aA2 x_aA2.length cap_aA2) := bx_aA.2 2 (by simp)
  have k157 : w148.cell? ⟨W1.heap.size, 0, none⟩ = some (Value.int .i64 s_aB0) := bx_aB.2 0 (by simp)
  have k158 : w148.cell? ⟨W1.heap.size, 1, none⟩ = some (Value.int .i64 s_aB1) := bx_aB.2 1 (by simp)
  have k159 : w148.cell? ⟨W1.heap.size, 2, none⟩ = some (Value.slice ad_aB2 x_aB2.length cap_aB2) := bx_aB.2 2 (by simp)
  have k160 : w148.cell? ⟨w59.heap.size, 0, none⟩ = some (Value.int .i64 s_aA0) := bx84.2 0 (by simp)
  have k161 : w148.cell? ⟨w59.heap.size, 1, none⟩ = some (Value.int .i64 s_aA1) := bx84.2 1 (by simp)
  have k162 : w148.cell? ⟨w59.heap.size, 2, none⟩ = some ((Value.slice a63 m64 c65)) := bx84.2 2 (by simp)
  have k163 : w148.cell? ⟨w98.heap.size, 0, none⟩ = some (Value.int .i64 s_aB0) := bx129.2 0 (by simp)
  have k164 : w148.cell? ⟨w98.heap.size, 1, none⟩ = some (Value.int .i64 s_aB1) := bx129.2 1 (by simp)
  have k165 : w148.cell? ⟨w98.heap.size, 2, none⟩ = some ((Value.slice a102 m103 c104)) := bx129.2 2 (by simp)
  go_wp2_with fail
  clear k154 k155 k156 k157 k158 k159 k160 k161 k162 k163 k164 k165
  have lt173 := (bx_aA).1
  have lt174 := (bx_aB).1
  have lt175 := (bx84).1
  have lt176 := (bx129).1
  have k177 : w148.cell? ⟨w.heap.size, 0, none⟩ = some (Value.int .i64 s_aA0) := bx_aA.2 0 (by simp)
  have k178 : w148.cell? ⟨w.heap.size, 1, none⟩ = some (Value.int .i64 s_aA1) := bx_aA.2 1 (by simp)
  have k179 : w148.cell? ⟨w.heap.size, 2, none⟩ = some (Value.slice ad_aA2 x_aA2.length cap_aA2) := bx_aA.2 2 (by simp)
  have k180 : w148.cell? ⟨W1.heap.size, 0, none⟩ = some (Value.int .i64 s_aB0) := bx_aB.2 0 (by simp)
  have k181 : w148.cell? ⟨W1.heap.size, 1, none⟩ = some (Value.int .i64 s_aB1) := bx_aB.2 1 (by simp)
  have k182 : w148.cell? ⟨W1.heap.size, 2, none⟩ = some (Value.slice ad_aB2 x_aB2.length cap_aB2) := bx_aB.2 2 (by simp)
  have k183 : w148.cell? ⟨w59.heap.size, 0, none⟩ = some (Value.int .i64 s_aA0) := bx84.2 0 (by simp)
  have k184 : w148.cell? ⟨w59.heap.size, 1, none⟩ = some (Value.int .i64 s_aA1) := bx84.2 1 (by simp)
  have k185 : w148.cell? ⟨w59.heap.size, 2, none⟩ = some ((Value.slice a63 m64 c65)) := bx84.2 2 (by simp)
  have k186 : w148.cell? ⟨w98.heap.size, 0, none⟩ = some (Value.int .i64 s_aB0) := bx129.2 0 (by simp)
  have k187 : w148.cell? ⟨w98.heap.size, 1, none⟩ = some (Value.int .i64 s_aB1) := bx129.2 1 (by simp)
  have k188 : w148.cell? ⟨w98.heap.size, 2, none⟩ = some ((Value.slice a102 m103 c104)) := bx129.2 2 (by simp)
  go_region_held3 (fun w' => Below w148.heap.size w148 w' ∧ w148.heap.size ≤ w'.heap.size ∧ w'.cell? ⟨w.heap.size, 0, none⟩ = some (Value.int .i64 s_aA0) ∧ w'.cell? ⟨w.heap.size, 1, none⟩ = some (Value.int .i64 s_aA1) ∧ w'.cell? ⟨w.heap.size, 2, none⟩ = some (Value.slice ad_aA2 x_aA2.length cap_aA2) ∧ w'.cell? ⟨W1.heap.size, 0, none⟩ = some (Value.int .i64 s_aB0) ∧ w'.cell? ⟨W1.heap.size, 1, none⟩ = some (Value.int .i64 s_aB1) ∧ w'.cell? ⟨W1.heap.size, 2, none⟩ = some (Value.slice ad_aB2 x_aB2.length cap_aB2) ∧ w'.cell? ⟨w59.heap.size, 0, none⟩ = some (Value.int .i64 s_aA0) ∧ w'.cell? ⟨w59.heap.size, 1, none⟩ = some (Value.int .i64 s_aA1) ∧ w'.cell? ⟨w59.heap.size, 2, none⟩ = some ((Value.slice a63 m64 c65)) ∧ w'.cell? ⟨w98.heap.size, 0, none⟩ = some (Value.int .i64 s_aB0) ∧ w'.cell? ⟨w98.heap.size, 1, none⟩ = some (Value.int .i64 s_aB1) ∧ w'.cell? ⟨w98.heap.size, 2, none⟩ = some ((Value.slice a102 m103 c104)))
    (first | exact ⟨(Below.refl _ _).drew, Nat.le_refl _, k177, k178, k179, k180, k181, k182, k183, k184, k185, k186, k187, k188⟩ | exact keepBox12 (by omega) ‹_› ‹_›)
    (first
    | (go_at_call 25; refine (toDesc_c s_aA0 s_aA1 _ x_aA2 _ hx_aA2 (Flat.below (FlatB.flat (FlatB.below h_aA2 t150) t150.size) (by first | exact (Below.refl _ _).drew | exact And.left ‹_›))).mono ?_; rintro e w166 ⟨v168, rfl, o169, b167⟩)
    | (go_at_call 27; refine (eqDesc_c _ _ _ _ _ _ (Flat.below (Flat.below (Flat.of_owns o62) ((Below.refl _ _).drew : Below w148.heap.size w148 w148.drew)) b167) (Flat.of_owns o169)).mono ?_; rintro e w170 ⟨rfl, b171⟩))
  clear k177 k178 k179 k180 k181 k182 k183 k184 k185 k186 k187 k188
  have d189 : Below w148.heap.size w148 w148.drew := (Below.refl _ _).drew
  have t190 := Below.trans t150 (Below.mono d189 t150.size)
  have s191 := Below.trans s151 (Below.mono d189 s151.size)
  replace o62 := owns_below o62 d189
  replace o101 := owns_below o101 d189
  replace bx_aA := Box.below bx_aA d189
  replace bx_aB := Box.below bx_aB d189
  replace bx84 := Box.below bx84 d189
  replace bx129 := Box.below bx129 d189
  have t192 := Below.trans t190 (Below.mono b167 t190.size)
  have s193 := Below.trans s191 (Below.mono b167 s191.size)
  replace o62 := owns_below o62 b167
  replace o101 := owns_below o101 b167
  replace bx_aA := Box.below bx_aA b167
  replace bx_aB := Box.below bx_aB b167
  replace bx84 := Box.below bx84 b167
  replace bx129 := Box.below bx129 b167
  have t194 := Below.trans t192 (Below.mono b171 t192.size)
  have s195 := Below.trans s193 (Below.mono b171 s193.size)
  replace o62 := owns_below o62 b171
  replace o101 := owns_below o101 b171
  replace bx_aA := Box.below bx_aA b171
  replace bx_aB := Box.below bx_aB b171
  replace bx84 := Box.below bx84 b171
  replace bx129 := Box.below bx129 b171
  have k196 : w170.cell? ⟨w.heap.size, 0, none⟩ = some (Value.int .i64 s_aA0) := bx_aA.2 0 (by simp)
  have k197 : w170.cell? ⟨w.heap.size, 1, none⟩ = some (Value.int .i64 s_aA1) := bx_aA.2 1 (by simp)
  have k198 : w170.cell? ⟨w.heap.size, 2, none⟩ = some (Value.slice ad_aA2 x_aA2.length cap_aA2) := bx_aA.2 2 (by simp)
  have k199 : w170.cell? ⟨W1.heap.size, 0, none⟩ = some (Value.int .i64 s_aB0) := bx_aB.2 0 (by simp)
  have k200 : w170.cell? ⟨W1.heap.size, 1, none⟩ = some (Value.int .i64 s_aB1) := bx_aB.2 1 (by simp)
  have k201 : w170.cell? ⟨W1.heap.size, 2, none⟩ = some (Value.slice ad_aB2 x_aB2.length cap_aB2) := bx_aB.2 2 (by simp)
  have k202 : w170.cell? ⟨w59.heap.size, 0, none⟩ = some (Value.int .i64 s_aA0) := bx84.2 0 (by simp)
  have k203 : w170.cell? ⟨w59.heap.size, 1, none⟩ = some (Value.int .i64 s_aA1) := bx84.2 1 (by simp)
  have k204 : w170.cell? ⟨w59.heap.size, 2, none⟩ = some ((Value.slice a63 m64 c65)) := bx84.2 2 (by simp)
  have k205 : w170.cell? ⟨w98.heap.size, 0, none⟩ = some (Value.int .i64 s_aB0) := bx129.2 0 (by simp)
  have k206 : w170.cell? ⟨w98.heap.size, 1, none⟩ = some (Value.int .i64 s_aB1) := bx129.2 1 (by simp)
  have k207 : w170.cell? ⟨w98.heap.size, 2, none⟩ = some ((Value.slice a102 m103 c104)) := bx129.2 2 (by simp)
  go_wp2_with fail
  clear k196 k197 k198 k199 k200 k201 k202 k203 k204 k205 k206 k207
  have lt215 := (bx_aA).1
  have lt216 := (bx_aB).1
  have lt217 := (bx84).1
  have lt218 := (bx129).1
  have k219 : w170.cell? ⟨w.heap.size, 0, none⟩ = some (Value.int .i64 s_aA0) := bx_aA.2 0 (by simp)
  have k220 : w170.cell? ⟨w.heap.size, 1, none⟩ = some (Value.int .i64 s_aA1) := bx_aA.2 1 (by simp)
  have k221 : w170.cell? ⟨w.heap.size, 2, none⟩ = some (Value.slice ad_aA2 x_aA2.length cap_aA2) := bx_aA.2 2 (by simp)
  have k222 : w170.cell? ⟨W1.heap.size, 0, none⟩ = some (Value.int .i64 s_aB0) := bx_aB.2 0 (by simp)
  have k223 : w170.cell? ⟨W1.heap.size, 1, none⟩ = some (Value.int .i64 s_aB1) := bx_aB.2 1 (by simp)
  have k224 : w170.cell? ⟨W1.heap.size, 2, none⟩ = some (Value.slice ad_aB2 x_aB2.length cap_aB2) := bx_aB.2 2 (by simp)
  have k225 : w170.cell? ⟨w59.heap.size, 0, none⟩ = some (Value.int .i64 s_aA0) := bx84.2 0 (by simp)
  have k226 : w170.cell? ⟨w59.heap.size, 1, none⟩ = some (Value.int .i64 s_aA1) := bx84.2 1 (by simp)
  have k227 : w170.cell? ⟨w59.heap.size, 2, none⟩ = some ((Value.slice a63 m64 c65)) := bx84.2 2 (by simp)
  have k228 : w170.cell? ⟨w98.heap.size, 0, none⟩ = some (Value.int .i64 s_aB0) := bx129.2 0 (by simp)
  have k229 : w170.cell? ⟨w98.heap.size, 1, none⟩ = some (Value.int .i64 s_aB1) := bx129.2 1 (by simp)
  have k230 : w170.cell? ⟨w98.heap.size, 2, none⟩ = some ((Value.slice a102 m103 c104)) := bx129.2 2 (by simp)
  go_region_held3 (fun w' => Below w170.heap.size w170 w' ∧ w170.heap.size ≤ w'.heap.size ∧ w'.cell? ⟨w.heap.size, 0, none⟩ = some (Value.int .i64 s_aA0) ∧ w'.cell? ⟨w.heap.size, 1, none⟩ = some (Value.int .i64 s_aA1) ∧ w'.cell? ⟨w.heap.size, 2, none⟩ = some (Value.slice ad_aA2 x_aA2.length cap_aA2) ∧ w'.cell? ⟨W1.heap.size, 0, none⟩ = some (Value.int .i64 s_aB0) ∧ w'.cell? ⟨W1.heap.size, 1, none⟩ = some (Value.int .i64 s_aB1) ∧ w'.cell? ⟨W1.heap.size, 2, none⟩ = some (Value.slice ad_aB2 x_aB2.length cap_aB2) ∧ w'.cell? ⟨w59.heap.size, 0, none⟩ = some (Value.int .i64 s_aA0) ∧ w'.cell? ⟨w59.heap.size, 1, none⟩ = some (Value.int .i64 s_aA1) ∧ w'.cell? ⟨w59.heap.size, 2, none⟩ = some ((Value.slice a63 m64 c65)) ∧ w'.cell? ⟨w98.heap.size, 0, none⟩ = some (Value.int .i64 s_aB0) ∧ w'.cell? ⟨w98.heap.size, 1, none⟩ = some (Value.int .i64 s_aB1) ∧ w'.cell? ⟨w98.heap.size, 2, none⟩ = some ((Value.slice a102 m103 c104)))
    (first | exact ⟨(Below.refl _ _).drew, Nat.le_refl _, k219, k220, k221, k222, k223, k224, k225, k226, k227, k228, k229, k230⟩ | exact keepBox12 (by omega) ‹_› ‹_›)
    (first
    | (go_at_call 25; refine (toDesc_c s_aB0 s_aB1 _ x_aB2 _ hx_aB2 (Flat.below (FlatB.flat (FlatB.below h_aB2 t194) t194.size) (by first | exact (Below.refl _ _).drew | exact And.left ‹_›))).mono ?_; rintro e w208 ⟨v210, rfl, o211, b209⟩)
    | (go_at_call 27; refine (eqDesc_c _ _ _ _ _ _ (Flat.below (Flat.below (Flat.of_owns o101) ((Below.refl _ _).drew : Below w170.heap.size w170 w170.drew)) b209) (Flat.of_owns o211)).mono ?_; rintro e w212 ⟨rfl, b213⟩))
  clear k219 k220 k221 k222 k223 k224 k225 k226 k227 k228 k229 k230
  have d231 : Below w170.heap.size w170 w170.drew := (Below.refl _ _).drew
  have t232 := Below.trans t194 (Below.mono d231 t194.size)
  have s233 := Below.trans s195 (Below.mono d231 s195.size)
  replace o62 := owns_below o62 d231
  replace o101 := owns_below o101 d231
  replace bx_aA := Box.below bx_aA d231
  replace bx_aB := Box.below bx_aB d231
  replace bx84 := Box.below bx84 d231
  replace bx129 := Box.below bx129 d231
  have t234 := Below.trans t232 (Below.mono b209 t232.size)
  have s235 := Below.trans s233 (Below.mono b209 s233.size)
  replace o62 := owns_below o62 b209
  replace o101 := owns_below o101 b209
  replace bx_aA := Box.below bx_aA b209
  replace bx_aB := Box.below bx_aB b209
  replace bx84 := Box.below bx84 b209
  replace bx129 := Box.below bx129 b209
  have t236 := Below.trans t234 (Below.mono b213 t234.size)
  have s237 := Below.trans s235 (Below.mono b213 s235.size)
  replace o62 := owns_below o62 b213
  replace o101 := owns_below o101 b213
  replace bx_aA := Box.below bx_aA b213
  replace bx_aB := Box.below bx_aB b213
  replace bx84 := Box.below bx84 b213
  replace bx129 := Box.below bx129 b213
  have k238 : w212.cell? ⟨w.heap.size, 0, none⟩ = some (Value.int .i64 s_aA0) := bx_aA.2 0 (by simp)
  have k239 : w212.cell? ⟨w.heap.size, 1, none⟩ = some (Value.int .i64 s_aA1) := bx_aA.2 1 (by simp)
  have k240 : w212.cell? ⟨w.heap.size, 2, none⟩ = some (Value.slice ad_aA2 x_aA2.length cap_aA2) := bx_aA.2 2 (by simp)
  have k241 : w212.cell? ⟨W1.heap.size, 0, none⟩ = some (Value.int .i64 s_aB0) := bx_aB.2 0 (by simp)
  have k242 : w212.cell? ⟨W1.heap.size, 1, none⟩ = some (Value.int .i64 s_aB1) := bx_aB.2 1 (by simp)
  have k243 : w212.cell? ⟨W1.heap.size, 2, none⟩ = some (Value.slice ad_aB2 x_aB2.length cap_aB2) := bx_aB.2 2 (by simp)
  have k244 : w212.cell? ⟨w59.heap.size, 0, none⟩ = some (Value.int .i64 s_aA0) := bx84.2 0 (by simp)
  have k245 : w212.cell? ⟨w59.heap.size, 1, none⟩ = some (Value.int .i64 s_aA1) := bx84.2 1 (by simp)
  have k246 : w212.cell? ⟨w59.heap.size, 2, none⟩ = some ((Value.slice a63 m64 c65)) := bx84.2 2 (by simp)
  have k247 : w212.cell? ⟨w98.heap.size, 0, none⟩ = some (Value.int .i64 s_aB0) := bx129.2 0 (by simp)
  have k248 : w212.cell? ⟨w98.heap.size, 1, none⟩ = some (Value.int .i64 s_aB1) := bx129.2 1 (by simp)
  have k249 : w212.cell? ⟨w98.heap.size, 2, none⟩ = some ((Value.slice a102 m103 c104)) := bx129.2 2 (by simp)
  go_wp2_with fail
  clear k238 k239 k240 k241 k242 k243 k244 k245 k246 k247 k248 k249
  try go_wp2
  go_ret
  exact ⟨rfl, hB0.trans (Below.mono t236 hB0.size)⟩

end Go.Proofs.Ytmfepmbkgomlcaa
