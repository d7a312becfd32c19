/- FnExactDescText, walked. -/
import Derived.Test.YtmfepmbkgomlcaaDoorW6d
import Derived.Test.YtmfepmbkgomlcaaDoorDeep6
import Derived.Test.YtmfepmbkgomlcaaDoorBx
import Derived.Test.YtmfepmbkgomlcaaDoorKeep
import Derived.Deep.RegionHeld3
import Derived.StillTailTactics
namespace Go.Proofs.YtmfepmbkgomlcaaDoor
set_option maxRecDepth 100000
open Go.RowKit Go.Proofs Go.Own
set_option linter.unusedVariables false

set_option maxRecDepth 100000 in
set_option maxHeartbeats 8000000 in
theorem law_DescText (s_aD0 : Int) (s_aD1 : Int) (v_aD2 : Value) (x_aD2 : List Entry) (w : World) (hT0 : Tab w) (h_aD2 : Entrys w v_aD2 x_aD2) :
    Calls Tryd.prog 3 #[(.agg #[.int .i64 s_aD0, .int .i64 s_aD1, v_aD2])] w fun e w' => e = .returned (.bool true) ∧ Below w.heap.size w w' := by
  obtain ⟨ad_aD2, cap_aD2, rfl, hl_aD2, hm_aD2⟩ := Flat.form h_aD2
  obtain ⟨W1, hW1⟩ : ∃ X, w.alloc (.cells #[Value.int .i64 s_aD0, Value.int .i64 s_aD1, Value.slice ad_aD2 x_aD2.length cap_aD2] 24) = X := ⟨_, rfl⟩
  have hbx1 : Below w.heap.size w W1 := by rw [← hW1]; exact (Below.refl _ _).alloc (Nat.le_refl _) _
  have bx_aD : Box W1 w.heap.size [Value.int .i64 s_aD0, Value.int .i64 s_aD1, Value.slice ad_aD2 x_aD2.length cap_aD2] := by rw [← hW1]; exact Box.alloc _ _ _
  have hB0 : Below w.heap.size w W1 := hbx1
  replace h_aD2 := Flat.below h_aD2 hB0
  go_enter Tryd.func3, Tryd.ntmps3
  have k1 : W1.cell? ⟨w.heap.size, 0, none⟩ = some (Value.int .i64 s_aD0) := bx_aD.2 0 (by simp)
  have k2 : W1.cell? ⟨w.heap.size, 1, none⟩ = some (Value.int .i64 s_aD1) := bx_aD.2 1 (by simp)
  have k3 : W1.cell? ⟨w.heap.size, 2, none⟩ = some (Value.slice ad_aD2 x_aD2.length cap_aD2) := bx_aD.2 2 (by simp)
  go_wp2_with fail
  clear k1 k2 k3 hW1
  have hl0_aD : 0 ≤ (1048576 : Int) := by omega
  refine (szDesc_c _ _ _ _ _ _ _ (by omega) (by omega) (by omega)).mono ?_
  rintro e w4 ⟨rfl, b5⟩
  by_cases big_aD : (1048576 : Int) < (x_aD2.length : Int)
  · rw [if_pos big_aD]
    go_wp2
    go_ret
    exact ⟨rfl, hB0.trans (Below.mono (Below.trans (Below.refl _ _ : Below W1.heap.size W1 W1) (Below.mono b5 (Below.refl _ _ : Below W1.heap.size W1 W1).size)) hB0.size)⟩
  rw [if_neg big_aD]
  have t6 := Below.trans (Below.refl _ _ : Below W1.heap.size W1 W1) (Below.mono b5 (Below.refl _ _ : Below W1.heap.size W1 W1).size)
  replace bx_aD := Box.below bx_aD b5
  have k7 : w4.cell? ⟨w.heap.size, 0, none⟩ = some (Value.int .i64 s_aD0) := bx_aD.2 0 (by simp)
  have k8 : w4.cell? ⟨w.heap.size, 1, none⟩ = some (Value.int .i64 s_aD1) := bx_aD.2 1 (by simp)
  have k9 : w4.cell? ⟨w.heap.size, 2, none⟩ = some (Value.slice ad_aD2 x_aD2.length cap_aD2) := bx_aD.2 2 (by simp)
  go_wp2_with fail
  clear k7 k8 k9
  have hx_aD2 : x_aD2.length ≤ 1048576 := by omega
  refine (toDesc_c s_aD0 s_aD1 _ x_aD2 _ hx_aD2 (FlatB.flat (FlatB.below h_aD2 t6) t6.size)).mono ?_
  rintro e w10 ⟨v12, rfl, o13, b11⟩
  obtain ⟨a14, m15, c16, rfl⟩ := owns_form3 o13
  have t17 := Below.trans t6 (Below.mono b11 t6.size)
  replace bx_aD := Box.below bx_aD b11
  have k18 : w10.cell? ⟨w.heap.size, 0, none⟩ = some (Value.int .i64 s_aD0) := bx_aD.2 0 (by simp)
  have k19 : w10.cell? ⟨w.heap.size, 1, none⟩ = some (Value.int .i64 s_aD1) := bx_aD.2 1 (by simp)
  have k20 : w10.cell? ⟨w.heap.size, 2, none⟩ = some (Value.slice ad_aD2 x_aD2.length cap_aD2) := bx_aD.2 2 (by simp)
  go_wp2_with fail
  clear k18 k19 k20
  have q21 := (bx_aD).1
  refine (spec_DescTextW s_aD0 s_aD1 _ x_aD2 _ (Flat.of_owns o13) hx_aD2).mono ?_
  rintro e w22 ⟨rfl, b23⟩
  have t24 := Below.trans t17 (Below.mono b23 t17.size)
  replace bx_aD := Box.below bx_aD b23
  have s25 : Below w22.heap.size w22 w22 := Below.refl _ _
  have k26 : w22.cell? ⟨w.heap.size, 0, none⟩ = some (Value.int .i64 s_aD0) := bx_aD.2 0 (by simp)
  have k27 : w22.cell? ⟨w.heap.size, 1, none⟩ = some (Value.int .i64 s_aD1) := bx_aD.2 1 (by simp)
  have k28 : w22.cell? ⟨w.heap.size, 2, none⟩ = some (Value.slice ad_aD2 x_aD2.length cap_aD2) := bx_aD.2 2 (by simp)
  go_wp2_with fail
  clear k26 k27 k28
  have q29 := (bx_aD).1
  refine (toDesc_c s_aD0 s_aD1 _ x_aD2 _ hx_aD2 (FlatB.flat (FlatB.below h_aD2 t24) t24.size)).mono ?_
  rintro e w30 ⟨v32, rfl, o33, b31⟩
  obtain ⟨a34, m35, c36, rfl⟩ := owns_form3 o33
  have t37 := Below.trans t24 (Below.mono b31 t24.size)
  have s38 := Below.trans s25 (Below.mono b31 s25.size)
  replace bx_aD := Box.below bx_aD b31
  have tb39 := Below.size t24
  have hb40 := Below.size s25
  have ne41 : ¬ (Value.slice a34 m35 c36).ownBlock = some (w.heap.size) := fun e => by have h1 := (World.ownsRow.lt o33 _ e).1; have h2 := q29; omega
  have k42 : w30.cell? ⟨w.heap.size, 0, none⟩ = some (Value.int .i64 s_aD0) := bx_aD.2 0 (by simp)
  have k43 : w30.cell? ⟨w.heap.size, 1, none⟩ = some (Value.int .i64 s_aD1) := bx_aD.2 1 (by simp)
  have k44 : w30.cell? ⟨w.heap.size, 2, none⟩ = some (Value.slice ad_aD2 x_aD2.length cap_aD2) := bx_aD.2 2 (by simp)
  obtain ⟨X45, hX46⟩ : ∃ X, w30.alloc (.cells #[Value.int .i64 s_aD0, Value.int .i64 s_aD1, (Value.slice a34 m35 c36)] 29) = X := ⟨_, rfl⟩
  have bX47 : Below w30.heap.size w30 X45 := by rw [← hX46]; exact (Below.refl _ _).alloc (Nat.le_refl _) _
  have ne48 : ¬ (Value.slice a34 m35 c36).ownBlock = some (w30.heap.size) := fun e => by have h1 := (World.ownsRow.lt o33 _ e).2; omega
  have t49 := Below.trans t37 (Below.mono bX47 t37.size)
  have s50 := Below.trans s38 (Below.mono bX47 s38.size)
  replace o33 := owns_below o33 bX47
  replace bx_aD := Box.below bx_aD bX47
  have bx51 : Box X45 (w30.heap.size) [Value.int .i64 s_aD0, Value.int .i64 s_aD1, (Value.slice a34 m35 c36)] := by rw [← hX46]; exact Box.alloc _ _ _
  have k52 : X45.cell? ⟨w.heap.size, 0, none⟩ = some (Value.int .i64 s_aD0) := bx_aD.2 0 (by simp)
  have k53 : X45.cell? ⟨w.heap.size, 1, none⟩ = some (Value.int .i64 s_aD1) := bx_aD.2 1 (by simp)
  have k54 : X45.cell? ⟨w.heap.size, 2, none⟩ = some (Value.slice ad_aD2 x_aD2.length cap_aD2) := bx_aD.2 2 (by simp)
  have k55 : X45.cell? ⟨w30.heap.size, 0, none⟩ = some (Value.int .i64 s_aD0) := bx51.2 0 (by simp)
  have k56 : X45.cell? ⟨w30.heap.size, 1, none⟩ = some (Value.int .i64 s_aD1) := bx51.2 1 (by simp)
  have k57 : X45.cell? ⟨w30.heap.size, 2, none⟩ = some ((Value.slice a34 m35 c36)) := bx51.2 2 (by simp)
  go_wp2_with fail
  clear k42 k43 k44 k52 k53 k54 k55 k56 k57 hX46
  have p58 := o33
  have q59 := (bx_aD).1
  have q60 := (bx51).1
  refine (impl_DescTextW s_aD0 s_aD1 _ x_aD2 _ (Flat.of_owns o33) hx_aD2 (tab_below (tab_below hT0 hB0) (by assumption))).mono ?_
  rintro e w61 ⟨rfl, b62⟩
  have t63 := Below.trans t49 (Below.mono b62 t49.size)
  have s64 := Below.trans s50 (Below.mono b62 s50.size)
  replace o33 := owns_below o33 b62
  replace bx_aD := Box.below bx_aD b62
  replace bx51 := Box.below bx51 b62
  have tb65 := Below.size t49
  have hb66 := Below.size s50
  have k67 : w61.cell? ⟨w.heap.size, 0, none⟩ = some (Value.int .i64 s_aD0) := bx_aD.2 0 (by simp)
  have k68 : w61.cell? ⟨w.heap.size, 1, none⟩ = some (Value.int .i64 s_aD1) := bx_aD.2 1 (by simp)
  have k69 : w61.cell? ⟨w.heap.size, 2, none⟩ = some (Value.slice ad_aD2 x_aD2.length cap_aD2) := bx_aD.2 2 (by simp)
  have k70 : w61.cell? ⟨w30.heap.size, 0, none⟩ = some (Value.int .i64 s_aD0) := bx51.2 0 (by simp)
  have k71 : w61.cell? ⟨w30.heap.size, 1, none⟩ = some (Value.int .i64 s_aD1) := bx51.2 1 (by simp)
  have k72 : w61.cell? ⟨w30.heap.size, 2, none⟩ = some ((Value.slice a34 m35 c36)) := bx51.2 2 (by simp)
  go_wp2_with fail
  clear k67 k68 k69 k70 k71 k72
  have lt80 := (bx_aD).1
  have lt81 := (bx51).1
  have k82 : w61.cell? ⟨w.heap.size, 0, none⟩ = some (Value.int .i64 s_aD0) := bx_aD.2 0 (by simp)
  have k83 : w61.cell? ⟨w.heap.size, 1, none⟩ = some (Value.int .i64 s_aD1) := bx_aD.2 1 (by simp)
  have k84 : w61.cell? ⟨w.heap.size, 2, none⟩ = some (Value.slice ad_aD2 x_aD2.length cap_aD2) := bx_aD.2 2 (by simp)
  have k85 : w61.cell? ⟨w30.heap.size, 0, none⟩ = some (Value.int .i64 s_aD0) := bx51.2 0 (by simp)
  have k86 : w61.cell? ⟨w30.heap.size, 1, none⟩ = some (Value.int .i64 s_aD1) := bx51.2 1 (by simp)
  have k87 : w61.cell? ⟨w30.heap.size, 2, none⟩ = some ((Value.slice a34 m35 c36)) := bx51.2 2 (by simp)
  go_region_held3 (fun w' => Below w61.heap.size w61 w' ∧ w61.heap.size ≤ w'.heap.size ∧ w'.cell? ⟨w.heap.size, 0, none⟩ = some (Value.int .i64 s_aD0) ∧ w'.cell? ⟨w.heap.size, 1, none⟩ = some (Value.int .i64 s_aD1) ∧ w'.cell? ⟨w.heap.size, 2, none⟩ = some (Value.slice ad_aD2 x_aD2.length cap_aD2) ∧ w'.cell? ⟨w30.heap.size, 0, none⟩ = some (Value.int .i64 s_aD0) ∧ w'.cell? ⟨w30.heap.size, 1, none⟩ = some (Value.int .i64 s_aD1) ∧ w'.cell? ⟨w30.heap.size, 2, none⟩ = some ((Value.slice a34 m35 c36)))
    (first | exact ⟨(Below.refl _ _).drew, Nat.le_refl _, k82, k83, k84, k85, k86, k87⟩ | exact keepBox6 (by omega) ‹_› ‹_›)
    (first
    | (go_at_call 6; refine (toDesc_c s_aD0 s_aD1 _ x_aD2 _ hx_aD2 (Flat.below (FlatB.flat (FlatB.below h_aD2 t63) t63.size) (by first | exact (Below.refl _ _).drew | exact And.left ‹_›))).mono ?_; rintro e w73 ⟨v75, rfl, o76, b74⟩)
    | (go_at_call 8; refine (eqDesc_c _ _ _ _ _ _ (Flat.below (Flat.below (Flat.of_owns o33) ((Below.refl _ _).drew : Below w61.heap.size w61 w61.drew)) b74) (Flat.of_owns o76)).mono ?_; rintro e w77 ⟨rfl, b78⟩))
  clear k82 k83 k84 k85 k86 k87
  have d88 : Below w61.heap.size w61 w61.drew := (Below.refl _ _).drew
  have t89 := Below.trans t63 (Below.mono d88 t63.size)
  have s90 := Below.trans s64 (Below.mono d88 s64.size)
  replace o33 := owns_below o33 d88
  replace bx_aD := Box.below bx_aD d88
  replace bx51 := Box.below bx51 d88
  have t91 := Below.trans t89 (Below.mono b74 t89.size)
  have s92 := Below.trans s90 (Below.mono b74 s90.size)
  replace o33 := owns_below o33 b74
  replace bx_aD := Box.below bx_aD b74
  replace bx51 := Box.below bx51 b74
  have t93 := Below.trans t91 (Below.mono b78 t91.size)
  have s94 := Below.trans s92 (Below.mono b78 s92.size)
  replace o33 := owns_below o33 b78
  replace bx_aD := Box.below bx_aD b78
  replace bx51 := Box.below bx51 b78
  have k95 : w77.cell? ⟨w.heap.size, 0, none⟩ = some (Value.int .i64 s_aD0) := bx_aD.2 0 (by simp)
  have k96 : w77.cell? ⟨w.heap.size, 1, none⟩ = some (Value.int .i64 s_aD1) := bx_aD.2 1 (by simp)
  have k97 : w77.cell? ⟨w.heap.size, 2, none⟩ = some (Value.slice ad_aD2 x_aD2.length cap_aD2) := bx_aD.2 2 (by simp)
  have k98 : w77.cell? ⟨w30.heap.size, 0, none⟩ = some (Value.int .i64 s_aD0) := bx51.2 0 (by simp)
  have k99 : w77.cell? ⟨w30.heap.size, 1, none⟩ = some (Value.int .i64 s_aD1) := bx51.2 1 (by simp)
  have k100 : w77.cell? ⟨w30.heap.size, 2, none⟩ = some ((Value.slice a34 m35 c36)) := bx51.2 2 (by simp)
  go_wp2_with fail
  clear k95 k96 k97 k98 k99 k100
  try go_wp2
  go_ret
  exact ⟨rfl, hB0.trans (Below.mono t93 hB0.size)⟩

end Go.Proofs.YtmfepmbkgomlcaaDoor
