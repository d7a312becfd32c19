/- FnExactMakeDesc, walked. -/
import Derived.Test.YtmfepmbkgomlcaaW6m
import Derived.Test.YtmfepmbkgomlcaaDeep6
import Derived.Test.YtmfepmbkgomlcaaBx
import Derived.Test.YtmfepmbkgomlcaaKeep
import Derived.Deep.RegionHeld3
import Derived.StillTailTactics
namespace Go.Proofs.Ytmfepmbkgomlcaa
set_option maxRecDepth 100000
open Go.RowKit Go.Proofs Go.Own
set_option linter.unusedVariables false

set_option maxRecDepth 100000 in
set_option maxHeartbeats 8000000 in
theorem law_MakeDesc (s_aOwner0 : Int) (v_aList0 : Value) (x_aList0 : List Entry) (w : World) (hi_s_aOwner0 : InI s_aOwner0) (h_aList0 : Entrys w v_aList0 x_aList0) :
    Calls Try.prog 8 #[(.int .i64 s_aOwner0), v_aList0] w fun e w' => e = .returned (.bool true) ∧ Below w.heap.size w w' := by
  obtain ⟨ad_aList0, cap_aList0, rfl, hl_aList0, hm_aList0⟩ := Flat.form h_aList0
  have hB0 : Below w.heap.size w w := Below.refl _ _
  go_enter Try.func8, Try.ntmps8
  go_wp2_with fail
  have hl0_aList : 0 ≤ (1048576 : Int) := by omega
  refine (szEntryS_c _ _ _ _ _ (by omega) (by omega) (by omega)).mono ?_
  rintro e w1 ⟨rfl, b2⟩
  obtain rfl := b2
  by_cases big_aList : (1048576 : Int) < (x_aList0.length : Int)
  · rw [if_pos big_aList]
    go_wp2
    go_ret
    exact ⟨rfl, hB0.trans (Below.mono (Below.refl _ _ : Below w.heap.size w w) hB0.size)⟩
  rw [if_neg big_aList]
  go_wp2_with fail
  have hx_aList0 : x_aList0.length ≤ 1048576 := by omega
  refine (toEntryS_c _ x_aList0 _ hx_aList0 (FlatB.flat (FlatB.below h_aList0 (Below.refl _ _ : Below w.heap.size w w)) (Below.refl _ _ : Below w.heap.size w w).size)).mono ?_
  rintro e w3 ⟨v5, rfl, o6, b4⟩
  obtain ⟨a7, m8, c9, rfl⟩ := owns_form3 o6
  have t10 := Below.trans (Below.refl _ _ : Below w.heap.size w w) (Below.mono b4 (Below.refl _ _ : Below w.heap.size w w).size)
  go_wp2_with fail
  refine (spec_MakeDescW s_aOwner0 _ x_aList0 _ (Flat.of_owns o6) hx_aList0).mono ?_
  rintro e w11 ⟨v13, rfl, o14, b12⟩
  obtain ⟨a16, m17, c18, rfl⟩ := Flat.form3 o14
  have t19 := Below.trans t10 (Below.mono b12 t10.size)
  have s20 : Below w11.heap.size w11 w11 := Below.refl _ _
  obtain ⟨X21, hX22⟩ : ∃ X, w11.alloc (.cells #[Value.int .i64 (makeOw s_aOwner0 x_aList0), Value.int .i64 0, (Value.slice a16 m17 c18)] 42) = X := ⟨_, rfl⟩
  have bX23 : Below w11.heap.size w11 X21 := by rw [← hX22]; exact (Below.refl _ _).alloc (Nat.le_refl _) _
  have t24 := Below.trans t19 (Below.mono bX23 t19.size)
  have s25 := Below.trans s20 (Below.mono bX23 s20.size)
  have bx26 : Box X21 (w11.heap.size) [Value.int .i64 (makeOw s_aOwner0 x_aList0), Value.int .i64 0, (Value.slice a16 m17 c18)] := by rw [← hX22]; exact Box.alloc _ _ _
  have k27 : X21.cell? ⟨w11.heap.size, 0, none⟩ = some (Value.int .i64 (makeOw s_aOwner0 x_aList0)) := bx26.2 0 (by simp)
  have k28 : X21.cell? ⟨w11.heap.size, 1, none⟩ = some (Value.int .i64 0) := bx26.2 1 (by simp)
  have k29 : X21.cell? ⟨w11.heap.size, 2, none⟩ = some ((Value.slice a16 m17 c18)) := bx26.2 2 (by simp)
  go_wp2_with fail
  clear k27 k28 k29 hX22
  have q30 := (bx26).1
  refine (toEntryS_c _ x_aList0 _ hx_aList0 (FlatB.flat (FlatB.below h_aList0 t24) t24.size)).mono ?_
  rintro e w31 ⟨v33, rfl, o34, b32⟩
  obtain ⟨a35, m36, c37, rfl⟩ := owns_form3 o34
  have t38 := Below.trans t24 (Below.mono b32 t24.size)
  have s39 := Below.trans s25 (Below.mono b32 s25.size)
  replace bx26 := Box.below bx26 b32
  have tb40 := Below.size t24
  have hb41 := Below.size s25
  have ne42 : ¬ (Value.slice a35 m36 c37).ownBlock = some (w11.heap.size) := fun e => by have h1 := (World.ownsRow.lt o34 _ e).1; have h2 := q30; omega
  have k43 : w31.cell? ⟨w11.heap.size, 0, none⟩ = some (Value.int .i64 (makeOw s_aOwner0 x_aList0)) := bx26.2 0 (by simp)
  have k44 : w31.cell? ⟨w11.heap.size, 1, none⟩ = some (Value.int .i64 0) := bx26.2 1 (by simp)
  have k45 : w31.cell? ⟨w11.heap.size, 2, none⟩ = some ((Value.slice a16 m17 c18)) := bx26.2 2 (by simp)
  go_wp2_with fail
  clear k43 k44 k45
  have p46 := o34
  have q47 := (bx26).1
  refine (impl_MakeDescW s_aOwner0 _ x_aList0 _ (Flat.of_owns o34) hx_aList0).mono ?_
  rintro e w48 ⟨v50, rfl, o51, l52, b49⟩
  obtain ⟨a53, m54, c55, rfl⟩ := owns_form3 o51
  have t56 := Below.trans t38 (Below.mono b49 t38.size)
  have s57 := Below.trans s39 (Below.mono b49 s39.size)
  replace o34 := owns_below o34 b49
  replace bx26 := Box.below bx26 b49
  have tb58 := Below.size t38
  have hb59 := Below.size s39
  have ap60 := apart p46 (Nat.le_refl _) o51
  have ne61 : ¬ (Value.slice a53 m54 c55).ownBlock = some (w11.heap.size) := fun e => by have h1 := (World.ownsRow.lt o51 _ e).1; have h2 := q47; omega
  have k62 : w48.cell? ⟨w11.heap.size, 0, none⟩ = some (Value.int .i64 (makeOw s_aOwner0 x_aList0)) := bx26.2 0 (by simp)
  have k63 : w48.cell? ⟨w11.heap.size, 1, none⟩ = some (Value.int .i64 0) := bx26.2 1 (by simp)
  have k64 : w48.cell? ⟨w11.heap.size, 2, none⟩ = some ((Value.slice a16 m17 c18)) := bx26.2 2 (by simp)
  obtain ⟨X65, hX66⟩ : ∃ X, w48.alloc (.cells #[Value.int .i64 (makeOw s_aOwner0 x_aList0), Value.int .i64 0, (Value.slice a53 m54 c55)] 42) = X := ⟨_, rfl⟩
  have bX67 : Below w48.heap.size w48 X65 := by rw [← hX66]; exact (Below.refl _ _).alloc (Nat.le_refl _) _
  have ne68 : ¬ (Value.slice a35 m36 c37).ownBlock = some (w48.heap.size) := fun e => by have h1 := (World.ownsRow.lt o34 _ e).2; omega
  have ne69 : ¬ (Value.slice a53 m54 c55).ownBlock = some (w48.heap.size) := fun e => by have h1 := (World.ownsRow.lt o51 _ e).2; omega
  have t70 := Below.trans t56 (Below.mono bX67 t56.size)
  have s71 := Below.trans s57 (Below.mono bX67 s57.size)
  replace o34 := owns_below o34 bX67
  replace o51 := owns_below o51 bX67
  replace bx26 := Box.below bx26 bX67
  have bx72 : Box X65 (w48.heap.size) [Value.int .i64 (makeOw s_aOwner0 x_aList0), Value.int .i64 0, (Value.slice a53 m54 c55)] := by rw [← hX66]; exact Box.alloc _ _ _
  have k73 : X65.cell? ⟨w11.heap.size, 0, none⟩ = some (Value.int .i64 (makeOw s_aOwner0 x_aList0)) := bx26.2 0 (by simp)
  have k74 : X65.cell? ⟨w11.heap.size, 1, none⟩ = some (Value.int .i64 0) := bx26.2 1 (by simp)
  have k75 : X65.cell? ⟨w11.heap.size, 2, none⟩ = some ((Value.slice a16 m17 c18)) := bx26.2 2 (by simp)
  have k76 : X65.cell? ⟨w48.heap.size, 0, none⟩ = some (Value.int .i64 (makeOw s_aOwner0 x_aList0)) := bx72.2 0 (by simp)
  have k77 : X65.cell? ⟨w48.heap.size, 1, none⟩ = some (Value.int .i64 0) := bx72.2 1 (by simp)
  have k78 : X65.cell? ⟨w48.heap.size, 2, none⟩ = some ((Value.slice a53 m54 c55)) := bx72.2 2 (by simp)
  go_wp2_with fail
  clear k62 k63 k64 k73 k74 k75 k76 k77 k78 hX66
  refine (eqDesc_c _ _ _ _ _ _ (Flat.of_owns o51) (FlatB.flat (FlatB.below o14 s71) s71.size)).mono ?_
  rintro e w79 ⟨rfl, b80⟩
  have t81 := Below.trans t70 (Below.mono b80 t70.size)
  have s82 := Below.trans s71 (Below.mono b80 s71.size)
  replace o34 := owns_below o34 b80
  replace o51 := owns_below o51 b80
  replace bx26 := Box.below bx26 b80
  replace bx72 := Box.below bx72 b80
  have k83 : w79.cell? ⟨w11.heap.size, 0, none⟩ = some (Value.int .i64 (makeOw s_aOwner0 x_aList0)) := bx26.2 0 (by simp)
  have k84 : w79.cell? ⟨w11.heap.size, 1, none⟩ = some (Value.int .i64 0) := bx26.2 1 (by simp)
  have k85 : w79.cell? ⟨w11.heap.size, 2, none⟩ = some ((Value.slice a16 m17 c18)) := bx26.2 2 (by simp)
  have k86 : w79.cell? ⟨w48.heap.size, 0, none⟩ = some (Value.int .i64 (makeOw s_aOwner0 x_aList0)) := bx72.2 0 (by simp)
  have k87 : w79.cell? ⟨w48.heap.size, 1, none⟩ = some (Value.int .i64 0) := bx72.2 1 (by simp)
  have k88 : w79.cell? ⟨w48.heap.size, 2, none⟩ = some ((Value.slice a53 m54 c55)) := bx72.2 2 (by simp)
  go_wp2_with fail
  clear k83 k84 k85 k86 k87 k88
  refine (toEntryS_c _ x_aList0 _ hx_aList0 (FlatB.flat (FlatB.below h_aList0 t81) t81.size)).mono ?_
  rintro e w89 ⟨v91, rfl, o92, b90⟩
  obtain ⟨a93, m94, c95, rfl⟩ := owns_form3 o92
  have t96 := Below.trans t81 (Below.mono b90 t81.size)
  have s97 := Below.trans s82 (Below.mono b90 s82.size)
  replace o34 := owns_below o34 b90
  replace o51 := owns_below o51 b90
  replace bx26 := Box.below bx26 b90
  replace bx72 := Box.below bx72 b90
  have k98 : w89.cell? ⟨w11.heap.size, 0, none⟩ = some (Value.int .i64 (makeOw s_aOwner0 x_aList0)) := bx26.2 0 (by simp)
  have k99 : w89.cell? ⟨w11.heap.size, 1, none⟩ = some (Value.int .i64 0) := bx26.2 1 (by simp)
  have k100 : w89.cell? ⟨w11.heap.size, 2, none⟩ = some ((Value.slice a16 m17 c18)) := bx26.2 2 (by simp)
  have k101 : w89.cell? ⟨w48.heap.size, 0, none⟩ = some (Value.int .i64 (makeOw s_aOwner0 x_aList0)) := bx72.2 0 (by simp)
  have k102 : w89.cell? ⟨w48.heap.size, 1, none⟩ = some (Value.int .i64 0) := bx72.2 1 (by simp)
  have k103 : w89.cell? ⟨w48.heap.size, 2, none⟩ = some ((Value.slice a53 m54 c55)) := bx72.2 2 (by simp)
  go_wp2_with fail
  clear k98 k99 k100 k101 k102 k103
  refine (eqEntryS_c _ _ _ _ (Flat.of_owns o34) (Flat.of_owns o92)).mono ?_
  rintro e w104 ⟨rfl, b105⟩
  have t106 := Below.trans t96 (Below.mono b105 t96.size)
  have s107 := Below.trans s97 (Below.mono b105 s97.size)
  replace o34 := owns_below o34 b105
  replace o51 := owns_below o51 b105
  replace bx26 := Box.below bx26 b105
  replace bx72 := Box.below bx72 b105
  have k108 : w104.cell? ⟨w11.heap.size, 0, none⟩ = some (Value.int .i64 (makeOw s_aOwner0 x_aList0)) := bx26.2 0 (by simp)
  have k109 : w104.cell? ⟨w11.heap.size, 1, none⟩ = some (Value.int .i64 0) := bx26.2 1 (by simp)
  have k110 : w104.cell? ⟨w11.heap.size, 2, none⟩ = some ((Value.slice a16 m17 c18)) := bx26.2 2 (by simp)
  have k111 : w104.cell? ⟨w48.heap.size, 0, none⟩ = some (Value.int .i64 (makeOw s_aOwner0 x_aList0)) := bx72.2 0 (by simp)
  have k112 : w104.cell? ⟨w48.heap.size, 1, none⟩ = some (Value.int .i64 0) := bx72.2 1 (by simp)
  have k113 : w104.cell? ⟨w48.heap.size, 2, none⟩ = some ((Value.slice a53 m54 c55)) := bx72.2 2 (by simp)
  go_wp2_with fail
  clear k108 k109 k110 k111 k112 k113
  refine (markEntryS_c _ _ _ _ _ _ _ (by omega) (by omega) (by omega) o34).mono ?_
  rintro e w114 ⟨rfl, o116, g115⟩
  have t117 := Below.trans t106 (below_of_mark2 o34 g115 tb40 (Below.size t106))
  have s118 := Below.trans s107 (below_of_mark2 o34 g115 hb41 (Below.size s107))
  replace o51 := World.ownsRow.kept o51 g115 ap60.2
  replace bx26 := Box.grown bx26 g115 ne42
  replace bx72 := Box.grown bx72 g115 ne68
  have k119 : w114.cell? ⟨w11.heap.size, 0, none⟩ = some (Value.int .i64 (makeOw s_aOwner0 x_aList0)) := bx26.2 0 (by simp)
  have k120 : w114.cell? ⟨w11.heap.size, 1, none⟩ = some (Value.int .i64 0) := bx26.2 1 (by simp)
  have k121 : w114.cell? ⟨w11.heap.size, 2, none⟩ = some ((Value.slice a16 m17 c18)) := bx26.2 2 (by simp)
  have k122 : w114.cell? ⟨w48.heap.size, 0, none⟩ = some (Value.int .i64 (makeOw s_aOwner0 x_aList0)) := bx72.2 0 (by simp)
  have k123 : w114.cell? ⟨w48.heap.size, 1, none⟩ = some (Value.int .i64 0) := bx72.2 1 (by simp)
  have k124 : w114.cell? ⟨w48.heap.size, 2, none⟩ = some ((Value.slice a53 m54 c55)) := bx72.2 2 (by simp)
  go_wp2_with fail
  clear k119 k120 k121 k122 k123 k124
  refine (eqDesc_c _ _ _ _ _ _ (Flat.of_owns o51) (FlatB.flat (FlatB.below o14 s118) s118.size)).mono ?_
  rintro e w125 ⟨rfl, b126⟩
  have t127 := Below.trans t117 (Below.mono b126 t117.size)
  have s128 := Below.trans s118 (Below.mono b126 s118.size)
  replace o116 := owns_below o116 b126
  replace o51 := owns_below o51 b126
  replace bx26 := Box.below bx26 b126
  replace bx72 := Box.below bx72 b126
  have k129 : w125.cell? ⟨w11.heap.size, 0, none⟩ = some (Value.int .i64 (makeOw s_aOwner0 x_aList0)) := bx26.2 0 (by simp)
  have k130 : w125.cell? ⟨w11.heap.size, 1, none⟩ = some (Value.int .i64 0) := bx26.2 1 (by simp)
  have k131 : w125.cell? ⟨w11.heap.size, 2, none⟩ = some ((Value.slice a16 m17 c18)) := bx26.2 2 (by simp)
  have k132 : w125.cell? ⟨w48.heap.size, 0, none⟩ = some (Value.int .i64 (makeOw s_aOwner0 x_aList0)) := bx72.2 0 (by simp)
  have k133 : w125.cell? ⟨w48.heap.size, 1, none⟩ = some (Value.int .i64 0) := bx72.2 1 (by simp)
  have k134 : w125.cell? ⟨w48.heap.size, 2, none⟩ = some ((Value.slice a53 m54 c55)) := bx72.2 2 (by simp)
  go_wp2_with fail
  clear k129 k130 k131 k132 k133 k134
  refine (markDesc_c _ _ _ _ _ _ _ _ (by omega) (by omega) (by omega) o51 ).mono ?_
  rintro e w135 ⟨rfl, o137, g136⟩
  have t138 := Below.trans t127 (below_of_mark2 o51 g136 tb58 (Below.size t127))
  have s139 := Below.trans s128 (below_of_mark2 o51 g136 hb59 (Below.size s128))
  replace o116 := World.ownsRow.kept o116 g136 ap60.1
  replace bx26 := Box.grown bx26 g136 ne61
  replace bx72 := Box.grown bx72 g136 ne69
  have k140 : w135.cell? ⟨w11.heap.size, 0, none⟩ = some (Value.int .i64 (makeOw s_aOwner0 x_aList0)) := bx26.2 0 (by simp)
  have k141 : w135.cell? ⟨w11.heap.size, 1, none⟩ = some (Value.int .i64 0) := bx26.2 1 (by simp)
  have k142 : w135.cell? ⟨w11.heap.size, 2, none⟩ = some ((Value.slice a16 m17 c18)) := bx26.2 2 (by simp)
  have k143 : w135.cell? ⟨w48.heap.size, 0, none⟩ = some (Value.int .i64 (makeOw s_aOwner0 x_aList0)) := bx72.2 0 (by simp)
  have k144 : w135.cell? ⟨w48.heap.size, 1, none⟩ = some (Value.int .i64 0) := bx72.2 1 (by simp)
  have k145 : w135.cell? ⟨w48.heap.size, 2, none⟩ = some ((Value.slice a53 m54 c55)) := bx72.2 2 (by simp)
  go_wp2_with fail
  clear k140 k141 k142 k143 k144 k145
  refine (heldDesc_c _ _ _ _ _ _ (by omega) (by omega) (by omega) (Flat.of_owns o137)).mono ?_
  rintro e w146 ⟨rfl, b147⟩
  have t148 := Below.trans t138 (Below.mono b147 t138.size)
  have s149 := Below.trans s139 (Below.mono b147 s139.size)
  replace o116 := owns_below o116 b147
  replace o137 := owns_below o137 b147
  replace bx26 := Box.below bx26 b147
  replace bx72 := Box.below bx72 b147
  have k150 : w146.cell? ⟨w11.heap.size, 0, none⟩ = some (Value.int .i64 (makeOw s_aOwner0 x_aList0)) := bx26.2 0 (by simp)
  have k151 : w146.cell? ⟨w11.heap.size, 1, none⟩ = some (Value.int .i64 0) := bx26.2 1 (by simp)
  have k152 : w146.cell? ⟨w11.heap.size, 2, none⟩ = some ((Value.slice a16 m17 c18)) := bx26.2 2 (by simp)
  have k153 : w146.cell? ⟨w48.heap.size, 0, none⟩ = some (Value.int .i64 (makeOw s_aOwner0 x_aList0)) := bx72.2 0 (by simp)
  have k154 : w146.cell? ⟨w48.heap.size, 1, none⟩ = some (Value.int .i64 0) := bx72.2 1 (by simp)
  have k155 : w146.cell? ⟨w48.heap.size, 2, none⟩ = some ((Value.slice a53 m54 c55)) := bx72.2 2 (by simp)
  go_wp2_with fail
  clear k150 k151 k152 k153 k154 k155
  refine (toEntryS_c _ x_aList0 _ hx_aList0 (FlatB.flat (FlatB.below h_aList0 t148) t148.size)).mono ?_
  rintro e w156 ⟨v158, rfl, o159, b157⟩
  obtain ⟨a160, m161, c162, rfl⟩ := owns_form3 o159
  have t163 := Below.trans t148 (Below.mono b157 t148.size)
  have s164 := Below.trans s149 (Below.mono b157 s149.size)
  replace o116 := owns_below o116 b157
  replace o137 := owns_below o137 b157
  replace bx26 := Box.below bx26 b157
  replace bx72 := Box.below bx72 b157
  have k165 : w156.cell? ⟨w11.heap.size, 0, none⟩ = some (Value.int .i64 (makeOw s_aOwner0 x_aList0)) := bx26.2 0 (by simp)
  have k166 : w156.cell? ⟨w11.heap.size, 1, none⟩ = some (Value.int .i64 0) := bx26.2 1 (by simp)
  have k167 : w156.cell? ⟨w11.heap.size, 2, none⟩ = some ((Value.slice a16 m17 c18)) := bx26.2 2 (by simp)
  have k168 : w156.cell? ⟨w48.heap.size, 0, none⟩ = some (Value.int .i64 (makeOw s_aOwner0 x_aList0)) := bx72.2 0 (by simp)
  have k169 : w156.cell? ⟨w48.heap.size, 1, none⟩ = some (Value.int .i64 0) := bx72.2 1 (by simp)
  have k170 : w156.cell? ⟨w48.heap.size, 2, none⟩ = some ((Value.slice a53 m54 c55)) := bx72.2 2 (by simp)
  go_wp2_with fail
  clear k165 k166 k167 k168 k169 k170
  have p171 := o116
  have p172 := o137
  have q173 := (bx26).1
  have q174 := (bx72).1
  refine (impl_MakeDescW s_aOwner0 _ x_aList0 _ (Flat.of_owns o159) hx_aList0).mono ?_
  rintro e w175 ⟨v177, rfl, o178, l179, b176⟩
  obtain ⟨a180, m181, c182, rfl⟩ := owns_form3 o178
  have t183 := Below.trans t163 (Below.mono b176 t163.size)
  have s184 := Below.trans s164 (Below.mono b176 s164.size)
  replace o116 := owns_below o116 b176
  replace o137 := owns_below o137 b176
  replace bx26 := Box.below bx26 b176
  replace bx72 := Box.below bx72 b176
  have tb185 := Below.size t163
  have hb186 := Below.size s164
  have ap187 := apart p171 (Nat.le_refl _) o178
  have ap188 := apart p172 (Nat.le_refl _) o178
  have ne189 : ¬ (Value.slice a180 m181 c182).ownBlock = some (w11.heap.size) := fun e => by have h1 := (World.ownsRow.lt o178 _ e).1; have h2 := q173; omega
  have ne190 : ¬ (Value.slice a180 m181 c182).ownBlock = some (w48.heap.size) := fun e => by have h1 := (World.ownsRow.lt o178 _ e).1; have h2 := q174; omega
  have k191 : w175.cell? ⟨w11.heap.size, 0, none⟩ = some (Value.int .i64 (makeOw s_aOwner0 x_aList0)) := bx26.2 0 (by simp)
  have k192 : w175.cell? ⟨w11.heap.size, 1, none⟩ = some (Value.int .i64 0) := bx26.2 1 (by simp)
  have k193 : w175.cell? ⟨w11.heap.size, 2, none⟩ = some ((Value.slice a16 m17 c18)) := bx26.2 2 (by simp)
  have k194 : w175.cell? ⟨w48.heap.size, 0, none⟩ = some (Value.int .i64 (makeOw s_aOwner0 x_aList0)) := bx72.2 0 (by simp)
  have k195 : w175.cell? ⟨w48.heap.size, 1, none⟩ = some (Value.int .i64 0) := bx72.2 1 (by simp)
  have k196 : w175.cell? ⟨w48.heap.size, 2, none⟩ = some ((Value.slice a53 m54 c55)) := bx72.2 2 (by simp)
  obtain ⟨X197, hX198⟩ : ∃ X, w175.alloc (.cells #[Value.int .i64 (makeOw s_aOwner0 x_aList0), Value.int .i64 0, (Value.slice a180 m181 c182)] 42) = X := ⟨_, rfl⟩
  have bX199 : Below w175.heap.size w175 X197 := by rw [← hX198]; exact (Below.refl _ _).alloc (Nat.le_refl _) _
  have ne200 : ¬ (Value.slice a35 m36 c37).ownBlock = some (w175.heap.size) := fun e => by have h1 := (World.ownsRow.lt o116 _ e).2; omega
  have ne201 : ¬ (Value.slice a53 m54 c55).ownBlock = some (w175.heap.size) := fun e => by have h1 := (World.ownsRow.lt o137 _ e).2; omega
  have ne202 : ¬ (Value.slice a180 m181 c182).ownBlock = some (w175.heap.size) := fun e => by have h1 := (World.ownsRow.lt o178 _ e).2; omega
  have t203 := Below.trans t183 (Below.mono bX199 t183.size)
  have s204 := Below.trans s184 (Below.mono bX199 s184.size)
  replace o116 := owns_below o116 bX199
  replace o137 := owns_below o137 bX199
  replace o178 := owns_below o178 bX199
  replace bx26 := Box.below bx26 bX199
  replace bx72 := Box.below bx72 bX199
  have bx205 : Box X197 (w175.heap.size) [Value.int .i64 (makeOw s_aOwner0 x_aList0), Value.int .i64 0, (Value.slice a180 m181 c182)] := by rw [← hX198]; exact Box.alloc _ _ _
  have k206 : X197.cell? ⟨w11.heap.size, 0, none⟩ = some (Value.int .i64 (makeOw s_aOwner0 x_aList0)) := bx26.2 0 (by simp)
  have k207 : X197.cell? ⟨w11.heap.size, 1, none⟩ = some (Value.int .i64 0) := bx26.2 1 (by simp)
  have k208 : X197.cell? ⟨w11.heap.size, 2, none⟩ = some ((Value.slice a16 m17 c18)) := bx26.2 2 (by simp)
  have k209 : X197.cell? ⟨w48.heap.size, 0, none⟩ = some (Value.int .i64 (makeOw s_aOwner0 x_aList0)) := bx72.2 0 (by simp)
  have k210 : X197.cell? ⟨w48.heap.size, 1, none⟩ = some (Value.int .i64 0) := bx72.2 1 (by simp)
  have k211 : X197.cell? ⟨w48.heap.size, 2, none⟩ = some ((Value.slice a53 m54 c55)) := bx72.2 2 (by simp)
  have k212 : X197.cell? ⟨w175.heap.size, 0, none⟩ = some (Value.int .i64 (makeOw s_aOwner0 x_aList0)) := bx205.2 0 (by simp)
  have k213 : X197.cell? ⟨w175.heap.size, 1, none⟩ = some (Value.int .i64 0) := bx205.2 1 (by simp)
  have k214 : X197.cell? ⟨w175.heap.size, 2, none⟩ = some ((Value.slice a180 m181 c182)) := bx205.2 2 (by simp)
  go_wp2_with fail
  clear k191 k192 k193 k194 k195 k196 k206 k207 k208 k209 k210 k211 k212 k213 k214 hX198
  refine (eqDesc_c _ _ _ _ _ _ (Flat.of_owns o178) (FlatB.flat (FlatB.below o14 s204) s204.size)).mono ?_
  rintro e w215 ⟨rfl, b216⟩
  have t217 := Below.trans t203 (Below.mono b216 t203.size)
  have s218 := Below.trans s204 (Below.mono b216 s204.size)
  replace o116 := owns_below o116 b216
  replace o137 := owns_below o137 b216
  replace o178 := owns_below o178 b216
  replace bx26 := Box.below bx26 b216
  replace bx72 := Box.below bx72 b216
  replace bx205 := Box.below bx205 b216
  have k219 : w215.cell? ⟨w11.heap.size, 0, none⟩ = some (Value.int .i64 (makeOw s_aOwner0 x_aList0)) := bx26.2 0 (by simp)
  have k220 : w215.cell? ⟨w11.heap.size, 1, none⟩ = some (Value.int .i64 0) := bx26.2 1 (by simp)
  have k221 : w215.cell? ⟨w11.heap.size, 2, none⟩ = some ((Value.slice a16 m17 c18)) := bx26.2 2 (by simp)
  have k222 : w215.cell? ⟨w48.heap.size, 0, none⟩ = some (Value.int .i64 (makeOw s_aOwner0 x_aList0)) := bx72.2 0 (by simp)
  have k223 : w215.cell? ⟨w48.heap.size, 1, none⟩ = some (Value.int .i64 0) := bx72.2 1 (by simp)
  have k224 : w215.cell? ⟨w48.heap.size, 2, none⟩ = some ((Value.slice a53 m54 c55)) := bx72.2 2 (by simp)
  have k225 : w215.cell? ⟨w175.heap.size, 0, none⟩ = some (Value.int .i64 (makeOw s_aOwner0 x_aList0)) := bx205.2 0 (by simp)
  have k226 : w215.cell? ⟨w175.heap.size, 1, none⟩ = some (Value.int .i64 0) := bx205.2 1 (by simp)
  have k227 : w215.cell? ⟨w175.heap.size, 2, none⟩ = some ((Value.slice a180 m181 c182)) := bx205.2 2 (by simp)
  go_wp2_with fail
  clear k219 k220 k221 k222 k223 k224 k225 k226 k227
  refine (heldDesc_c _ _ _ _ _ _ (by omega) (by omega) (by omega) (Flat.of_owns o137)).mono ?_
  rintro e w228 ⟨rfl, b229⟩
  have t230 := Below.trans t217 (Below.mono b229 t217.size)
  have s231 := Below.trans s218 (Below.mono b229 s218.size)
  replace o116 := owns_below o116 b229
  replace o137 := owns_below o137 b229
  replace o178 := owns_below o178 b229
  replace bx26 := Box.below bx26 b229
  replace bx72 := Box.below bx72 b229
  replace bx205 := Box.below bx205 b229
  have k232 : w228.cell? ⟨w11.heap.size, 0, none⟩ = some (Value.int .i64 (makeOw s_aOwner0 x_aList0)) := bx26.2 0 (by simp)
  have k233 : w228.cell? ⟨w11.heap.size, 1, none⟩ = some (Value.int .i64 0) := bx26.2 1 (by simp)
  have k234 : w228.cell? ⟨w11.heap.size, 2, none⟩ = some ((Value.slice a16 m17 c18)) := bx26.2 2 (by simp)
  have k235 : w228.cell? ⟨w48.heap.size, 0, none⟩ = some (Value.int .i64 (makeOw s_aOwner0 x_aList0)) := bx72.2 0 (by simp)
  have k236 : w228.cell? ⟨w48.heap.size, 1, none⟩ = some (Value.int .i64 0) := bx72.2 1 (by simp)
  have k237 : w228.cell? ⟨w48.heap.size, 2, none⟩ = some ((Value.slice a53 m54 c55)) := bx72.2 2 (by simp)
  have k238 : w228.cell? ⟨w175.heap.size, 0, none⟩ = some (Value.int .i64 (makeOw s_aOwner0 x_aList0)) := bx205.2 0 (by simp)
  have k239 : w228.cell? ⟨w175.heap.size, 1, none⟩ = some (Value.int .i64 0) := bx205.2 1 (by simp)
  have k240 : w228.cell? ⟨w175.heap.size, 2, none⟩ = some ((Value.slice a180 m181 c182)) := bx205.2 2 (by simp)
  go_wp2_with fail
  clear k232 k233 k234 k235 k236 k237 k238 k239 k240
  try go_wp2
  go_ret
  exact ⟨rfl, hB0.trans (Below.mono t230 hB0.size)⟩

end Go.Proofs.Ytmfepmbkgomlcaa
