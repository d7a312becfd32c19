/- FnExactAnnounce, walked. -/
import Derived.Test.YtpdgpblekbongaaW7a
import Derived.Test.YtpdgpblekbongaaBx
import Derived.Test.YtpdgpblekbongaaEnc4
import Derived.Test.YtpdgpblekbongaaHop
import Derived.Test.YtpdgpblekbongaaKeep
import Derived.Deep.RegionHeld3
import Derived.Deep.Cut
import Derived.StillTailTactics
namespace Go.Proofs.Ytpdgpblekbongaa
set_option maxRecDepth 100000
open Go.RowKit Go.Proofs Go.Own
set_option linter.unusedVariables false

set_option maxRecDepth 100000 in
set_option maxHeartbeats 8000000 in
theorem law_Announce (d_aS : StoreD) (v_aS0 v_aS1 : Value) (d_aD : DescD) (v_aD0 : Value) (w : World) (h_aS0 : rdsL w v_aS0 d_aS.heads_) (h_aS1 : rdsL w v_aS1 d_aS.descs_) (h_aD0 : rdsL w v_aD0 d_aD.entries_) :
    Calls Try.prog 6 #[(.agg #[v_aS0, v_aS1]), (.agg #[.int .i64 d_aD.owner_, .int .i64 d_aD.status_, v_aD0])] w fun e w' => e = .returned (.bool true) ∧ Below w.heap.size w w' := by
  obtain ⟨a_aS0, c_aS0, rfl, -, -, -⟩ := rdsL_open h_aS0
  obtain ⟨a_aS1, c_aS1, rfl, -, -, -⟩ := rdsL_open h_aS1
  obtain ⟨a_aD0, c_aD0, rfl, -, -, -⟩ := rdsL_open h_aD0
  obtain ⟨W1, hW1⟩ : ∃ X, w.alloc (.cells #[(Value.slice a_aS0 d_aS.heads_.length c_aS0), (Value.slice a_aS1 d_aS.descs_.length c_aS1)] 25) = X := ⟨_, rfl⟩
  have hbx1 : Below w.heap.size w W1 := by rw [← hW1]; exact (Below.refl _ _).alloc (Nat.le_refl _) _
  have zw1 : W1.heap.size = w.heap.size + 1 := by rw [← hW1]; simp
  have bx_aS : Box W1 (w.heap.size) [(Value.slice a_aS0 d_aS.heads_.length c_aS0), (Value.slice a_aS1 d_aS.descs_.length c_aS1)] := by rw [← hW1]; exact Box.alloc _ _ _
  obtain ⟨W2, hW2⟩ : ∃ X, W1.alloc (.cells #[Value.int .i64 d_aD.owner_, Value.int .i64 d_aD.status_, (Value.slice a_aD0 d_aD.entries_.length c_aD0)] 51) = X := ⟨_, rfl⟩
  have hbx2 : Below W1.heap.size W1 W2 := by rw [← hW2]; exact (Below.refl _ _).alloc (Nat.le_refl _) _
  have zw2 : W2.heap.size = W1.heap.size + 1 := by rw [← hW2]; simp
  replace bx_aS := Box.below bx_aS hbx2
  have bx_aD : Box W2 (w.heap.size + 1) [Value.int .i64 d_aD.owner_, Value.int .i64 d_aD.status_, (Value.slice a_aD0 d_aD.entries_.length c_aD0)] := by rw [← hW2, ← zw1]; exact Box.alloc _ _ _
  have hB0 : Below w.heap.size w W2 := (hbx1.trans (hbx2.mono (by omega)))
  replace h_aS0 := rdsL.below h_aS0 hB0
  replace h_aS1 := rdsL.below h_aS1 hB0
  replace h_aD0 := rdsL.below h_aD0 hB0
  have tt0 : Below W2.heap.size W2 W2 := Below.refl _ _
  have zb0 : W2.heap.size ≤ W2.heap.size := Nat.le_refl _
  go_enter Try.func6, Try.ntmps6
  have k1 : W2.cell? ⟨w.heap.size, 0, none⟩ = some ((Value.slice a_aS0 d_aS.heads_.length c_aS0)) := bx_aS.2 0 (by simp)
  have k2 : W2.cell? ⟨w.heap.size, 1, none⟩ = some ((Value.slice a_aS1 d_aS.descs_.length c_aS1)) := bx_aS.2 1 (by simp)
  have k3 : W2.cell? ⟨w.heap.size + 1, 0, none⟩ = some (Value.int .i64 d_aD.owner_) := bx_aD.2 0 (by simp)
  have k4 : W2.cell? ⟨w.heap.size + 1, 1, none⟩ = some (Value.int .i64 d_aD.status_) := bx_aD.2 1 (by simp)
  have k5 : W2.cell? ⟨w.heap.size + 1, 2, none⟩ = some ((Value.slice a_aD0 d_aD.entries_.length c_aD0)) := bx_aD.2 2 (by simp)
  go_wp2_with fail
  clear k1 k2 k3 k4 k5 hW1 hW2
  have hl0_aS : 0 ≤ (1048576 : Int) := by omega
  refine (szStore_o d_aS (Value.slice a_aS0 d_aS.heads_.length c_aS0) (Value.slice a_aS1 d_aS.descs_.length c_aS1) _ _ (by omega) (by omega) (rdsL.below h_aS0 tt0) (rdsL.below h_aS1 tt0)).mono ?_
  rintro e w6 ⟨rfl, b7⟩
  have t8 := Below.trans tt0 (Below.mono b7 zb0)
  replace bx_aS := Box.below bx_aS b7
  replace bx_aD := Box.below bx_aD b7
  have z9 := Below.size b7
  replace zb0 : W2.heap.size ≤ w6.heap.size := by omega
  by_cases big_aS : (1048576 : Int) < (szStoreD d_aS : Int)
  · rw [szR_of, if_pos big_aS]
    go_wp2
    go_ret
    exact ⟨rfl, hB0.trans (Below.mono t8 hB0.size)⟩
  rw [szR_of, if_neg big_aS]
  have k10 : w6.cell? ⟨w.heap.size, 0, none⟩ = some ((Value.slice a_aS0 d_aS.heads_.length c_aS0)) := bx_aS.2 0 (by simp)
  have k11 : w6.cell? ⟨w.heap.size, 1, none⟩ = some ((Value.slice a_aS1 d_aS.descs_.length c_aS1)) := bx_aS.2 1 (by simp)
  have k12 : w6.cell? ⟨w.heap.size + 1, 0, none⟩ = some (Value.int .i64 d_aD.owner_) := bx_aD.2 0 (by simp)
  have k13 : w6.cell? ⟨w.heap.size + 1, 1, none⟩ = some (Value.int .i64 d_aD.status_) := bx_aD.2 1 (by simp)
  have k14 : w6.cell? ⟨w.heap.size + 1, 2, none⟩ = some ((Value.slice a_aD0 d_aD.entries_.length c_aD0)) := bx_aD.2 2 (by simp)
  go_wp2_with fail
  clear k10 k11 k12 k13 k14
  have hl0_aD : 0 ≤ (1048576 : Int) - (szStoreD d_aS : Int) := by omega
  refine (szDesc_o d_aD (Value.slice a_aD0 d_aD.entries_.length c_aD0) _ _ (by omega) (by omega) (rdsL.below h_aD0 t8)).mono ?_
  rintro e w15 ⟨rfl, b16⟩
  have t17 := Below.trans t8 (Below.mono b16 zb0)
  replace bx_aS := Box.below bx_aS b16
  replace bx_aD := Box.below bx_aD b16
  have z18 := Below.size b16
  replace zb0 : W2.heap.size ≤ w15.heap.size := by omega
  by_cases big_aD : (1048576 : Int) - (szStoreD d_aS : Int) < (szDescD d_aD : Int)
  · rw [szR_of, if_pos big_aD]
    go_wp2
    go_ret
    exact ⟨rfl, hB0.trans (Below.mono t17 hB0.size)⟩
  rw [szR_of, if_neg big_aD]
  have k19 : w15.cell? ⟨w.heap.size, 0, none⟩ = some ((Value.slice a_aS0 d_aS.heads_.length c_aS0)) := bx_aS.2 0 (by simp)
  have k20 : w15.cell? ⟨w.heap.size, 1, none⟩ = some ((Value.slice a_aS1 d_aS.descs_.length c_aS1)) := bx_aS.2 1 (by simp)
  have k21 : w15.cell? ⟨w.heap.size + 1, 0, none⟩ = some (Value.int .i64 d_aD.owner_) := bx_aD.2 0 (by simp)
  have k22 : w15.cell? ⟨w.heap.size + 1, 1, none⟩ = some (Value.int .i64 d_aD.status_) := bx_aD.2 1 (by simp)
  have k23 : w15.cell? ⟨w.heap.size + 1, 2, none⟩ = some ((Value.slice a_aD0 d_aD.entries_.length c_aD0)) := bx_aD.2 2 (by simp)
  go_upto_region 8 with fail
  clear k19 k20 k21 k22 k23
  have hb_aS : StoreB d_aS := by show _ ≤ 1048576; have := big_aS; unfold szStoreD at *; omega
  have hb_aD : DescB d_aD := by show _ ≤ 1048576; have := big_aD; unfold szDescD at *; omega
  go_cut [6, 7, 8] from 20 (fun p6 p7 p8 wx => ∃ (Be24_0 : Nat) (ue24_00 ue24_01 : Value) (Se24_00 Se24_01 : Nat → Prop), p7 = (.int .i64 (annN d_aS.heads_ d_aS.descs_ d_aD)) ∧ p8 = (.bool (annOk d_aS.heads_ d_aS.descs_ d_aD)) ∧ p6 = Value.pointer (some ⟨Be24_0, 0, none⟩) ∧ Box wx Be24_0 [ue24_00, ue24_01] ∧ w15.heap.size ≤ Be24_0 ∧ ownL Se24_00 wx ue24_00 (annD d_aS d_aD).heads_ ∧ ownL Se24_01 wx ue24_01 (annD d_aS d_aD).descs_ ∧ (∀ b, Se24_00 b → Rg w15.heap.size wx.heap.size b ∧ b ≠ Be24_0) ∧ (∀ b, Se24_01 b → Rg w15.heap.size wx.heap.size b ∧ b ≠ Be24_0) ∧ (∀ b, Se24_00 b → ¬ Se24_01 b) ∧ StoreB (annD d_aS d_aD) ∧ Below w15.heap.size w15 wx)
  case first =>
    have lt61 := (bx_aS).1
    have lt62 := (bx_aD).1
    have k63 : w15.cell? ⟨w.heap.size, 0, none⟩ = some ((Value.slice a_aS0 d_aS.heads_.length c_aS0)) := bx_aS.2 0 (by simp)
    have k64 : w15.cell? ⟨w.heap.size, 1, none⟩ = some ((Value.slice a_aS1 d_aS.descs_.length c_aS1)) := bx_aS.2 1 (by simp)
    have k65 : w15.cell? ⟨w.heap.size + 1, 0, none⟩ = some (Value.int .i64 d_aD.owner_) := bx_aD.2 0 (by simp)
    have k66 : w15.cell? ⟨w.heap.size + 1, 1, none⟩ = some (Value.int .i64 d_aD.status_) := bx_aD.2 1 (by simp)
    have k67 : w15.cell? ⟨w.heap.size + 1, 2, none⟩ = some ((Value.slice a_aD0 d_aD.entries_.length c_aD0)) := bx_aD.2 2 (by simp)
    have mkS68 : ∀ w' : World, Below w15.heap.size w15 w' → w15.heap.size ≤ w'.heap.size → (Below w15.heap.size w15 w' ∧ w15.heap.size ≤ w'.heap.size ∧ w'.cell? ⟨w.heap.size, 0, none⟩ = some ((Value.slice a_aS0 d_aS.heads_.length c_aS0)) ∧ w'.cell? ⟨w.heap.size, 1, none⟩ = some ((Value.slice a_aS1 d_aS.descs_.length c_aS1)) ∧ w'.cell? ⟨w.heap.size + 1, 0, none⟩ = some (Value.int .i64 d_aD.owner_) ∧ w'.cell? ⟨w.heap.size + 1, 1, none⟩ = some (Value.int .i64 d_aD.status_) ∧ w'.cell? ⟨w.heap.size + 1, 2, none⟩ = some ((Value.slice a_aD0 d_aD.entries_.length c_aD0))) := fun w' H Z => ⟨H, Z, (H.cell (p := ⟨w.heap.size, 0, none⟩) lt61).trans k63, (H.cell (p := ⟨w.heap.size, 1, none⟩) lt61).trans k64, (H.cell (p := ⟨w.heap.size + 1, 0, none⟩) lt62).trans k65, (H.cell (p := ⟨w.heap.size + 1, 1, none⟩) lt62).trans k66, (H.cell (p := ⟨w.heap.size + 1, 2, none⟩) lt62).trans k67⟩
    go_region_held3 (fun w' => Below w15.heap.size w15 w' ∧ w15.heap.size ≤ w'.heap.size ∧ w'.cell? ⟨w.heap.size, 0, none⟩ = some ((Value.slice a_aS0 d_aS.heads_.length c_aS0)) ∧ w'.cell? ⟨w.heap.size, 1, none⟩ = some ((Value.slice a_aS1 d_aS.descs_.length c_aS1)) ∧ w'.cell? ⟨w.heap.size + 1, 0, none⟩ = some (Value.int .i64 d_aD.owner_) ∧ w'.cell? ⟨w.heap.size + 1, 1, none⟩ = some (Value.int .i64 d_aD.status_) ∧ w'.cell? ⟨w.heap.size + 1, 2, none⟩ = some ((Value.slice a_aD0 d_aD.entries_.length c_aD0)))
      (first | exact ⟨(Below.refl _ _).drew, Nat.le_refl _, k63, k64, k65, k66, k67⟩ | exact keepBox5 (by omega) ‹_› ‹_› | exact keepBox5 (by omega) ‹_› ((Below.refl _ _).alloc (Nat.le_refl _) _) | exact mkS68 _ (Below.alloc hq_w47 (Below.size hq_w47) _) (Nat.le_trans (Below.size hq_w47) (by simp)) | exact mkS68 _ (Below.setCell (Below.setCell (And.left ‹Below w15.heap.size w15 _ ∧ _›) fg_0 _) fg_0 _) (Nat.le_trans (And.left (And.right ‹Below w15.heap.size w15 _ ∧ _›)) (by simp [World.setCell])))
      (first
    | (go_at_call 26; have hz_w47 := hq_w40; refine (spec_AnnounceW d_aS _ _ d_aD _ _ (rdsL.below (ownL.rds o31) (by first | exact at0 hr_w27_w40 (Below.size hr_w27_w40) | exact at1 hr_w27_w40 (Below.size hr_w27_w40) | exact at2 hr_w27_w40 (Below.size hr_w27_w40))) (rdsL.below (ownL.rds o36) (by first | exact at0 hr_w27_w40 (Below.size hr_w27_w40) | exact at1 hr_w27_w40 (Below.size hr_w27_w40) | exact at2 hr_w27_w40 (Below.size hr_w27_w40))) hb_aS (rdsL.below (ownL.rds o44) (by first | exact at0 (Below.refl _ _ : Below w40.heap.size w40 w40) (Nat.le_refl _ : w40.heap.size ≤ w40.heap.size) | exact at1 (Below.refl _ _ : Below w40.heap.size w40 w40) (Nat.le_refl _ : w40.heap.size ≤ w40.heap.size) | exact at2 (Below.refl _ _ : Below w40.heap.size w40 w40) (Nat.le_refl _ : w40.heap.size ≤ w40.heap.size))) hb_aD).mono ?_; rintro e w47 ⟨u49, u54, S50, S55, rfl, o51, o56, r52, r57, dj59, hb60, b48⟩; have hq_w47 : Below w15.heap.size w15 w47 := (by first | exact hop0 hq_w40 (Below.size hq_w40) b48 | exact hop1 hq_w40 (Below.size hq_w40) b48 | exact hop2 hq_w40 (Below.size hq_w40) b48); have zy : w15.heap.size ≤ _ := (by first | exact le0 (Below.size hq_w40) b48 | exact le1 (Below.size hq_w40) b48 | exact le2 (Below.size hq_w40) b48); (first | (have fz := boxhop0 fb_0 b48; obtain ⟨fb_0, fl_0⟩ := fz) | (have fz := boxnewd (cs := #[Value.slice none 0 0, Value.slice none 0 0]) (t := 31) b48; obtain ⟨fb_0, fl_0⟩ := fz; have fg_0 := (Below.size hq_w40)) | (have fz := boxnew0 (cs := #[Value.slice none 0 0, Value.slice none 0 0]) (t := 31) b48; obtain ⟨fb_0, fl_0⟩ := fz; have fg_0 := (Below.size hq_w40)) | skip); obtain ⟨u49a, u49m, u49c, rfl⟩ := ownL_shape o51; obtain ⟨u54a, u54m, u54c, rfl⟩ := ownL_shape o56; (first | (have fz := box_cells2 fb_0; obtain ⟨nb_0_0, nb_0_1, nf_0_0, nf_0_1, nq_0⟩ := fz) | skip))
    | (go_at_call 27; have hz_w40 := hq_w27; refine (toDesc_o d_aD (Value.slice a_aD0 d_aD.entries_.length c_aD0) _ (rdsL.below (rdsL.below h_aD0 t17) (by first | exact at0 hq_w27 (Below.size hq_w27) | exact at1 hq_w27 (Below.size hq_w27) | exact at2 hq_w27 (Below.size hq_w27))) hb_aD).mono ?_; rintro e w40 ⟨u42, S43, rfl, o44, r45, b41⟩; have hq_w40 : Below w15.heap.size w15 w40 := (by first | exact hop0 hq_w27 (Below.size hq_w27) b41 | exact hop1 hq_w27 (Below.size hq_w27) b41 | exact hop2 hq_w27 (Below.size hq_w27) b41); have hr_w27_w40 : Below w27.heap.size w27 w40 := (by first | exact hop0 (Below.refl _ _) (Nat.le_refl _) b41 | exact hop1 (Below.refl _ _) (Nat.le_refl _) b41 | exact hop2 (Below.refl _ _) (Nat.le_refl _) b41); (first | (have fz := boxhop0 fb_0 b41; obtain ⟨fb_0, fl_0⟩ := fz) | (have fz := boxnewd (cs := #[Value.slice none 0 0, Value.slice none 0 0]) (t := 31) b41; obtain ⟨fb_0, fl_0⟩ := fz; have fg_0 := (Below.size hq_w27)) | (have fz := boxnew0 (cs := #[Value.slice none 0 0, Value.slice none 0 0]) (t := 31) b41; obtain ⟨fb_0, fl_0⟩ := fz; have fg_0 := (Below.size hq_w27)) | skip))
    | (go_at_call 12; refine (toStore_o d_aS (Value.slice a_aS0 d_aS.heads_.length c_aS0) (Value.slice a_aS1 d_aS.descs_.length c_aS1) _ (rdsL.below (rdsL.below h_aS0 t17) (by first | exact at0 ((Below.refl _ _).drew : Below w15.heap.size w15 w15.drew) (Nat.le_refl _ : w15.heap.size ≤ w15.drew.heap.size) | exact at1 ((Below.refl _ _).drew : Below w15.heap.size w15 w15.drew) (Nat.le_refl _ : w15.heap.size ≤ w15.drew.heap.size) | exact at2 ((Below.refl _ _).drew : Below w15.heap.size w15 w15.drew) (Nat.le_refl _ : w15.heap.size ≤ w15.drew.heap.size))) (rdsL.below (rdsL.below h_aS1 t17) (by first | exact at0 ((Below.refl _ _).drew : Below w15.heap.size w15 w15.drew) (Nat.le_refl _ : w15.heap.size ≤ w15.drew.heap.size) | exact at1 ((Below.refl _ _).drew : Below w15.heap.size w15 w15.drew) (Nat.le_refl _ : w15.heap.size ≤ w15.drew.heap.size) | exact at2 ((Below.refl _ _).drew : Below w15.heap.size w15 w15.drew) (Nat.le_refl _ : w15.heap.size ≤ w15.drew.heap.size))) hb_aS).mono ?_; rintro e w27 ⟨u29, u34, S30, S35, rfl, o31, o36, r32, r37, dj39, b28⟩; have hq_w27 : Below w15.heap.size w15 w27 := (by first | exact hop0 ((Below.refl _ _).drew : Below w15.heap.size w15 w15.drew) (Nat.le_refl _ : w15.heap.size ≤ w15.drew.heap.size) b28 | exact hop1 ((Below.refl _ _).drew : Below w15.heap.size w15 w15.drew) (Nat.le_refl _ : w15.heap.size ≤ w15.drew.heap.size) b28 | exact hop2 ((Below.refl _ _).drew : Below w15.heap.size w15 w15.drew) (Nat.le_refl _ : w15.heap.size ≤ w15.drew.heap.size) b28); (first | (have fz := boxhop0 fb_0 b28; obtain ⟨fb_0, fl_0⟩ := fz) | (have fz := boxnewd (cs := #[Value.slice none 0 0, Value.slice none 0 0]) (t := 31) b28; obtain ⟨fb_0, fl_0⟩ := fz; have fg_0 := (Nat.le_refl _ : w15.heap.size ≤ w15.drew.heap.size)) | (have fz := boxnew0 (cs := #[Value.slice none 0 0, Value.slice none 0 0]) (t := 31) b28; obtain ⟨fb_0, fl_0⟩ := fz; have fg_0 := (Nat.le_refl _ : w15.heap.size ≤ w15.drew.heap.size)) | skip)))
    all_goals clear mkS68 k63 k64 k65 k66 k67
    all_goals go_wp2_with fail
    all_goals go_meet
    all_goals exact ⟨_, _, _, S50, S55, rfl, rfl, rfl, (by first | exact Box.alloc _ _ _ | exact ((fb_0.set 0 (by simp) _).set 1 (by simp) _).1), (by first | exact fg_0 | exact Below.size hq_w47), (by first | exact own_alloc o51 (fun b hb => (r52 b hb).2) | exact (own_set (own_set o51 (fun b hb => by have y := r52 b hb; have y1 := y.1; have y2 := y.2; omega)) (fun b hb => by have y := r52 b hb; have y1 := y.1; have y2 := y.2; omega))), (by first | exact own_alloc o56 (fun b hb => (r57 b hb).2) | exact (own_set (own_set o56 (fun b hb => by have y := r57 b hb; have y1 := y.1; have y2 := y.2; omega)) (fun b hb => by have y := r57 b hb; have y1 := y.1; have y2 := y.2; omega))), (fun b hb => by have y := r52 b hb; have y1 := y.1; have y2 := y.2; exact ⟨⟨by omega, by simp [World.setCell] <;> omega⟩, by omega⟩), (fun b hb => by have y := r57 b hb; have y1 := y.1; have y2 := y.2; exact ⟨⟨by omega, by simp [World.setCell] <;> omega⟩, by omega⟩), dj59, hb60, (by first | exact Below.alloc hq_w47 (Below.size hq_w47) _ | exact (Below.setCell (Below.setCell hq_w47 fg_0 _) fg_0 _))⟩
  obtain ⟨Be24_0, ue24_00, ue24_01, Se24_00, Se24_01, rfl, rfl, rfl, bxe24_0, bge24_0, oe24_00, oe24_01, re24_00, re24_01, dje24_001, hbe24_0, b70⟩ := hcut
  obtain ⟨w69, hwe24⟩ : ∃ X, X = wc := ⟨_, rfl⟩
  rw [← hwe24] at bxe24_0 oe24_00 oe24_01 re24_00 re24_01 b70 ⊢
  clear hwe24
  clear wc
  have t71 := Below.trans t17 (Below.mono b70 zb0)
  replace bx_aS := Box.below bx_aS b70
  replace bx_aD := Box.below bx_aD b70
  have z72 := Below.size b70
  replace zb0 : W2.heap.size ≤ w69.heap.size := by omega
  obtain ⟨a73, m74, c75, rfl⟩ := ownL_shape oe24_00
  have hs25 := fun q hq => (re24_00 q hq).1.2
  obtain ⟨a76, m77, c78, rfl⟩ := ownL_shape oe24_01
  have hs26 := fun q hq => (re24_01 q hq).1.2
  have lte24_0 := bxe24_0.1
  have oe24_00 := ownL.rds oe24_00
  have oe24_01 := ownL.rds oe24_01
  have s79 : Below w69.heap.size w69 w69 := Below.refl _ _
  have za0 : w69.heap.size ≤ w69.heap.size := Nat.le_refl _
  have k80 : w69.cell? ⟨w.heap.size, 0, none⟩ = some ((Value.slice a_aS0 d_aS.heads_.length c_aS0)) := bx_aS.2 0 (by simp)
  have k81 : w69.cell? ⟨w.heap.size, 1, none⟩ = some ((Value.slice a_aS1 d_aS.descs_.length c_aS1)) := bx_aS.2 1 (by simp)
  have k82 : w69.cell? ⟨w.heap.size + 1, 0, none⟩ = some (Value.int .i64 d_aD.owner_) := bx_aD.2 0 (by simp)
  have k83 : w69.cell? ⟨w.heap.size + 1, 1, none⟩ = some (Value.int .i64 d_aD.status_) := bx_aD.2 1 (by simp)
  have k84 : w69.cell? ⟨w.heap.size + 1, 2, none⟩ = some ((Value.slice a_aD0 d_aD.entries_.length c_aD0)) := bx_aD.2 2 (by simp)
  have k85 : w69.cell? ⟨Be24_0, 0, none⟩ = some ((Value.slice a73 m74 c75)) := bxe24_0.2 0 (by simp)
  have k86 : w69.cell? ⟨Be24_0, 1, none⟩ = some ((Value.slice a76 m77 c78)) := bxe24_0.2 1 (by simp)
  go_wp2_with fail
  clear k80 k81 k82 k83 k84 k85 k86
  refine (toStore_o d_aS (Value.slice a_aS0 d_aS.heads_.length c_aS0) (Value.slice a_aS1 d_aS.descs_.length c_aS1) _ (rdsL.below h_aS0 t71) (rdsL.below h_aS1 t71) hb_aS).mono ?_
  rintro e w87 ⟨u89, u94, S90, S95, rfl, o91, o96, r92, r97, dj99, b88⟩
  have t100 := Below.trans t71 (Below.mono b88 zb0)
  have s101 := Below.trans s79 (Below.mono b88 za0)
  replace bx_aS := Box.below bx_aS b88
  replace bx_aD := Box.below bx_aD b88
  replace bxe24_0 := Box.below bxe24_0 b88
  have z102 := Below.size b88
  replace zb0 : W2.heap.size ≤ w87.heap.size := by omega
  replace za0 : w69.heap.size ≤ w87.heap.size := by omega
  obtain ⟨a103, m104, c105, rfl⟩ := ownL_shape o91
  have hs93 := fun q hq => (r92 q hq).2
  obtain ⟨a106, m107, c108, rfl⟩ := ownL_shape o96
  have hs98 := fun q hq => (r97 q hq).2
  have k109 : w87.cell? ⟨w.heap.size, 0, none⟩ = some ((Value.slice a_aS0 d_aS.heads_.length c_aS0)) := bx_aS.2 0 (by simp)
  have k110 : w87.cell? ⟨w.heap.size, 1, none⟩ = some ((Value.slice a_aS1 d_aS.descs_.length c_aS1)) := bx_aS.2 1 (by simp)
  have k111 : w87.cell? ⟨w.heap.size + 1, 0, none⟩ = some (Value.int .i64 d_aD.owner_) := bx_aD.2 0 (by simp)
  have k112 : w87.cell? ⟨w.heap.size + 1, 1, none⟩ = some (Value.int .i64 d_aD.status_) := bx_aD.2 1 (by simp)
  have k113 : w87.cell? ⟨w.heap.size + 1, 2, none⟩ = some ((Value.slice a_aD0 d_aD.entries_.length c_aD0)) := bx_aD.2 2 (by simp)
  have k114 : w87.cell? ⟨Be24_0, 0, none⟩ = some ((Value.slice a73 m74 c75)) := bxe24_0.2 0 (by simp)
  have k115 : w87.cell? ⟨Be24_0, 1, none⟩ = some ((Value.slice a76 m77 c78)) := bxe24_0.2 1 (by simp)
  obtain ⟨X116, hX117⟩ : ∃ X, w87.alloc (.cells #[(Value.slice a103 m104 c105), (Value.slice a106 m107 c108)] 31) = X := ⟨_, rfl⟩
  have bX118 : Below w87.heap.size w87 X116 := by rw [← hX117]; exact (Below.refl _ _).alloc (Nat.le_refl _) _
  have zX116 : X116.heap.size = w87.heap.size + 1 := by rw [← hX117]; simp
  have t119 := Below.trans t100 (Below.mono bX118 zb0)
  have s120 := Below.trans s101 (Below.mono bX118 za0)
  replace o91 := ownL.keep o91 (fun q hq => Below.block bX118 q (hs93 q hq))
  replace hs93 := fun q hq => Nat.lt_of_lt_of_le (hs93 q hq) (Below.size bX118)
  replace o96 := ownL.keep o96 (fun q hq => Below.block bX118 q (hs98 q hq))
  replace hs98 := fun q hq => Nat.lt_of_lt_of_le (hs98 q hq) (Below.size bX118)
  replace bx_aS := Box.below bx_aS bX118
  replace bx_aD := Box.below bx_aD bX118
  replace bxe24_0 := Box.below bxe24_0 bX118
  have z121 := Below.size bX118
  replace zb0 : W2.heap.size ≤ X116.heap.size := by omega
  replace za0 : w69.heap.size ≤ X116.heap.size := by omega
  have bx122 : Box X116 (w87.heap.size) [(Value.slice a103 m104 c105), (Value.slice a106 m107 c108)] := by rw [← hX117]; exact Box.alloc _ _ _
  have k123 : X116.cell? ⟨w.heap.size, 0, none⟩ = some ((Value.slice a_aS0 d_aS.heads_.length c_aS0)) := bx_aS.2 0 (by simp)
  have k124 : X116.cell? ⟨w.heap.size, 1, none⟩ = some ((Value.slice a_aS1 d_aS.descs_.length c_aS1)) := bx_aS.2 1 (by simp)
  have k125 : X116.cell? ⟨w.heap.size + 1, 0, none⟩ = some (Value.int .i64 d_aD.owner_) := bx_aD.2 0 (by simp)
  have k126 : X116.cell? ⟨w.heap.size + 1, 1, none⟩ = some (Value.int .i64 d_aD.status_) := bx_aD.2 1 (by simp)
  have k127 : X116.cell? ⟨w.heap.size + 1, 2, none⟩ = some ((Value.slice a_aD0 d_aD.entries_.length c_aD0)) := bx_aD.2 2 (by simp)
  have k128 : X116.cell? ⟨Be24_0, 0, none⟩ = some ((Value.slice a73 m74 c75)) := bxe24_0.2 0 (by simp)
  have k129 : X116.cell? ⟨Be24_0, 1, none⟩ = some ((Value.slice a76 m77 c78)) := bxe24_0.2 1 (by simp)
  have k130 : X116.cell? ⟨w87.heap.size, 0, none⟩ = some ((Value.slice a103 m104 c105)) := bx122.2 0 (by simp)
  have k131 : X116.cell? ⟨w87.heap.size, 1, none⟩ = some ((Value.slice a106 m107 c108)) := bx122.2 1 (by simp)
  go_wp2_with fail
  clear k109 k110 k111 k112 k113 k114 k115 k123 k124 k125 k126 k127 k128 k129 k130 k131 hX117
  refine (toDesc_o d_aD (Value.slice a_aD0 d_aD.entries_.length c_aD0) _ (rdsL.below h_aD0 t119) hb_aD).mono ?_
  rintro e w132 ⟨u134, S135, rfl, o136, r137, b133⟩
  have t139 := Below.trans t119 (Below.mono b133 zb0)
  have s140 := Below.trans s120 (Below.mono b133 za0)
  replace o91 := ownL.keep o91 (fun q hq => Below.block b133 q (hs93 q hq))
  replace hs93 := fun q hq => Nat.lt_of_lt_of_le (hs93 q hq) (Below.size b133)
  replace o96 := ownL.keep o96 (fun q hq => Below.block b133 q (hs98 q hq))
  replace hs98 := fun q hq => Nat.lt_of_lt_of_le (hs98 q hq) (Below.size b133)
  replace bx_aS := Box.below bx_aS b133
  replace bx_aD := Box.below bx_aD b133
  replace bxe24_0 := Box.below bxe24_0 b133
  replace bx122 := Box.below bx122 b133
  have z141 := Below.size b133
  replace zb0 : W2.heap.size ≤ w132.heap.size := by omega
  replace za0 : w69.heap.size ≤ w132.heap.size := by omega
  obtain ⟨a142, m143, c144, rfl⟩ := ownL_shape o136
  have hs138 := fun q hq => (r137 q hq).2
  have k145 : w132.cell? ⟨w.heap.size, 0, none⟩ = some ((Value.slice a_aS0 d_aS.heads_.length c_aS0)) := bx_aS.2 0 (by simp)
  have k146 : w132.cell? ⟨w.heap.size, 1, none⟩ = some ((Value.slice a_aS1 d_aS.descs_.length c_aS1)) := bx_aS.2 1 (by simp)
  have k147 : w132.cell? ⟨w.heap.size + 1, 0, none⟩ = some (Value.int .i64 d_aD.owner_) := bx_aD.2 0 (by simp)
  have k148 : w132.cell? ⟨w.heap.size + 1, 1, none⟩ = some (Value.int .i64 d_aD.status_) := bx_aD.2 1 (by simp)
  have k149 : w132.cell? ⟨w.heap.size + 1, 2, none⟩ = some ((Value.slice a_aD0 d_aD.entries_.length c_aD0)) := bx_aD.2 2 (by simp)
  have k150 : w132.cell? ⟨Be24_0, 0, none⟩ = some ((Value.slice a73 m74 c75)) := bxe24_0.2 0 (by simp)
  have k151 : w132.cell? ⟨Be24_0, 1, none⟩ = some ((Value.slice a76 m77 c78)) := bxe24_0.2 1 (by simp)
  have k152 : w132.cell? ⟨w87.heap.size, 0, none⟩ = some ((Value.slice a103 m104 c105)) := bx122.2 0 (by simp)
  have k153 : w132.cell? ⟨w87.heap.size, 1, none⟩ = some ((Value.slice a106 m107 c108)) := bx122.2 1 (by simp)
  obtain ⟨X154, hX155⟩ : ∃ X, w132.alloc (.cells #[Value.int .i64 d_aD.owner_, Value.int .i64 d_aD.status_, (Value.slice a142 m143 c144)] 57) = X := ⟨_, rfl⟩
  have bX156 : Below w132.heap.size w132 X154 := by rw [← hX155]; exact (Below.refl _ _).alloc (Nat.le_refl _) _
  have zX154 : X154.heap.size = w132.heap.size + 1 := by rw [← hX155]; simp
  have t157 := Below.trans t139 (Below.mono bX156 zb0)
  have s158 := Below.trans s140 (Below.mono bX156 za0)
  replace o91 := ownL.keep o91 (fun q hq => Below.block bX156 q (hs93 q hq))
  replace hs93 := fun q hq => Nat.lt_of_lt_of_le (hs93 q hq) (Below.size bX156)
  replace o96 := ownL.keep o96 (fun q hq => Below.block bX156 q (hs98 q hq))
  replace hs98 := fun q hq => Nat.lt_of_lt_of_le (hs98 q hq) (Below.size bX156)
  replace o136 := ownL.keep o136 (fun q hq => Below.block bX156 q (hs138 q hq))
  replace hs138 := fun q hq => Nat.lt_of_lt_of_le (hs138 q hq) (Below.size bX156)
  replace bx_aS := Box.below bx_aS bX156
  replace bx_aD := Box.below bx_aD bX156
  replace bxe24_0 := Box.below bxe24_0 bX156
  replace bx122 := Box.below bx122 bX156
  have z159 := Below.size bX156
  replace zb0 : W2.heap.size ≤ X154.heap.size := by omega
  replace za0 : w69.heap.size ≤ X154.heap.size := by omega
  have bx160 : Box X154 (w132.heap.size) [Value.int .i64 d_aD.owner_, Value.int .i64 d_aD.status_, (Value.slice a142 m143 c144)] := by rw [← hX155]; exact Box.alloc _ _ _
  have k161 : X154.cell? ⟨w.heap.size, 0, none⟩ = some ((Value.slice a_aS0 d_aS.heads_.length c_aS0)) := bx_aS.2 0 (by simp)
  have k162 : X154.cell? ⟨w.heap.size, 1, none⟩ = some ((Value.slice a_aS1 d_aS.descs_.length c_aS1)) := bx_aS.2 1 (by simp)
  have k163 : X154.cell? ⟨w.heap.size + 1, 0, none⟩ = some (Value.int .i64 d_aD.owner_) := bx_aD.2 0 (by simp)
  have k164 : X154.cell? ⟨w.heap.size + 1, 1, none⟩ = some (Value.int .i64 d_aD.status_) := bx_aD.2 1 (by simp)
  have k165 : X154.cell? ⟨w.heap.size + 1, 2, none⟩ = some ((Value.slice a_aD0 d_aD.entries_.length c_aD0)) := bx_aD.2 2 (by simp)
  have k166 : X154.cell? ⟨Be24_0, 0, none⟩ = some ((Value.slice a73 m74 c75)) := bxe24_0.2 0 (by simp)
  have k167 : X154.cell? ⟨Be24_0, 1, none⟩ = some ((Value.slice a76 m77 c78)) := bxe24_0.2 1 (by simp)
  have k168 : X154.cell? ⟨w87.heap.size, 0, none⟩ = some ((Value.slice a103 m104 c105)) := bx122.2 0 (by simp)
  have k169 : X154.cell? ⟨w87.heap.size, 1, none⟩ = some ((Value.slice a106 m107 c108)) := bx122.2 1 (by simp)
  have k170 : X154.cell? ⟨w132.heap.size, 0, none⟩ = some (Value.int .i64 d_aD.owner_) := bx160.2 0 (by simp)
  have k171 : X154.cell? ⟨w132.heap.size, 1, none⟩ = some (Value.int .i64 d_aD.status_) := bx160.2 1 (by simp)
  have k172 : X154.cell? ⟨w132.heap.size, 2, none⟩ = some ((Value.slice a142 m143 c144)) := bx160.2 2 (by simp)
  go_wp2_with fail
  clear k145 k146 k147 k148 k149 k150 k151 k152 k153 k161 k162 k163 k164 k165 k166 k167 k168 k169 k170 k171 k172 hX155
  refine (impl_AnnounceW d_aS (Value.slice a103 m104 c105) (Value.slice a106 m107 c108) d_aD (Value.slice a142 m143 c144) _ (ownL.rds o91) (ownL.rds o96) hb_aS (ownL.rds o136) hb_aD).mono ?_
  rintro e w173 ⟨u175, u180, S176, S181, rfl, o177, o182, r178, r183, dj185, hb186, b174⟩
  have t187 := Below.trans t157 (Below.mono b174 zb0)
  have s188 := Below.trans s158 (Below.mono b174 za0)
  replace o91 := ownL.keep o91 (fun q hq => Below.block b174 q (hs93 q hq))
  replace hs93 := fun q hq => Nat.lt_of_lt_of_le (hs93 q hq) (Below.size b174)
  replace o96 := ownL.keep o96 (fun q hq => Below.block b174 q (hs98 q hq))
  replace hs98 := fun q hq => Nat.lt_of_lt_of_le (hs98 q hq) (Below.size b174)
  replace o136 := ownL.keep o136 (fun q hq => Below.block b174 q (hs138 q hq))
  replace hs138 := fun q hq => Nat.lt_of_lt_of_le (hs138 q hq) (Below.size b174)
  replace bx_aS := Box.below bx_aS b174
  replace bx_aD := Box.below bx_aD b174
  replace bxe24_0 := Box.below bxe24_0 b174
  replace bx122 := Box.below bx122 b174
  replace bx160 := Box.below bx160 b174
  have z189 := Below.size b174
  replace zb0 : W2.heap.size ≤ w173.heap.size := by omega
  replace za0 : w69.heap.size ≤ w173.heap.size := by omega
  obtain ⟨a190, m191, c192, rfl⟩ := ownL_shape o177
  have hs179 := fun q hq => (r178 q hq).2
  obtain ⟨a193, m194, c195, rfl⟩ := ownL_shape o182
  have hs184 := fun q hq => (r183 q hq).2
  have k196 : w173.cell? ⟨w.heap.size, 0, none⟩ = some ((Value.slice a_aS0 d_aS.heads_.length c_aS0)) := bx_aS.2 0 (by simp)
  have k197 : w173.cell? ⟨w.heap.size, 1, none⟩ = some ((Value.slice a_aS1 d_aS.descs_.length c_aS1)) := bx_aS.2 1 (by simp)
  have k198 : w173.cell? ⟨w.heap.size + 1, 0, none⟩ = some (Value.int .i64 d_aD.owner_) := bx_aD.2 0 (by simp)
  have k199 : w173.cell? ⟨w.heap.size + 1, 1, none⟩ = some (Value.int .i64 d_aD.status_) := bx_aD.2 1 (by simp)
  have k200 : w173.cell? ⟨w.heap.size + 1, 2, none⟩ = some ((Value.slice a_aD0 d_aD.entries_.length c_aD0)) := bx_aD.2 2 (by simp)
  have k201 : w173.cell? ⟨Be24_0, 0, none⟩ = some ((Value.slice a73 m74 c75)) := bxe24_0.2 0 (by simp)
  have k202 : w173.cell? ⟨Be24_0, 1, none⟩ = some ((Value.slice a76 m77 c78)) := bxe24_0.2 1 (by simp)
  have k203 : w173.cell? ⟨w87.heap.size, 0, none⟩ = some ((Value.slice a103 m104 c105)) := bx122.2 0 (by simp)
  have k204 : w173.cell? ⟨w87.heap.size, 1, none⟩ = some ((Value.slice a106 m107 c108)) := bx122.2 1 (by simp)
  have k205 : w173.cell? ⟨w132.heap.size, 0, none⟩ = some (Value.int .i64 d_aD.owner_) := bx160.2 0 (by simp)
  have k206 : w173.cell? ⟨w132.heap.size, 1, none⟩ = some (Value.int .i64 d_aD.status_) := bx160.2 1 (by simp)
  have k207 : w173.cell? ⟨w132.heap.size, 2, none⟩ = some ((Value.slice a142 m143 c144)) := bx160.2 2 (by simp)
  obtain ⟨X208, hX209⟩ : ∃ X, w173.alloc (.cells #[(Value.slice a190 m191 c192), (Value.slice a193 m194 c195)] 31) = X := ⟨_, rfl⟩
  have bX210 : Below w173.heap.size w173 X208 := by rw [← hX209]; exact (Below.refl _ _).alloc (Nat.le_refl _) _
  have zX208 : X208.heap.size = w173.heap.size + 1 := by rw [← hX209]; simp
  have t211 := Below.trans t187 (Below.mono bX210 zb0)
  have s212 := Below.trans s188 (Below.mono bX210 za0)
  replace o91 := ownL.keep o91 (fun q hq => Below.block bX210 q (hs93 q hq))
  replace hs93 := fun q hq => Nat.lt_of_lt_of_le (hs93 q hq) (Below.size bX210)
  replace o96 := ownL.keep o96 (fun q hq => Below.block bX210 q (hs98 q hq))
  replace hs98 := fun q hq => Nat.lt_of_lt_of_le (hs98 q hq) (Below.size bX210)
  replace o136 := ownL.keep o136 (fun q hq => Below.block bX210 q (hs138 q hq))
  replace hs138 := fun q hq => Nat.lt_of_lt_of_le (hs138 q hq) (Below.size bX210)
  replace o177 := ownL.keep o177 (fun q hq => Below.block bX210 q (hs179 q hq))
  replace hs179 := fun q hq => Nat.lt_of_lt_of_le (hs179 q hq) (Below.size bX210)
  replace o182 := ownL.keep o182 (fun q hq => Below.block bX210 q (hs184 q hq))
  replace hs184 := fun q hq => Nat.lt_of_lt_of_le (hs184 q hq) (Below.size bX210)
  replace bx_aS := Box.below bx_aS bX210
  replace bx_aD := Box.below bx_aD bX210
  replace bxe24_0 := Box.below bxe24_0 bX210
  replace bx122 := Box.below bx122 bX210
  replace bx160 := Box.below bx160 bX210
  have z213 := Below.size bX210
  replace zb0 : W2.heap.size ≤ X208.heap.size := by omega
  replace za0 : w69.heap.size ≤ X208.heap.size := by omega
  have bx214 : Box X208 (w173.heap.size) [(Value.slice a190 m191 c192), (Value.slice a193 m194 c195)] := by rw [← hX209]; exact Box.alloc _ _ _
  have k215 : X208.cell? ⟨w.heap.size, 0, none⟩ = some ((Value.slice a_aS0 d_aS.heads_.length c_aS0)) := bx_aS.2 0 (by simp)
  have k216 : X208.cell? ⟨w.heap.size, 1, none⟩ = some ((Value.slice a_aS1 d_aS.descs_.length c_aS1)) := bx_aS.2 1 (by simp)
  have k217 : X208.cell? ⟨w.heap.size + 1, 0, none⟩ = some (Value.int .i64 d_aD.owner_) := bx_aD.2 0 (by simp)
  have k218 : X208.cell? ⟨w.heap.size + 1, 1, none⟩ = some (Value.int .i64 d_aD.status_) := bx_aD.2 1 (by simp)
  have k219 : X208.cell? ⟨w.heap.size + 1, 2, none⟩ = some ((Value.slice a_aD0 d_aD.entries_.length c_aD0)) := bx_aD.2 2 (by simp)
  have k220 : X208.cell? ⟨Be24_0, 0, none⟩ = some ((Value.slice a73 m74 c75)) := bxe24_0.2 0 (by simp)
  have k221 : X208.cell? ⟨Be24_0, 1, none⟩ = some ((Value.slice a76 m77 c78)) := bxe24_0.2 1 (by simp)
  have k222 : X208.cell? ⟨w87.heap.size, 0, none⟩ = some ((Value.slice a103 m104 c105)) := bx122.2 0 (by simp)
  have k223 : X208.cell? ⟨w87.heap.size, 1, none⟩ = some ((Value.slice a106 m107 c108)) := bx122.2 1 (by simp)
  have k224 : X208.cell? ⟨w132.heap.size, 0, none⟩ = some (Value.int .i64 d_aD.owner_) := bx160.2 0 (by simp)
  have k225 : X208.cell? ⟨w132.heap.size, 1, none⟩ = some (Value.int .i64 d_aD.status_) := bx160.2 1 (by simp)
  have k226 : X208.cell? ⟨w132.heap.size, 2, none⟩ = some ((Value.slice a142 m143 c144)) := bx160.2 2 (by simp)
  have k227 : X208.cell? ⟨w173.heap.size, 0, none⟩ = some ((Value.slice a190 m191 c192)) := bx214.2 0 (by simp)
  have k228 : X208.cell? ⟨w173.heap.size, 1, none⟩ = some ((Value.slice a193 m194 c195)) := bx214.2 1 (by simp)
  go_wp2_with fail
  clear k196 k197 k198 k199 k200 k201 k202 k203 k204 k205 k206 k207 k215 k216 k217 k218 k219 k220 k221 k222 k223 k224 k225 k226 k227 k228 hX209
  refine (eqStore_o _ _ _ _ _ _ (ownL.rds o177) (ownL.rds o182) (rdsL.below oe24_00 s212) (rdsL.below oe24_01 s212)).mono ?_
  rintro e w229 ⟨rfl, b230⟩
  have t231 := Below.trans t211 (Below.mono b230 zb0)
  have s232 := Below.trans s212 (Below.mono b230 za0)
  replace o91 := ownL.keep o91 (fun q hq => Below.block b230 q (hs93 q hq))
  replace hs93 := fun q hq => Nat.lt_of_lt_of_le (hs93 q hq) (Below.size b230)
  replace o96 := ownL.keep o96 (fun q hq => Below.block b230 q (hs98 q hq))
  replace hs98 := fun q hq => Nat.lt_of_lt_of_le (hs98 q hq) (Below.size b230)
  replace o136 := ownL.keep o136 (fun q hq => Below.block b230 q (hs138 q hq))
  replace hs138 := fun q hq => Nat.lt_of_lt_of_le (hs138 q hq) (Below.size b230)
  replace o177 := ownL.keep o177 (fun q hq => Below.block b230 q (hs179 q hq))
  replace hs179 := fun q hq => Nat.lt_of_lt_of_le (hs179 q hq) (Below.size b230)
  replace o182 := ownL.keep o182 (fun q hq => Below.block b230 q (hs184 q hq))
  replace hs184 := fun q hq => Nat.lt_of_lt_of_le (hs184 q hq) (Below.size b230)
  replace bx_aS := Box.below bx_aS b230
  replace bx_aD := Box.below bx_aD b230
  replace bxe24_0 := Box.below bxe24_0 b230
  replace bx122 := Box.below bx122 b230
  replace bx160 := Box.below bx160 b230
  replace bx214 := Box.below bx214 b230
  have z233 := Below.size b230
  replace zb0 : W2.heap.size ≤ w229.heap.size := by omega
  replace za0 : w69.heap.size ≤ w229.heap.size := by omega
  have k234 : w229.cell? ⟨w.heap.size, 0, none⟩ = some ((Value.slice a_aS0 d_aS.heads_.length c_aS0)) := bx_aS.2 0 (by simp)
  have k235 : w229.cell? ⟨w.heap.size, 1, none⟩ = some ((Value.slice a_aS1 d_aS.descs_.length c_aS1)) := bx_aS.2 1 (by simp)
  have k236 : w229.cell? ⟨w.heap.size + 1, 0, none⟩ = some (Value.int .i64 d_aD.owner_) := bx_aD.2 0 (by simp)
  have k237 : w229.cell? ⟨w.heap.size + 1, 1, none⟩ = some (Value.int .i64 d_aD.status_) := bx_aD.2 1 (by simp)
  have k238 : w229.cell? ⟨w.heap.size + 1, 2, none⟩ = some ((Value.slice a_aD0 d_aD.entries_.length c_aD0)) := bx_aD.2 2 (by simp)
  have k239 : w229.cell? ⟨Be24_0, 0, none⟩ = some ((Value.slice a73 m74 c75)) := bxe24_0.2 0 (by simp)
  have k240 : w229.cell? ⟨Be24_0, 1, none⟩ = some ((Value.slice a76 m77 c78)) := bxe24_0.2 1 (by simp)
  have k241 : w229.cell? ⟨w87.heap.size, 0, none⟩ = some ((Value.slice a103 m104 c105)) := bx122.2 0 (by simp)
  have k242 : w229.cell? ⟨w87.heap.size, 1, none⟩ = some ((Value.slice a106 m107 c108)) := bx122.2 1 (by simp)
  have k243 : w229.cell? ⟨w132.heap.size, 0, none⟩ = some (Value.int .i64 d_aD.owner_) := bx160.2 0 (by simp)
  have k244 : w229.cell? ⟨w132.heap.size, 1, none⟩ = some (Value.int .i64 d_aD.status_) := bx160.2 1 (by simp)
  have k245 : w229.cell? ⟨w132.heap.size, 2, none⟩ = some ((Value.slice a142 m143 c144)) := bx160.2 2 (by simp)
  have k246 : w229.cell? ⟨w173.heap.size, 0, none⟩ = some ((Value.slice a190 m191 c192)) := bx214.2 0 (by simp)
  have k247 : w229.cell? ⟨w173.heap.size, 1, none⟩ = some ((Value.slice a193 m194 c195)) := bx214.2 1 (by simp)
  go_wp2_with fail
  clear k234 k235 k236 k237 k238 k239 k240 k241 k242 k243 k244 k245 k246 k247
  have lt263 := (bx_aS).1
  have lt264 := (bx_aD).1
  have lt265 := (bxe24_0).1
  have lt266 := (bx122).1
  have lt267 := (bx160).1
  have lt268 := (bx214).1
  have k269 : w229.cell? ⟨w.heap.size, 0, none⟩ = some ((Value.slice a_aS0 d_aS.heads_.length c_aS0)) := bx_aS.2 0 (by simp)
  have k270 : w229.cell? ⟨w.heap.size, 1, none⟩ = some ((Value.slice a_aS1 d_aS.descs_.length c_aS1)) := bx_aS.2 1 (by simp)
  have k271 : w229.cell? ⟨w.heap.size + 1, 0, none⟩ = some (Value.int .i64 d_aD.owner_) := bx_aD.2 0 (by simp)
  have k272 : w229.cell? ⟨w.heap.size + 1, 1, none⟩ = some (Value.int .i64 d_aD.status_) := bx_aD.2 1 (by simp)
  have k273 : w229.cell? ⟨w.heap.size + 1, 2, none⟩ = some ((Value.slice a_aD0 d_aD.entries_.length c_aD0)) := bx_aD.2 2 (by simp)
  have k274 : w229.cell? ⟨Be24_0, 0, none⟩ = some ((Value.slice a73 m74 c75)) := bxe24_0.2 0 (by simp)
  have k275 : w229.cell? ⟨Be24_0, 1, none⟩ = some ((Value.slice a76 m77 c78)) := bxe24_0.2 1 (by simp)
  have k276 : w229.cell? ⟨w87.heap.size, 0, none⟩ = some ((Value.slice a103 m104 c105)) := bx122.2 0 (by simp)
  have k277 : w229.cell? ⟨w87.heap.size, 1, none⟩ = some ((Value.slice a106 m107 c108)) := bx122.2 1 (by simp)
  have k278 : w229.cell? ⟨w132.heap.size, 0, none⟩ = some (Value.int .i64 d_aD.owner_) := bx160.2 0 (by simp)
  have k279 : w229.cell? ⟨w132.heap.size, 1, none⟩ = some (Value.int .i64 d_aD.status_) := bx160.2 1 (by simp)
  have k280 : w229.cell? ⟨w132.heap.size, 2, none⟩ = some ((Value.slice a142 m143 c144)) := bx160.2 2 (by simp)
  have k281 : w229.cell? ⟨w173.heap.size, 0, none⟩ = some ((Value.slice a190 m191 c192)) := bx214.2 0 (by simp)
  have k282 : w229.cell? ⟨w173.heap.size, 1, none⟩ = some ((Value.slice a193 m194 c195)) := bx214.2 1 (by simp)
  go_region_held3 (fun w' => Below w229.heap.size w229 w' ∧ w229.heap.size ≤ w'.heap.size ∧ w'.cell? ⟨w.heap.size, 0, none⟩ = some ((Value.slice a_aS0 d_aS.heads_.length c_aS0)) ∧ w'.cell? ⟨w.heap.size, 1, none⟩ = some ((Value.slice a_aS1 d_aS.descs_.length c_aS1)) ∧ w'.cell? ⟨w.heap.size + 1, 0, none⟩ = some (Value.int .i64 d_aD.owner_) ∧ w'.cell? ⟨w.heap.size + 1, 1, none⟩ = some (Value.int .i64 d_aD.status_) ∧ w'.cell? ⟨w.heap.size + 1, 2, none⟩ = some ((Value.slice a_aD0 d_aD.entries_.length c_aD0)) ∧ w'.cell? ⟨Be24_0, 0, none⟩ = some ((Value.slice a73 m74 c75)) ∧ w'.cell? ⟨Be24_0, 1, none⟩ = some ((Value.slice a76 m77 c78)) ∧ w'.cell? ⟨w87.heap.size, 0, none⟩ = some ((Value.slice a103 m104 c105)) ∧ w'.cell? ⟨w87.heap.size, 1, none⟩ = some ((Value.slice a106 m107 c108)) ∧ w'.cell? ⟨w132.heap.size, 0, none⟩ = some (Value.int .i64 d_aD.owner_) ∧ w'.cell? ⟨w132.heap.size, 1, none⟩ = some (Value.int .i64 d_aD.status_) ∧ w'.cell? ⟨w132.heap.size, 2, none⟩ = some ((Value.slice a142 m143 c144)) ∧ w'.cell? ⟨w173.heap.size, 0, none⟩ = some ((Value.slice a190 m191 c192)) ∧ w'.cell? ⟨w173.heap.size, 1, none⟩ = some ((Value.slice a193 m194 c195)))
    (first | exact ⟨(Below.refl _ _).drew, Nat.le_refl _, k269, k270, k271, k272, k273, k274, k275, k276, k277, k278, k279, k280, k281, k282⟩ | exact keepBox14 (by omega) ‹_› ‹_›)
    (first
    | (go_at_call 12; refine (toStore_o d_aS (Value.slice a_aS0 d_aS.heads_.length c_aS0) (Value.slice a_aS1 d_aS.descs_.length c_aS1) _ (rdsL.below (rdsL.below h_aS0 t231) ((Below.refl _ _).drew : Below w229.heap.size w229 w229.drew)) (rdsL.below (rdsL.below h_aS1 t231) ((Below.refl _ _).drew : Below w229.heap.size w229 w229.drew)) hb_aS).mono ?_; rintro e w248 ⟨u250, u255, S251, S256, rfl, o252, o257, r253, r258, dj260, b249⟩; have hq_w248 : Below w229.heap.size w229 w248 := Below.trans ((Below.refl _ _).drew : Below w229.heap.size w229 w229.drew) (Below.mono b249 (Below.size ((Below.refl _ _).drew : Below w229.heap.size w229 w229.drew))))
    | (go_at_call 14; refine (eqStore_o _ _ _ _ _ _ (rdsL.below (rdsL.below (ownL.rds o91) ((Below.refl _ _).drew : Below w229.heap.size w229 w229.drew)) b249) (rdsL.below (rdsL.below (ownL.rds o96) ((Below.refl _ _).drew : Below w229.heap.size w229 w229.drew)) b249) (ownL.rds o252) (ownL.rds o257)).mono ?_; rintro e w261 ⟨rfl, b262⟩))
  clear k269 k270 k271 k272 k273 k274 k275 k276 k277 k278 k279 k280 k281 k282
  have d283 : Below w229.heap.size w229 w229.drew := (Below.refl _ _).drew
  have t284 := Below.trans t231 (Below.mono d283 zb0)
  have s285 := Below.trans s232 (Below.mono d283 za0)
  replace o91 := ownL.keep o91 (fun q hq => Below.block d283 q (hs93 q hq))
  replace hs93 := fun q hq => Nat.lt_of_lt_of_le (hs93 q hq) (Below.size d283)
  replace o96 := ownL.keep o96 (fun q hq => Below.block d283 q (hs98 q hq))
  replace hs98 := fun q hq => Nat.lt_of_lt_of_le (hs98 q hq) (Below.size d283)
  replace o136 := ownL.keep o136 (fun q hq => Below.block d283 q (hs138 q hq))
  replace hs138 := fun q hq => Nat.lt_of_lt_of_le (hs138 q hq) (Below.size d283)
  replace o177 := ownL.keep o177 (fun q hq => Below.block d283 q (hs179 q hq))
  replace hs179 := fun q hq => Nat.lt_of_lt_of_le (hs179 q hq) (Below.size d283)
  replace o182 := ownL.keep o182 (fun q hq => Below.block d283 q (hs184 q hq))
  replace hs184 := fun q hq => Nat.lt_of_lt_of_le (hs184 q hq) (Below.size d283)
  replace bx_aS := Box.below bx_aS d283
  replace bx_aD := Box.below bx_aD d283
  replace bxe24_0 := Box.below bxe24_0 d283
  replace bx122 := Box.below bx122 d283
  replace bx160 := Box.below bx160 d283
  replace bx214 := Box.below bx214 d283
  have z286 := Below.size d283
  replace zb0 : W2.heap.size ≤ w229.drew.heap.size := by omega
  replace za0 : w69.heap.size ≤ w229.drew.heap.size := by omega
  have t287 := Below.trans t284 (Below.mono b249 zb0)
  have s288 := Below.trans s285 (Below.mono b249 za0)
  replace o91 := ownL.keep o91 (fun q hq => Below.block b249 q (hs93 q hq))
  replace hs93 := fun q hq => Nat.lt_of_lt_of_le (hs93 q hq) (Below.size b249)
  replace o96 := ownL.keep o96 (fun q hq => Below.block b249 q (hs98 q hq))
  replace hs98 := fun q hq => Nat.lt_of_lt_of_le (hs98 q hq) (Below.size b249)
  replace o136 := ownL.keep o136 (fun q hq => Below.block b249 q (hs138 q hq))
  replace hs138 := fun q hq => Nat.lt_of_lt_of_le (hs138 q hq) (Below.size b249)
  replace o177 := ownL.keep o177 (fun q hq => Below.block b249 q (hs179 q hq))
  replace hs179 := fun q hq => Nat.lt_of_lt_of_le (hs179 q hq) (Below.size b249)
  replace o182 := ownL.keep o182 (fun q hq => Below.block b249 q (hs184 q hq))
  replace hs184 := fun q hq => Nat.lt_of_lt_of_le (hs184 q hq) (Below.size b249)
  replace bx_aS := Box.below bx_aS b249
  replace bx_aD := Box.below bx_aD b249
  replace bxe24_0 := Box.below bxe24_0 b249
  replace bx122 := Box.below bx122 b249
  replace bx160 := Box.below bx160 b249
  replace bx214 := Box.below bx214 b249
  have z289 := Below.size b249
  replace zb0 : W2.heap.size ≤ w248.heap.size := by omega
  replace za0 : w69.heap.size ≤ w248.heap.size := by omega
  have t290 := Below.trans t287 (Below.mono b262 zb0)
  have s291 := Below.trans s288 (Below.mono b262 za0)
  replace o91 := ownL.keep o91 (fun q hq => Below.block b262 q (hs93 q hq))
  replace hs93 := fun q hq => Nat.lt_of_lt_of_le (hs93 q hq) (Below.size b262)
  replace o96 := ownL.keep o96 (fun q hq => Below.block b262 q (hs98 q hq))
  replace hs98 := fun q hq => Nat.lt_of_lt_of_le (hs98 q hq) (Below.size b262)
  replace o136 := ownL.keep o136 (fun q hq => Below.block b262 q (hs138 q hq))
  replace hs138 := fun q hq => Nat.lt_of_lt_of_le (hs138 q hq) (Below.size b262)
  replace o177 := ownL.keep o177 (fun q hq => Below.block b262 q (hs179 q hq))
  replace hs179 := fun q hq => Nat.lt_of_lt_of_le (hs179 q hq) (Below.size b262)
  replace o182 := ownL.keep o182 (fun q hq => Below.block b262 q (hs184 q hq))
  replace hs184 := fun q hq => Nat.lt_of_lt_of_le (hs184 q hq) (Below.size b262)
  replace bx_aS := Box.below bx_aS b262
  replace bx_aD := Box.below bx_aD b262
  replace bxe24_0 := Box.below bxe24_0 b262
  replace bx122 := Box.below bx122 b262
  replace bx160 := Box.below bx160 b262
  replace bx214 := Box.below bx214 b262
  have z292 := Below.size b262
  replace zb0 : W2.heap.size ≤ w261.heap.size := by omega
  replace za0 : w69.heap.size ≤ w261.heap.size := by omega
  have k293 : w261.cell? ⟨w.heap.size, 0, none⟩ = some ((Value.slice a_aS0 d_aS.heads_.length c_aS0)) := bx_aS.2 0 (by simp)
  have k294 : w261.cell? ⟨w.heap.size, 1, none⟩ = some ((Value.slice a_aS1 d_aS.descs_.length c_aS1)) := bx_aS.2 1 (by simp)
  have k295 : w261.cell? ⟨w.heap.size + 1, 0, none⟩ = some (Value.int .i64 d_aD.owner_) := bx_aD.2 0 (by simp)
  have k296 : w261.cell? ⟨w.heap.size + 1, 1, none⟩ = some (Value.int .i64 d_aD.status_) := bx_aD.2 1 (by simp)
  have k297 : w261.cell? ⟨w.heap.size + 1, 2, none⟩ = some ((Value.slice a_aD0 d_aD.entries_.length c_aD0)) := bx_aD.2 2 (by simp)
  have k298 : w261.cell? ⟨Be24_0, 0, none⟩ = some ((Value.slice a73 m74 c75)) := bxe24_0.2 0 (by simp)
  have k299 : w261.cell? ⟨Be24_0, 1, none⟩ = some ((Value.slice a76 m77 c78)) := bxe24_0.2 1 (by simp)
  have k300 : w261.cell? ⟨w87.heap.size, 0, none⟩ = some ((Value.slice a103 m104 c105)) := bx122.2 0 (by simp)
  have k301 : w261.cell? ⟨w87.heap.size, 1, none⟩ = some ((Value.slice a106 m107 c108)) := bx122.2 1 (by simp)
  have k302 : w261.cell? ⟨w132.heap.size, 0, none⟩ = some (Value.int .i64 d_aD.owner_) := bx160.2 0 (by simp)
  have k303 : w261.cell? ⟨w132.heap.size, 1, none⟩ = some (Value.int .i64 d_aD.status_) := bx160.2 1 (by simp)
  have k304 : w261.cell? ⟨w132.heap.size, 2, none⟩ = some ((Value.slice a142 m143 c144)) := bx160.2 2 (by simp)
  have k305 : w261.cell? ⟨w173.heap.size, 0, none⟩ = some ((Value.slice a190 m191 c192)) := bx214.2 0 (by simp)
  have k306 : w261.cell? ⟨w173.heap.size, 1, none⟩ = some ((Value.slice a193 m194 c195)) := bx214.2 1 (by simp)
  go_wp2_with fail
  clear k293 k294 k295 k296 k297 k298 k299 k300 k301 k302 k303 k304 k305 k306
  have lt316 := (bx_aS).1
  have lt317 := (bx_aD).1
  have lt318 := (bxe24_0).1
  have lt319 := (bx122).1
  have lt320 := (bx160).1
  have lt321 := (bx214).1
  have k322 : w261.cell? ⟨w.heap.size, 0, none⟩ = some ((Value.slice a_aS0 d_aS.heads_.length c_aS0)) := bx_aS.2 0 (by simp)
  have k323 : w261.cell? ⟨w.heap.size, 1, none⟩ = some ((Value.slice a_aS1 d_aS.descs_.length c_aS1)) := bx_aS.2 1 (by simp)
  have k324 : w261.cell? ⟨w.heap.size + 1, 0, none⟩ = some (Value.int .i64 d_aD.owner_) := bx_aD.2 0 (by simp)
  have k325 : w261.cell? ⟨w.heap.size + 1, 1, none⟩ = some (Value.int .i64 d_aD.status_) := bx_aD.2 1 (by simp)
  have k326 : w261.cell? ⟨w.heap.size + 1, 2, none⟩ = some ((Value.slice a_aD0 d_aD.entries_.length c_aD0)) := bx_aD.2 2 (by simp)
  have k327 : w261.cell? ⟨Be24_0, 0, none⟩ = some ((Value.slice a73 m74 c75)) := bxe24_0.2 0 (by simp)
  have k328 : w261.cell? ⟨Be24_0, 1, none⟩ = some ((Value.slice a76 m77 c78)) := bxe24_0.2 1 (by simp)
  have k329 : w261.cell? ⟨w87.heap.size, 0, none⟩ = some ((Value.slice a103 m104 c105)) := bx122.2 0 (by simp)
  have k330 : w261.cell? ⟨w87.heap.size, 1, none⟩ = some ((Value.slice a106 m107 c108)) := bx122.2 1 (by simp)
  have k331 : w261.cell? ⟨w132.heap.size, 0, none⟩ = some (Value.int .i64 d_aD.owner_) := bx160.2 0 (by simp)
  have k332 : w261.cell? ⟨w132.heap.size, 1, none⟩ = some (Value.int .i64 d_aD.status_) := bx160.2 1 (by simp)
  have k333 : w261.cell? ⟨w132.heap.size, 2, none⟩ = some ((Value.slice a142 m143 c144)) := bx160.2 2 (by simp)
  have k334 : w261.cell? ⟨w173.heap.size, 0, none⟩ = some ((Value.slice a190 m191 c192)) := bx214.2 0 (by simp)
  have k335 : w261.cell? ⟨w173.heap.size, 1, none⟩ = some ((Value.slice a193 m194 c195)) := bx214.2 1 (by simp)
  go_region_held3 (fun w' => Below w261.heap.size w261 w' ∧ w261.heap.size ≤ w'.heap.size ∧ w'.cell? ⟨w.heap.size, 0, none⟩ = some ((Value.slice a_aS0 d_aS.heads_.length c_aS0)) ∧ w'.cell? ⟨w.heap.size, 1, none⟩ = some ((Value.slice a_aS1 d_aS.descs_.length c_aS1)) ∧ w'.cell? ⟨w.heap.size + 1, 0, none⟩ = some (Value.int .i64 d_aD.owner_) ∧ w'.cell? ⟨w.heap.size + 1, 1, none⟩ = some (Value.int .i64 d_aD.status_) ∧ w'.cell? ⟨w.heap.size + 1, 2, none⟩ = some ((Value.slice a_aD0 d_aD.entries_.length c_aD0)) ∧ w'.cell? ⟨Be24_0, 0, none⟩ = some ((Value.slice a73 m74 c75)) ∧ w'.cell? ⟨Be24_0, 1, none⟩ = some ((Value.slice a76 m77 c78)) ∧ w'.cell? ⟨w87.heap.size, 0, none⟩ = some ((Value.slice a103 m104 c105)) ∧ w'.cell? ⟨w87.heap.size, 1, none⟩ = some ((Value.slice a106 m107 c108)) ∧ w'.cell? ⟨w132.heap.size, 0, none⟩ = some (Value.int .i64 d_aD.owner_) ∧ w'.cell? ⟨w132.heap.size, 1, none⟩ = some (Value.int .i64 d_aD.status_) ∧ w'.cell? ⟨w132.heap.size, 2, none⟩ = some ((Value.slice a142 m143 c144)) ∧ w'.cell? ⟨w173.heap.size, 0, none⟩ = some ((Value.slice a190 m191 c192)) ∧ w'.cell? ⟨w173.heap.size, 1, none⟩ = some ((Value.slice a193 m194 c195)))
    (first | exact ⟨(Below.refl _ _).drew, Nat.le_refl _, k322, k323, k324, k325, k326, k327, k328, k329, k330, k331, k332, k333, k334, k335⟩ | exact keepBox14 (by omega) ‹_› ‹_›)
    (first
    | (go_at_call 27; refine (toDesc_o d_aD (Value.slice a_aD0 d_aD.entries_.length c_aD0) _ (rdsL.below (rdsL.below h_aD0 t290) ((Below.refl _ _).drew : Below w261.heap.size w261 w261.drew)) hb_aD).mono ?_; rintro e w307 ⟨u309, S310, rfl, o311, r312, b308⟩; have hq_w307 : Below w261.heap.size w261 w307 := Below.trans ((Below.refl _ _).drew : Below w261.heap.size w261 w261.drew) (Below.mono b308 (Below.size ((Below.refl _ _).drew : Below w261.heap.size w261 w261.drew))))
    | (go_at_call 29; refine (eqDesc_o _ _ _ _ (rdsL.below (rdsL.below (ownL.rds o136) ((Below.refl _ _).drew : Below w261.heap.size w261 w261.drew)) b308) (ownL.rds o311)).mono ?_; rintro e w314 ⟨rfl, b315⟩))
  clear k322 k323 k324 k325 k326 k327 k328 k329 k330 k331 k332 k333 k334 k335
  have d336 : Below w261.heap.size w261 w261.drew := (Below.refl _ _).drew
  have t337 := Below.trans t290 (Below.mono d336 zb0)
  have s338 := Below.trans s291 (Below.mono d336 za0)
  replace o91 := ownL.keep o91 (fun q hq => Below.block d336 q (hs93 q hq))
  replace hs93 := fun q hq => Nat.lt_of_lt_of_le (hs93 q hq) (Below.size d336)
  replace o96 := ownL.keep o96 (fun q hq => Below.block d336 q (hs98 q hq))
  replace hs98 := fun q hq => Nat.lt_of_lt_of_le (hs98 q hq) (Below.size d336)
  replace o136 := ownL.keep o136 (fun q hq => Below.block d336 q (hs138 q hq))
  replace hs138 := fun q hq => Nat.lt_of_lt_of_le (hs138 q hq) (Below.size d336)
  replace o177 := ownL.keep o177 (fun q hq => Below.block d336 q (hs179 q hq))
  replace hs179 := fun q hq => Nat.lt_of_lt_of_le (hs179 q hq) (Below.size d336)
  replace o182 := ownL.keep o182 (fun q hq => Below.block d336 q (hs184 q hq))
  replace hs184 := fun q hq => Nat.lt_of_lt_of_le (hs184 q hq) (Below.size d336)
  replace bx_aS := Box.below bx_aS d336
  replace bx_aD := Box.below bx_aD d336
  replace bxe24_0 := Box.below bxe24_0 d336
  replace bx122 := Box.below bx122 d336
  replace bx160 := Box.below bx160 d336
  replace bx214 := Box.below bx214 d336
  have z339 := Below.size d336
  replace zb0 : W2.heap.size ≤ w261.drew.heap.size := by omega
  replace za0 : w69.heap.size ≤ w261.drew.heap.size := by omega
  have t340 := Below.trans t337 (Below.mono b308 zb0)
  have s341 := Below.trans s338 (Below.mono b308 za0)
  replace o91 := ownL.keep o91 (fun q hq => Below.block b308 q (hs93 q hq))
  replace hs93 := fun q hq => Nat.lt_of_lt_of_le (hs93 q hq) (Below.size b308)
  replace o96 := ownL.keep o96 (fun q hq => Below.block b308 q (hs98 q hq))
  replace hs98 := fun q hq => Nat.lt_of_lt_of_le (hs98 q hq) (Below.size b308)
  replace o136 := ownL.keep o136 (fun q hq => Below.block b308 q (hs138 q hq))
  replace hs138 := fun q hq => Nat.lt_of_lt_of_le (hs138 q hq) (Below.size b308)
  replace o177 := ownL.keep o177 (fun q hq => Below.block b308 q (hs179 q hq))
  replace hs179 := fun q hq => Nat.lt_of_lt_of_le (hs179 q hq) (Below.size b308)
  replace o182 := ownL.keep o182 (fun q hq => Below.block b308 q (hs184 q hq))
  replace hs184 := fun q hq => Nat.lt_of_lt_of_le (hs184 q hq) (Below.size b308)
  replace bx_aS := Box.below bx_aS b308
  replace bx_aD := Box.below bx_aD b308
  replace bxe24_0 := Box.below bxe24_0 b308
  replace bx122 := Box.below bx122 b308
  replace bx160 := Box.below bx160 b308
  replace bx214 := Box.below bx214 b308
  have z342 := Below.size b308
  replace zb0 : W2.heap.size ≤ w307.heap.size := by omega
  replace za0 : w69.heap.size ≤ w307.heap.size := by omega
  have t343 := Below.trans t340 (Below.mono b315 zb0)
  have s344 := Below.trans s341 (Below.mono b315 za0)
  replace o91 := ownL.keep o91 (fun q hq => Below.block b315 q (hs93 q hq))
  replace hs93 := fun q hq => Nat.lt_of_lt_of_le (hs93 q hq) (Below.size b315)
  replace o96 := ownL.keep o96 (fun q hq => Below.block b315 q (hs98 q hq))
  replace hs98 := fun q hq => Nat.lt_of_lt_of_le (hs98 q hq) (Below.size b315)
  replace o136 := ownL.keep o136 (fun q hq => Below.block b315 q (hs138 q hq))
  replace hs138 := fun q hq => Nat.lt_of_lt_of_le (hs138 q hq) (Below.size b315)
  replace o177 := ownL.keep o177 (fun q hq => Below.block b315 q (hs179 q hq))
  replace hs179 := fun q hq => Nat.lt_of_lt_of_le (hs179 q hq) (Below.size b315)
  replace o182 := ownL.keep o182 (fun q hq => Below.block b315 q (hs184 q hq))
  replace hs184 := fun q hq => Nat.lt_of_lt_of_le (hs184 q hq) (Below.size b315)
  replace bx_aS := Box.below bx_aS b315
  replace bx_aD := Box.below bx_aD b315
  replace bxe24_0 := Box.below bxe24_0 b315
  replace bx122 := Box.below bx122 b315
  replace bx160 := Box.below bx160 b315
  replace bx214 := Box.below bx214 b315
  have z345 := Below.size b315
  replace zb0 : W2.heap.size ≤ w314.heap.size := by omega
  replace za0 : w69.heap.size ≤ w314.heap.size := by omega
  have k346 : w314.cell? ⟨w.heap.size, 0, none⟩ = some ((Value.slice a_aS0 d_aS.heads_.length c_aS0)) := bx_aS.2 0 (by simp)
  have k347 : w314.cell? ⟨w.heap.size, 1, none⟩ = some ((Value.slice a_aS1 d_aS.descs_.length c_aS1)) := bx_aS.2 1 (by simp)
  have k348 : w314.cell? ⟨w.heap.size + 1, 0, none⟩ = some (Value.int .i64 d_aD.owner_) := bx_aD.2 0 (by simp)
  have k349 : w314.cell? ⟨w.heap.size + 1, 1, none⟩ = some (Value.int .i64 d_aD.status_) := bx_aD.2 1 (by simp)
  have k350 : w314.cell? ⟨w.heap.size + 1, 2, none⟩ = some ((Value.slice a_aD0 d_aD.entries_.length c_aD0)) := bx_aD.2 2 (by simp)
  have k351 : w314.cell? ⟨Be24_0, 0, none⟩ = some ((Value.slice a73 m74 c75)) := bxe24_0.2 0 (by simp)
  have k352 : w314.cell? ⟨Be24_0, 1, none⟩ = some ((Value.slice a76 m77 c78)) := bxe24_0.2 1 (by simp)
  have k353 : w314.cell? ⟨w87.heap.size, 0, none⟩ = some ((Value.slice a103 m104 c105)) := bx122.2 0 (by simp)
  have k354 : w314.cell? ⟨w87.heap.size, 1, none⟩ = some ((Value.slice a106 m107 c108)) := bx122.2 1 (by simp)
  have k355 : w314.cell? ⟨w132.heap.size, 0, none⟩ = some (Value.int .i64 d_aD.owner_) := bx160.2 0 (by simp)
  have k356 : w314.cell? ⟨w132.heap.size, 1, none⟩ = some (Value.int .i64 d_aD.status_) := bx160.2 1 (by simp)
  have k357 : w314.cell? ⟨w132.heap.size, 2, none⟩ = some ((Value.slice a142 m143 c144)) := bx160.2 2 (by simp)
  have k358 : w314.cell? ⟨w173.heap.size, 0, none⟩ = some ((Value.slice a190 m191 c192)) := bx214.2 0 (by simp)
  have k359 : w314.cell? ⟨w173.heap.size, 1, none⟩ = some ((Value.slice a193 m194 c195)) := bx214.2 1 (by simp)
  go_wp2_with fail
  clear k346 k347 k348 k349 k350 k351 k352 k353 k354 k355 k356 k357 k358 k359
  have le364 := cntS_le hb_aS
  refine (markStore_o S90 S95 _ _ _ _ _ hs93 hs98 dj99 hb_aS (by omega) (by omega) o91 o96).mono ?_
  rintro e w360 ⟨rfl, o362, o363, C361⟩
  have t365 := below_chg t343 C361 zb0 (by intro q hx; rcases hx with hx | hx; (have y := r92 q hx; have y1 := y.1; have y2 := y.2; omega); (have y := r97 q hx; have y1 := y.1; have y2 := y.2; omega))
  have s366 := below_chg s344 C361 za0 (by intro q hx; rcases hx with hx | hx; (have y := r92 q hx; have y1 := y.1; have y2 := y.2; omega); (have y := r97 q hx; have y1 := y.1; have y2 := y.2; omega))
  replace hs93 := fun q hq => Nat.lt_of_lt_of_le (hs93 q hq) (ChgS.size C361)
  replace hs98 := fun q hq => Nat.lt_of_lt_of_le (hs98 q hq) (ChgS.size C361)
  replace o136 := ownL.keep o136 (fun q hq => ChgS.block C361 q (hs138 q hq) (by intro hx; have x0 := r137 q hq; have x1 := x0.1; have x2 := x0.2; rcases hx with hx | hx; (have y := r92 q hx; have y1 := y.1; have y2 := y.2; omega); (have y := r97 q hx; have y1 := y.1; have y2 := y.2; omega)))
  replace hs138 := fun q hq => Nat.lt_of_lt_of_le (hs138 q hq) (ChgS.size C361)
  replace o177 := ownL.keep o177 (fun q hq => ChgS.block C361 q (hs179 q hq) (by intro hx; have x0 := r178 q hq; have x1 := x0.1; have x2 := x0.2; rcases hx with hx | hx; (have y := r92 q hx; have y1 := y.1; have y2 := y.2; omega); (have y := r97 q hx; have y1 := y.1; have y2 := y.2; omega)))
  replace hs179 := fun q hq => Nat.lt_of_lt_of_le (hs179 q hq) (ChgS.size C361)
  replace o182 := ownL.keep o182 (fun q hq => ChgS.block C361 q (hs184 q hq) (by intro hx; have x0 := r183 q hq; have x1 := x0.1; have x2 := x0.2; rcases hx with hx | hx; (have y := r92 q hx; have y1 := y.1; have y2 := y.2; omega); (have y := r97 q hx; have y1 := y.1; have y2 := y.2; omega)))
  replace hs184 := fun q hq => Nat.lt_of_lt_of_le (hs184 q hq) (ChgS.size C361)
  replace bx_aS := Box.chg bx_aS C361 (by intro hx; rcases hx with hx | hx; (have y := r92 _ hx; have y1 := y.1; have y2 := y.2; omega); (have y := r97 _ hx; have y1 := y.1; have y2 := y.2; omega))
  replace bx_aD := Box.chg bx_aD C361 (by intro hx; rcases hx with hx | hx; (have y := r92 _ hx; have y1 := y.1; have y2 := y.2; omega); (have y := r97 _ hx; have y1 := y.1; have y2 := y.2; omega))
  replace bxe24_0 := Box.chg bxe24_0 C361 (by intro hx; rcases hx with hx | hx; (have y := r92 _ hx; have y1 := y.1; have y2 := y.2; omega); (have y := r97 _ hx; have y1 := y.1; have y2 := y.2; omega))
  replace bx122 := Box.chg bx122 C361 (by intro hx; rcases hx with hx | hx; (have y := r92 _ hx; have y1 := y.1; have y2 := y.2; omega); (have y := r97 _ hx; have y1 := y.1; have y2 := y.2; omega))
  replace bx160 := Box.chg bx160 C361 (by intro hx; rcases hx with hx | hx; (have y := r92 _ hx; have y1 := y.1; have y2 := y.2; omega); (have y := r97 _ hx; have y1 := y.1; have y2 := y.2; omega))
  replace bx214 := Box.chg bx214 C361 (by intro hx; rcases hx with hx | hx; (have y := r92 _ hx; have y1 := y.1; have y2 := y.2; omega); (have y := r97 _ hx; have y1 := y.1; have y2 := y.2; omega))
  have z367 := ChgS.size C361
  replace zb0 : W2.heap.size ≤ w360.heap.size := by omega
  replace za0 : w69.heap.size ≤ w360.heap.size := by omega
  have k368 : w360.cell? ⟨w.heap.size, 0, none⟩ = some ((Value.slice a_aS0 d_aS.heads_.length c_aS0)) := bx_aS.2 0 (by simp)
  have k369 : w360.cell? ⟨w.heap.size, 1, none⟩ = some ((Value.slice a_aS1 d_aS.descs_.length c_aS1)) := bx_aS.2 1 (by simp)
  have k370 : w360.cell? ⟨w.heap.size + 1, 0, none⟩ = some (Value.int .i64 d_aD.owner_) := bx_aD.2 0 (by simp)
  have k371 : w360.cell? ⟨w.heap.size + 1, 1, none⟩ = some (Value.int .i64 d_aD.status_) := bx_aD.2 1 (by simp)
  have k372 : w360.cell? ⟨w.heap.size + 1, 2, none⟩ = some ((Value.slice a_aD0 d_aD.entries_.length c_aD0)) := bx_aD.2 2 (by simp)
  have k373 : w360.cell? ⟨Be24_0, 0, none⟩ = some ((Value.slice a73 m74 c75)) := bxe24_0.2 0 (by simp)
  have k374 : w360.cell? ⟨Be24_0, 1, none⟩ = some ((Value.slice a76 m77 c78)) := bxe24_0.2 1 (by simp)
  have k375 : w360.cell? ⟨w87.heap.size, 0, none⟩ = some ((Value.slice a103 m104 c105)) := bx122.2 0 (by simp)
  have k376 : w360.cell? ⟨w87.heap.size, 1, none⟩ = some ((Value.slice a106 m107 c108)) := bx122.2 1 (by simp)
  have k377 : w360.cell? ⟨w132.heap.size, 0, none⟩ = some (Value.int .i64 d_aD.owner_) := bx160.2 0 (by simp)
  have k378 : w360.cell? ⟨w132.heap.size, 1, none⟩ = some (Value.int .i64 d_aD.status_) := bx160.2 1 (by simp)
  have k379 : w360.cell? ⟨w132.heap.size, 2, none⟩ = some ((Value.slice a142 m143 c144)) := bx160.2 2 (by simp)
  have k380 : w360.cell? ⟨w173.heap.size, 0, none⟩ = some ((Value.slice a190 m191 c192)) := bx214.2 0 (by simp)
  have k381 : w360.cell? ⟨w173.heap.size, 1, none⟩ = some ((Value.slice a193 m194 c195)) := bx214.2 1 (by simp)
  go_wp2_with fail
  clear k368 k369 k370 k371 k372 k373 k374 k375 k376 k377 k378 k379 k380 k381
  have le385 := cntDesc_le hb_aD
  refine (markDesc_o S135 _ _ _ _ hs138  hb_aD (by omega) (by omega) o136).mono ?_
  rintro e w382 ⟨rfl, o384, C383⟩
  have t386 := below_chg t365 C383 zb0 (by intro q hx; have y := r137 q hx; have y1 := y.1; have y2 := y.2; omega)
  have s387 := below_chg s366 C383 za0 (by intro q hx; have y := r137 q hx; have y1 := y.1; have y2 := y.2; omega)
  replace o362 := ownL.keep o362 (fun q hq => ChgS.block C383 q (hs93 q hq) (by intro hx; have x0 := r92 q hq; have x1 := x0.1; have x2 := x0.2; have y := r137 q hx; have y1 := y.1; have y2 := y.2; omega))
  replace hs93 := fun q hq => Nat.lt_of_lt_of_le (hs93 q hq) (ChgS.size C383)
  replace o363 := ownL.keep o363 (fun q hq => ChgS.block C383 q (hs98 q hq) (by intro hx; have x0 := r97 q hq; have x1 := x0.1; have x2 := x0.2; have y := r137 q hx; have y1 := y.1; have y2 := y.2; omega))
  replace hs98 := fun q hq => Nat.lt_of_lt_of_le (hs98 q hq) (ChgS.size C383)
  replace hs138 := fun q hq => Nat.lt_of_lt_of_le (hs138 q hq) (ChgS.size C383)
  replace o177 := ownL.keep o177 (fun q hq => ChgS.block C383 q (hs179 q hq) (by intro hx; have x0 := r178 q hq; have x1 := x0.1; have x2 := x0.2; have y := r137 q hx; have y1 := y.1; have y2 := y.2; omega))
  replace hs179 := fun q hq => Nat.lt_of_lt_of_le (hs179 q hq) (ChgS.size C383)
  replace o182 := ownL.keep o182 (fun q hq => ChgS.block C383 q (hs184 q hq) (by intro hx; have x0 := r183 q hq; have x1 := x0.1; have x2 := x0.2; have y := r137 q hx; have y1 := y.1; have y2 := y.2; omega))
  replace hs184 := fun q hq => Nat.lt_of_lt_of_le (hs184 q hq) (ChgS.size C383)
  replace bx_aS := Box.chg bx_aS C383 (by intro hx; have y := r137 _ hx; have y1 := y.1; have y2 := y.2; omega)
  replace bx_aD := Box.chg bx_aD C383 (by intro hx; have y := r137 _ hx; have y1 := y.1; have y2 := y.2; omega)
  replace bxe24_0 := Box.chg bxe24_0 C383 (by intro hx; have y := r137 _ hx; have y1 := y.1; have y2 := y.2; omega)
  replace bx122 := Box.chg bx122 C383 (by intro hx; have y := r137 _ hx; have y1 := y.1; have y2 := y.2; omega)
  replace bx160 := Box.chg bx160 C383 (by intro hx; have y := r137 _ hx; have y1 := y.1; have y2 := y.2; omega)
  replace bx214 := Box.chg bx214 C383 (by intro hx; have y := r137 _ hx; have y1 := y.1; have y2 := y.2; omega)
  have z388 := ChgS.size C383
  replace zb0 : W2.heap.size ≤ w382.heap.size := by omega
  replace za0 : w69.heap.size ≤ w382.heap.size := by omega
  have k389 : w382.cell? ⟨w.heap.size, 0, none⟩ = some ((Value.slice a_aS0 d_aS.heads_.length c_aS0)) := bx_aS.2 0 (by simp)
  have k390 : w382.cell? ⟨w.heap.size, 1, none⟩ = some ((Value.slice a_aS1 d_aS.descs_.length c_aS1)) := bx_aS.2 1 (by simp)
  have k391 : w382.cell? ⟨w.heap.size + 1, 0, none⟩ = some (Value.int .i64 d_aD.owner_) := bx_aD.2 0 (by simp)
  have k392 : w382.cell? ⟨w.heap.size + 1, 1, none⟩ = some (Value.int .i64 d_aD.status_) := bx_aD.2 1 (by simp)
  have k393 : w382.cell? ⟨w.heap.size + 1, 2, none⟩ = some ((Value.slice a_aD0 d_aD.entries_.length c_aD0)) := bx_aD.2 2 (by simp)
  have k394 : w382.cell? ⟨Be24_0, 0, none⟩ = some ((Value.slice a73 m74 c75)) := bxe24_0.2 0 (by simp)
  have k395 : w382.cell? ⟨Be24_0, 1, none⟩ = some ((Value.slice a76 m77 c78)) := bxe24_0.2 1 (by simp)
  have k396 : w382.cell? ⟨w87.heap.size, 0, none⟩ = some ((Value.slice a103 m104 c105)) := bx122.2 0 (by simp)
  have k397 : w382.cell? ⟨w87.heap.size, 1, none⟩ = some ((Value.slice a106 m107 c108)) := bx122.2 1 (by simp)
  have k398 : w382.cell? ⟨w132.heap.size, 0, none⟩ = some (Value.int .i64 d_aD.owner_) := bx160.2 0 (by simp)
  have k399 : w382.cell? ⟨w132.heap.size, 1, none⟩ = some (Value.int .i64 d_aD.status_) := bx160.2 1 (by simp)
  have k400 : w382.cell? ⟨w132.heap.size, 2, none⟩ = some ((Value.slice a142 m143 c144)) := bx160.2 2 (by simp)
  have k401 : w382.cell? ⟨w173.heap.size, 0, none⟩ = some ((Value.slice a190 m191 c192)) := bx214.2 0 (by simp)
  have k402 : w382.cell? ⟨w173.heap.size, 1, none⟩ = some ((Value.slice a193 m194 c195)) := bx214.2 1 (by simp)
  go_wp2_with fail
  clear k389 k390 k391 k392 k393 k394 k395 k396 k397 k398 k399 k400 k401 k402
  refine (eqStore_o _ _ _ _ _ _ (ownL.rds o177) (ownL.rds o182) (rdsL.below oe24_00 s387) (rdsL.below oe24_01 s387)).mono ?_
  rintro e w403 ⟨rfl, b404⟩
  have t405 := Below.trans t386 (Below.mono b404 zb0)
  have s406 := Below.trans s387 (Below.mono b404 za0)
  replace o362 := ownL.keep o362 (fun q hq => Below.block b404 q (hs93 q hq))
  replace hs93 := fun q hq => Nat.lt_of_lt_of_le (hs93 q hq) (Below.size b404)
  replace o363 := ownL.keep o363 (fun q hq => Below.block b404 q (hs98 q hq))
  replace hs98 := fun q hq => Nat.lt_of_lt_of_le (hs98 q hq) (Below.size b404)
  replace o384 := ownL.keep o384 (fun q hq => Below.block b404 q (hs138 q hq))
  replace hs138 := fun q hq => Nat.lt_of_lt_of_le (hs138 q hq) (Below.size b404)
  replace o177 := ownL.keep o177 (fun q hq => Below.block b404 q (hs179 q hq))
  replace hs179 := fun q hq => Nat.lt_of_lt_of_le (hs179 q hq) (Below.size b404)
  replace o182 := ownL.keep o182 (fun q hq => Below.block b404 q (hs184 q hq))
  replace hs184 := fun q hq => Nat.lt_of_lt_of_le (hs184 q hq) (Below.size b404)
  replace bx_aS := Box.below bx_aS b404
  replace bx_aD := Box.below bx_aD b404
  replace bxe24_0 := Box.below bxe24_0 b404
  replace bx122 := Box.below bx122 b404
  replace bx160 := Box.below bx160 b404
  replace bx214 := Box.below bx214 b404
  have z407 := Below.size b404
  replace zb0 : W2.heap.size ≤ w403.heap.size := by omega
  replace za0 : w69.heap.size ≤ w403.heap.size := by omega
  have k408 : w403.cell? ⟨w.heap.size, 0, none⟩ = some ((Value.slice a_aS0 d_aS.heads_.length c_aS0)) := bx_aS.2 0 (by simp)
  have k409 : w403.cell? ⟨w.heap.size, 1, none⟩ = some ((Value.slice a_aS1 d_aS.descs_.length c_aS1)) := bx_aS.2 1 (by simp)
  have k410 : w403.cell? ⟨w.heap.size + 1, 0, none⟩ = some (Value.int .i64 d_aD.owner_) := bx_aD.2 0 (by simp)
  have k411 : w403.cell? ⟨w.heap.size + 1, 1, none⟩ = some (Value.int .i64 d_aD.status_) := bx_aD.2 1 (by simp)
  have k412 : w403.cell? ⟨w.heap.size + 1, 2, none⟩ = some ((Value.slice a_aD0 d_aD.entries_.length c_aD0)) := bx_aD.2 2 (by simp)
  have k413 : w403.cell? ⟨Be24_0, 0, none⟩ = some ((Value.slice a73 m74 c75)) := bxe24_0.2 0 (by simp)
  have k414 : w403.cell? ⟨Be24_0, 1, none⟩ = some ((Value.slice a76 m77 c78)) := bxe24_0.2 1 (by simp)
  have k415 : w403.cell? ⟨w87.heap.size, 0, none⟩ = some ((Value.slice a103 m104 c105)) := bx122.2 0 (by simp)
  have k416 : w403.cell? ⟨w87.heap.size, 1, none⟩ = some ((Value.slice a106 m107 c108)) := bx122.2 1 (by simp)
  have k417 : w403.cell? ⟨w132.heap.size, 0, none⟩ = some (Value.int .i64 d_aD.owner_) := bx160.2 0 (by simp)
  have k418 : w403.cell? ⟨w132.heap.size, 1, none⟩ = some (Value.int .i64 d_aD.status_) := bx160.2 1 (by simp)
  have k419 : w403.cell? ⟨w132.heap.size, 2, none⟩ = some ((Value.slice a142 m143 c144)) := bx160.2 2 (by simp)
  have k420 : w403.cell? ⟨w173.heap.size, 0, none⟩ = some ((Value.slice a190 m191 c192)) := bx214.2 0 (by simp)
  have k421 : w403.cell? ⟨w173.heap.size, 1, none⟩ = some ((Value.slice a193 m194 c195)) := bx214.2 1 (by simp)
  go_wp2_with fail
  clear k408 k409 k410 k411 k412 k413 k414 k415 k416 k417 k418 k419 k420 k421
  have le426 := cntS_le hb186
  refine (markStore_o S176 S181 _ _ _ _ _ hs179 hs184 dj185 hb186 (by omega) (by omega) o177 o182).mono ?_
  rintro e w422 ⟨rfl, o424, o425, C423⟩
  have t427 := below_chg t405 C423 zb0 (by intro q hx; rcases hx with hx | hx; (have y := r178 q hx; have y1 := y.1; have y2 := y.2; omega); (have y := r183 q hx; have y1 := y.1; have y2 := y.2; omega))
  have s428 := below_chg s406 C423 za0 (by intro q hx; rcases hx with hx | hx; (have y := r178 q hx; have y1 := y.1; have y2 := y.2; omega); (have y := r183 q hx; have y1 := y.1; have y2 := y.2; omega))
  replace o362 := ownL.keep o362 (fun q hq => ChgS.block C423 q (hs93 q hq) (by intro hx; have x0 := r92 q hq; have x1 := x0.1; have x2 := x0.2; rcases hx with hx | hx; (have y := r178 q hx; have y1 := y.1; have y2 := y.2; omega); (have y := r183 q hx; have y1 := y.1; have y2 := y.2; omega)))
  replace hs93 := fun q hq => Nat.lt_of_lt_of_le (hs93 q hq) (ChgS.size C423)
  replace o363 := ownL.keep o363 (fun q hq => ChgS.block C423 q (hs98 q hq) (by intro hx; have x0 := r97 q hq; have x1 := x0.1; have x2 := x0.2; rcases hx with hx | hx; (have y := r178 q hx; have y1 := y.1; have y2 := y.2; omega); (have y := r183 q hx; have y1 := y.1; have y2 := y.2; omega)))
  replace hs98 := fun q hq => Nat.lt_of_lt_of_le (hs98 q hq) (ChgS.size C423)
  replace o384 := ownL.keep o384 (fun q hq => ChgS.block C423 q (hs138 q hq) (by intro hx; have x0 := r137 q hq; have x1 := x0.1; have x2 := x0.2; rcases hx with hx | hx; (have y := r178 q hx; have y1 := y.1; have y2 := y.2; omega); (have y := r183 q hx; have y1 := y.1; have y2 := y.2; omega)))
  replace hs138 := fun q hq => Nat.lt_of_lt_of_le (hs138 q hq) (ChgS.size C423)
  replace hs179 := fun q hq => Nat.lt_of_lt_of_le (hs179 q hq) (ChgS.size C423)
  replace hs184 := fun q hq => Nat.lt_of_lt_of_le (hs184 q hq) (ChgS.size C423)
  replace bx_aS := Box.chg bx_aS C423 (by intro hx; rcases hx with hx | hx; (have y := r178 _ hx; have y1 := y.1; have y2 := y.2; omega); (have y := r183 _ hx; have y1 := y.1; have y2 := y.2; omega))
  replace bx_aD := Box.chg bx_aD C423 (by intro hx; rcases hx with hx | hx; (have y := r178 _ hx; have y1 := y.1; have y2 := y.2; omega); (have y := r183 _ hx; have y1 := y.1; have y2 := y.2; omega))
  replace bxe24_0 := Box.chg bxe24_0 C423 (by intro hx; rcases hx with hx | hx; (have y := r178 _ hx; have y1 := y.1; have y2 := y.2; omega); (have y := r183 _ hx; have y1 := y.1; have y2 := y.2; omega))
  replace bx122 := Box.chg bx122 C423 (by intro hx; rcases hx with hx | hx; (have y := r178 _ hx; have y1 := y.1; have y2 := y.2; omega); (have y := r183 _ hx; have y1 := y.1; have y2 := y.2; omega))
  replace bx160 := Box.chg bx160 C423 (by intro hx; rcases hx with hx | hx; (have y := r178 _ hx; have y1 := y.1; have y2 := y.2; omega); (have y := r183 _ hx; have y1 := y.1; have y2 := y.2; omega))
  replace bx214 := Box.chg bx214 C423 (by intro hx; rcases hx with hx | hx; (have y := r178 _ hx; have y1 := y.1; have y2 := y.2; omega); (have y := r183 _ hx; have y1 := y.1; have y2 := y.2; omega))
  have z429 := ChgS.size C423
  replace zb0 : W2.heap.size ≤ w422.heap.size := by omega
  replace za0 : w69.heap.size ≤ w422.heap.size := by omega
  have k430 : w422.cell? ⟨w.heap.size, 0, none⟩ = some ((Value.slice a_aS0 d_aS.heads_.length c_aS0)) := bx_aS.2 0 (by simp)
  have k431 : w422.cell? ⟨w.heap.size, 1, none⟩ = some ((Value.slice a_aS1 d_aS.descs_.length c_aS1)) := bx_aS.2 1 (by simp)
  have k432 : w422.cell? ⟨w.heap.size + 1, 0, none⟩ = some (Value.int .i64 d_aD.owner_) := bx_aD.2 0 (by simp)
  have k433 : w422.cell? ⟨w.heap.size + 1, 1, none⟩ = some (Value.int .i64 d_aD.status_) := bx_aD.2 1 (by simp)
  have k434 : w422.cell? ⟨w.heap.size + 1, 2, none⟩ = some ((Value.slice a_aD0 d_aD.entries_.length c_aD0)) := bx_aD.2 2 (by simp)
  have k435 : w422.cell? ⟨Be24_0, 0, none⟩ = some ((Value.slice a73 m74 c75)) := bxe24_0.2 0 (by simp)
  have k436 : w422.cell? ⟨Be24_0, 1, none⟩ = some ((Value.slice a76 m77 c78)) := bxe24_0.2 1 (by simp)
  have k437 : w422.cell? ⟨w87.heap.size, 0, none⟩ = some ((Value.slice a103 m104 c105)) := bx122.2 0 (by simp)
  have k438 : w422.cell? ⟨w87.heap.size, 1, none⟩ = some ((Value.slice a106 m107 c108)) := bx122.2 1 (by simp)
  have k439 : w422.cell? ⟨w132.heap.size, 0, none⟩ = some (Value.int .i64 d_aD.owner_) := bx160.2 0 (by simp)
  have k440 : w422.cell? ⟨w132.heap.size, 1, none⟩ = some (Value.int .i64 d_aD.status_) := bx160.2 1 (by simp)
  have k441 : w422.cell? ⟨w132.heap.size, 2, none⟩ = some ((Value.slice a142 m143 c144)) := bx160.2 2 (by simp)
  have k442 : w422.cell? ⟨w173.heap.size, 0, none⟩ = some ((Value.slice a190 m191 c192)) := bx214.2 0 (by simp)
  have k443 : w422.cell? ⟨w173.heap.size, 1, none⟩ = some ((Value.slice a193 m194 c195)) := bx214.2 1 (by simp)
  go_wp2_with fail
  clear k430 k431 k432 k433 k434 k435 k436 k437 k438 k439 k440 k441 k442 k443
  refine (heldStore_o _ _ _ _ _ hb186 (by omega) (by omega) (ownL.rds o424) (ownL.rds o425)).mono ?_
  rintro e w444 ⟨rfl, b445⟩
  have t446 := Below.trans t427 (Below.mono b445 zb0)
  have s447 := Below.trans s428 (Below.mono b445 za0)
  replace o362 := ownL.keep o362 (fun q hq => Below.block b445 q (hs93 q hq))
  replace hs93 := fun q hq => Nat.lt_of_lt_of_le (hs93 q hq) (Below.size b445)
  replace o363 := ownL.keep o363 (fun q hq => Below.block b445 q (hs98 q hq))
  replace hs98 := fun q hq => Nat.lt_of_lt_of_le (hs98 q hq) (Below.size b445)
  replace o384 := ownL.keep o384 (fun q hq => Below.block b445 q (hs138 q hq))
  replace hs138 := fun q hq => Nat.lt_of_lt_of_le (hs138 q hq) (Below.size b445)
  replace o424 := ownL.keep o424 (fun q hq => Below.block b445 q (hs179 q hq))
  replace hs179 := fun q hq => Nat.lt_of_lt_of_le (hs179 q hq) (Below.size b445)
  replace o425 := ownL.keep o425 (fun q hq => Below.block b445 q (hs184 q hq))
  replace hs184 := fun q hq => Nat.lt_of_lt_of_le (hs184 q hq) (Below.size b445)
  replace bx_aS := Box.below bx_aS b445
  replace bx_aD := Box.below bx_aD b445
  replace bxe24_0 := Box.below bxe24_0 b445
  replace bx122 := Box.below bx122 b445
  replace bx160 := Box.below bx160 b445
  replace bx214 := Box.below bx214 b445
  have z448 := Below.size b445
  replace zb0 : W2.heap.size ≤ w444.heap.size := by omega
  replace za0 : w69.heap.size ≤ w444.heap.size := by omega
  have k449 : w444.cell? ⟨w.heap.size, 0, none⟩ = some ((Value.slice a_aS0 d_aS.heads_.length c_aS0)) := bx_aS.2 0 (by simp)
  have k450 : w444.cell? ⟨w.heap.size, 1, none⟩ = some ((Value.slice a_aS1 d_aS.descs_.length c_aS1)) := bx_aS.2 1 (by simp)
  have k451 : w444.cell? ⟨w.heap.size + 1, 0, none⟩ = some (Value.int .i64 d_aD.owner_) := bx_aD.2 0 (by simp)
  have k452 : w444.cell? ⟨w.heap.size + 1, 1, none⟩ = some (Value.int .i64 d_aD.status_) := bx_aD.2 1 (by simp)
  have k453 : w444.cell? ⟨w.heap.size + 1, 2, none⟩ = some ((Value.slice a_aD0 d_aD.entries_.length c_aD0)) := bx_aD.2 2 (by simp)
  have k454 : w444.cell? ⟨Be24_0, 0, none⟩ = some ((Value.slice a73 m74 c75)) := bxe24_0.2 0 (by simp)
  have k455 : w444.cell? ⟨Be24_0, 1, none⟩ = some ((Value.slice a76 m77 c78)) := bxe24_0.2 1 (by simp)
  have k456 : w444.cell? ⟨w87.heap.size, 0, none⟩ = some ((Value.slice a103 m104 c105)) := bx122.2 0 (by simp)
  have k457 : w444.cell? ⟨w87.heap.size, 1, none⟩ = some ((Value.slice a106 m107 c108)) := bx122.2 1 (by simp)
  have k458 : w444.cell? ⟨w132.heap.size, 0, none⟩ = some (Value.int .i64 d_aD.owner_) := bx160.2 0 (by simp)
  have k459 : w444.cell? ⟨w132.heap.size, 1, none⟩ = some (Value.int .i64 d_aD.status_) := bx160.2 1 (by simp)
  have k460 : w444.cell? ⟨w132.heap.size, 2, none⟩ = some ((Value.slice a142 m143 c144)) := bx160.2 2 (by simp)
  have k461 : w444.cell? ⟨w173.heap.size, 0, none⟩ = some ((Value.slice a190 m191 c192)) := bx214.2 0 (by simp)
  have k462 : w444.cell? ⟨w173.heap.size, 1, none⟩ = some ((Value.slice a193 m194 c195)) := bx214.2 1 (by simp)
  go_upto_region 31 with fail
  clear k449 k450 k451 k452 k453 k454 k455 k456 k457 k458 k459 k460 k461 k462
  go_cut [17, 18, 19] from 20 (fun p17 p18 p19 wx => ∃ (Be463_0 : Nat) (ue463_00 ue463_01 : Value) (Se463_00 Se463_01 : Nat → Prop), p18 = (.int .i64 (annN d_aS.heads_ d_aS.descs_ d_aD)) ∧ p19 = (.bool (annOk d_aS.heads_ d_aS.descs_ d_aD)) ∧ p17 = Value.pointer (some ⟨Be463_0, 0, none⟩) ∧ Box wx Be463_0 [ue463_00, ue463_01] ∧ w444.heap.size ≤ Be463_0 ∧ ownL Se463_00 wx ue463_00 (annD d_aS d_aD).heads_ ∧ ownL Se463_01 wx ue463_01 (annD d_aS d_aD).descs_ ∧ (∀ b, Se463_00 b → Rg w444.heap.size wx.heap.size b ∧ b ≠ Be463_0) ∧ (∀ b, Se463_01 b → Rg w444.heap.size wx.heap.size b ∧ b ≠ Be463_0) ∧ (∀ b, Se463_00 b → ¬ Se463_01 b) ∧ StoreB (annD d_aS d_aD) ∧ Below w444.heap.size w444 wx)
  case first =>
    have lt500 := (bx_aS).1
    have lt501 := (bx_aD).1
    have lt502 := (bxe24_0).1
    have lt503 := (bx122).1
    have lt504 := (bx160).1
    have lt505 := (bx214).1
    have k506 : w444.cell? ⟨w.heap.size, 0, none⟩ = some ((Value.slice a_aS0 d_aS.heads_.length c_aS0)) := bx_aS.2 0 (by simp)
    have k507 : w444.cell? ⟨w.heap.size, 1, none⟩ = some ((Value.slice a_aS1 d_aS.descs_.length c_aS1)) := bx_aS.2 1 (by simp)
    have k508 : w444.cell? ⟨w.heap.size + 1, 0, none⟩ = some (Value.int .i64 d_aD.owner_) := bx_aD.2 0 (by simp)
    have k509 : w444.cell? ⟨w.heap.size + 1, 1, none⟩ = some (Value.int .i64 d_aD.status_) := bx_aD.2 1 (by simp)
    have k510 : w444.cell? ⟨w.heap.size + 1, 2, none⟩ = some ((Value.slice a_aD0 d_aD.entries_.length c_aD0)) := bx_aD.2 2 (by simp)
    have k511 : w444.cell? ⟨Be24_0, 0, none⟩ = some ((Value.slice a73 m74 c75)) := bxe24_0.2 0 (by simp)
    have k512 : w444.cell? ⟨Be24_0, 1, none⟩ = some ((Value.slice a76 m77 c78)) := bxe24_0.2 1 (by simp)
    have k513 : w444.cell? ⟨w87.heap.size, 0, none⟩ = some ((Value.slice a103 m104 c105)) := bx122.2 0 (by simp)
    have k514 : w444.cell? ⟨w87.heap.size, 1, none⟩ = some ((Value.slice a106 m107 c108)) := bx122.2 1 (by simp)
    have k515 : w444.cell? ⟨w132.heap.size, 0, none⟩ = some (Value.int .i64 d_aD.owner_) := bx160.2 0 (by simp)
    have k516 : w444.cell? ⟨w132.heap.size, 1, none⟩ = some (Value.int .i64 d_aD.status_) := bx160.2 1 (by simp)
    have k517 : w444.cell? ⟨w132.heap.size, 2, none⟩ = some ((Value.slice a142 m143 c144)) := bx160.2 2 (by simp)
    have k518 : w444.cell? ⟨w173.heap.size, 0, none⟩ = some ((Value.slice a190 m191 c192)) := bx214.2 0 (by simp)
    have k519 : w444.cell? ⟨w173.heap.size, 1, none⟩ = some ((Value.slice a193 m194 c195)) := bx214.2 1 (by simp)
    have mkS520 : ∀ w' : World, Below w444.heap.size w444 w' → w444.heap.size ≤ w'.heap.size → (Below w444.heap.size w444 w' ∧ w444.heap.size ≤ w'.heap.size ∧ w'.cell? ⟨w.heap.size, 0, none⟩ = some ((Value.slice a_aS0 d_aS.heads_.length c_aS0)) ∧ w'.cell? ⟨w.heap.size, 1, none⟩ = some ((Value.slice a_aS1 d_aS.descs_.length c_aS1)) ∧ w'.cell? ⟨w.heap.size + 1, 0, none⟩ = some (Value.int .i64 d_aD.owner_) ∧ w'.cell? ⟨w.heap.size + 1, 1, none⟩ = some (Value.int .i64 d_aD.status_) ∧ w'.cell? ⟨w.heap.size + 1, 2, none⟩ = some ((Value.slice a_aD0 d_aD.entries_.length c_aD0)) ∧ w'.cell? ⟨Be24_0, 0, none⟩ = some ((Value.slice a73 m74 c75)) ∧ w'.cell? ⟨Be24_0, 1, none⟩ = some ((Value.slice a76 m77 c78)) ∧ w'.cell? ⟨w87.heap.size, 0, none⟩ = some ((Value.slice a103 m104 c105)) ∧ w'.cell? ⟨w87.heap.size, 1, none⟩ = some ((Value.slice a106 m107 c108)) ∧ w'.cell? ⟨w132.heap.size, 0, none⟩ = some (Value.int .i64 d_aD.owner_) ∧ w'.cell? ⟨w132.heap.size, 1, none⟩ = some (Value.int .i64 d_aD.status_) ∧ w'.cell? ⟨w132.heap.size, 2, none⟩ = some ((Value.slice a142 m143 c144)) ∧ w'.cell? ⟨w173.heap.size, 0, none⟩ = some ((Value.slice a190 m191 c192)) ∧ w'.cell? ⟨w173.heap.size, 1, none⟩ = some ((Value.slice a193 m194 c195))) := fun w' H Z => ⟨H, Z, (H.cell (p := ⟨w.heap.size, 0, none⟩) lt500).trans k506, (H.cell (p := ⟨w.heap.size, 1, none⟩) lt500).trans k507, (H.cell (p := ⟨w.heap.size + 1, 0, none⟩) lt501).trans k508, (H.cell (p := ⟨w.heap.size + 1, 1, none⟩) lt501).trans k509, (H.cell (p := ⟨w.heap.size + 1, 2, none⟩) lt501).trans k510, (H.cell (p := ⟨Be24_0, 0, none⟩) lt502).trans k511, (H.cell (p := ⟨Be24_0, 1, none⟩) lt502).trans k512, (H.cell (p := ⟨w87.heap.size, 0, none⟩) lt503).trans k513, (H.cell (p := ⟨w87.heap.size, 1, none⟩) lt503).trans k514, (H.cell (p := ⟨w132.heap.size, 0, none⟩) lt504).trans k515, (H.cell (p := ⟨w132.heap.size, 1, none⟩) lt504).trans k516, (H.cell (p := ⟨w132.heap.size, 2, none⟩) lt504).trans k517, (H.cell (p := ⟨w173.heap.size, 0, none⟩) lt505).trans k518, (H.cell (p := ⟨w173.heap.size, 1, none⟩) lt505).trans k519⟩
    go_region_held3 (fun w' => Below w444.heap.size w444 w' ∧ w444.heap.size ≤ w'.heap.size ∧ w'.cell? ⟨w.heap.size, 0, none⟩ = some ((Value.slice a_aS0 d_aS.heads_.length c_aS0)) ∧ w'.cell? ⟨w.heap.size, 1, none⟩ = some ((Value.slice a_aS1 d_aS.descs_.length c_aS1)) ∧ w'.cell? ⟨w.heap.size + 1, 0, none⟩ = some (Value.int .i64 d_aD.owner_) ∧ w'.cell? ⟨w.heap.size + 1, 1, none⟩ = some (Value.int .i64 d_aD.status_) ∧ w'.cell? ⟨w.heap.size + 1, 2, none⟩ = some ((Value.slice a_aD0 d_aD.entries_.length c_aD0)) ∧ w'.cell? ⟨Be24_0, 0, none⟩ = some ((Value.slice a73 m74 c75)) ∧ w'.cell? ⟨Be24_0, 1, none⟩ = some ((Value.slice a76 m77 c78)) ∧ w'.cell? ⟨w87.heap.size, 0, none⟩ = some ((Value.slice a103 m104 c105)) ∧ w'.cell? ⟨w87.heap.size, 1, none⟩ = some ((Value.slice a106 m107 c108)) ∧ w'.cell? ⟨w132.heap.size, 0, none⟩ = some (Value.int .i64 d_aD.owner_) ∧ w'.cell? ⟨w132.heap.size, 1, none⟩ = some (Value.int .i64 d_aD.status_) ∧ w'.cell? ⟨w132.heap.size, 2, none⟩ = some ((Value.slice a142 m143 c144)) ∧ w'.cell? ⟨w173.heap.size, 0, none⟩ = some ((Value.slice a190 m191 c192)) ∧ w'.cell? ⟨w173.heap.size, 1, none⟩ = some ((Value.slice a193 m194 c195)))
      (first | exact ⟨(Below.refl _ _).drew, Nat.le_refl _, k506, k507, k508, k509, k510, k511, k512, k513, k514, k515, k516, k517, k518, k519⟩ | exact keepBox14 (by omega) ‹_› ‹_› | exact keepBox14 (by omega) ‹_› ((Below.refl _ _).alloc (Nat.le_refl _) _) | exact mkS520 _ (Below.alloc hq_w486 (Below.size hq_w486) _) (Nat.le_trans (Below.size hq_w486) (by simp)) | exact mkS520 _ (Below.setCell (Below.setCell (And.left ‹Below w444.heap.size w444 _ ∧ _›) fg_0 _) fg_0 _) (Nat.le_trans (And.left (And.right ‹Below w444.heap.size w444 _ ∧ _›)) (by simp [World.setCell])))
      (first
    | (go_at_call 28; have hz_w486 := hq_w479; refine (impl_AnnounceW d_aS _ _ d_aD _ _ (rdsL.below (ownL.rds o470) (by first | exact at0 hr_w466_w479 (Below.size hr_w466_w479) | exact at1 hr_w466_w479 (Below.size hr_w466_w479) | exact at2 hr_w466_w479 (Below.size hr_w466_w479))) (rdsL.below (ownL.rds o475) (by first | exact at0 hr_w466_w479 (Below.size hr_w466_w479) | exact at1 hr_w466_w479 (Below.size hr_w466_w479) | exact at2 hr_w466_w479 (Below.size hr_w466_w479))) hb_aS (rdsL.below (ownL.rds o483) (by first | exact at0 (Below.refl _ _ : Below w479.heap.size w479 w479) (Nat.le_refl _ : w479.heap.size ≤ w479.heap.size) | exact at1 (Below.refl _ _ : Below w479.heap.size w479 w479) (Nat.le_refl _ : w479.heap.size ≤ w479.heap.size) | exact at2 (Below.refl _ _ : Below w479.heap.size w479 w479) (Nat.le_refl _ : w479.heap.size ≤ w479.heap.size))) hb_aD).mono ?_; rintro e w486 ⟨u488, u493, S489, S494, rfl, o490, o495, r491, r496, dj498, hb499, b487⟩; have hq_w486 : Below w444.heap.size w444 w486 := (by first | exact hop0 hq_w479 (Below.size hq_w479) b487 | exact hop1 hq_w479 (Below.size hq_w479) b487 | exact hop2 hq_w479 (Below.size hq_w479) b487); have zy : w444.heap.size ≤ _ := (by first | exact le0 (Below.size hq_w479) b487 | exact le1 (Below.size hq_w479) b487 | exact le2 (Below.size hq_w479) b487); (first | (have fz := boxhop0 fb_0 b487; obtain ⟨fb_0, fl_0⟩ := fz) | (have fz := boxnewd (cs := #[Value.slice none 0 0, Value.slice none 0 0]) (t := 31) b487; obtain ⟨fb_0, fl_0⟩ := fz; have fg_0 := (Below.size hq_w479)) | (have fz := boxnew0 (cs := #[Value.slice none 0 0, Value.slice none 0 0]) (t := 31) b487; obtain ⟨fb_0, fl_0⟩ := fz; have fg_0 := (Below.size hq_w479)) | skip); obtain ⟨u488a, u488m, u488c, rfl⟩ := ownL_shape o490; obtain ⟨u493a, u493m, u493c, rfl⟩ := ownL_shape o495; (first | (have fz := box_cells2 fb_0; obtain ⟨nb_0_0, nb_0_1, nf_0_0, nf_0_1, nq_0⟩ := fz) | skip))
    | (go_at_call 27; have hz_w479 := hq_w466; refine (toDesc_o d_aD (Value.slice a_aD0 d_aD.entries_.length c_aD0) _ (rdsL.below (rdsL.below h_aD0 t446) (by first | exact at0 hq_w466 (Below.size hq_w466) | exact at1 hq_w466 (Below.size hq_w466) | exact at2 hq_w466 (Below.size hq_w466))) hb_aD).mono ?_; rintro e w479 ⟨u481, S482, rfl, o483, r484, b480⟩; have hq_w479 : Below w444.heap.size w444 w479 := (by first | exact hop0 hq_w466 (Below.size hq_w466) b480 | exact hop1 hq_w466 (Below.size hq_w466) b480 | exact hop2 hq_w466 (Below.size hq_w466) b480); have hr_w466_w479 : Below w466.heap.size w466 w479 := (by first | exact hop0 (Below.refl _ _) (Nat.le_refl _) b480 | exact hop1 (Below.refl _ _) (Nat.le_refl _) b480 | exact hop2 (Below.refl _ _) (Nat.le_refl _) b480); (first | (have fz := boxhop0 fb_0 b480; obtain ⟨fb_0, fl_0⟩ := fz) | (have fz := boxnewd (cs := #[Value.slice none 0 0, Value.slice none 0 0]) (t := 31) b480; obtain ⟨fb_0, fl_0⟩ := fz; have fg_0 := (Below.size hq_w466)) | (have fz := boxnew0 (cs := #[Value.slice none 0 0, Value.slice none 0 0]) (t := 31) b480; obtain ⟨fb_0, fl_0⟩ := fz; have fg_0 := (Below.size hq_w466)) | skip))
    | (go_at_call 12; refine (toStore_o d_aS (Value.slice a_aS0 d_aS.heads_.length c_aS0) (Value.slice a_aS1 d_aS.descs_.length c_aS1) _ (rdsL.below (rdsL.below h_aS0 t446) (by first | exact at0 ((Below.refl _ _).drew : Below w444.heap.size w444 w444.drew) (Nat.le_refl _ : w444.heap.size ≤ w444.drew.heap.size) | exact at1 ((Below.refl _ _).drew : Below w444.heap.size w444 w444.drew) (Nat.le_refl _ : w444.heap.size ≤ w444.drew.heap.size) | exact at2 ((Below.refl _ _).drew : Below w444.heap.size w444 w444.drew) (Nat.le_refl _ : w444.heap.size ≤ w444.drew.heap.size))) (rdsL.below (rdsL.below h_aS1 t446) (by first | exact at0 ((Below.refl _ _).drew : Below w444.heap.size w444 w444.drew) (Nat.le_refl _ : w444.heap.size ≤ w444.drew.heap.size) | exact at1 ((Below.refl _ _).drew : Below w444.heap.size w444 w444.drew) (Nat.le_refl _ : w444.heap.size ≤ w444.drew.heap.size) | exact at2 ((Below.refl _ _).drew : Below w444.heap.size w444 w444.drew) (Nat.le_refl _ : w444.heap.size ≤ w444.drew.heap.size))) hb_aS).mono ?_; rintro e w466 ⟨u468, u473, S469, S474, rfl, o470, o475, r471, r476, dj478, b467⟩; have hq_w466 : Below w444.heap.size w444 w466 := (by first | exact hop0 ((Below.refl _ _).drew : Below w444.heap.size w444 w444.drew) (Nat.le_refl _ : w444.heap.size ≤ w444.drew.heap.size) b467 | exact hop1 ((Below.refl _ _).drew : Below w444.heap.size w444 w444.drew) (Nat.le_refl _ : w444.heap.size ≤ w444.drew.heap.size) b467 | exact hop2 ((Below.refl _ _).drew : Below w444.heap.size w444 w444.drew) (Nat.le_refl _ : w444.heap.size ≤ w444.drew.heap.size) b467); (first | (have fz := boxhop0 fb_0 b467; obtain ⟨fb_0, fl_0⟩ := fz) | (have fz := boxnewd (cs := #[Value.slice none 0 0, Value.slice none 0 0]) (t := 31) b467; obtain ⟨fb_0, fl_0⟩ := fz; have fg_0 := (Nat.le_refl _ : w444.heap.size ≤ w444.drew.heap.size)) | (have fz := boxnew0 (cs := #[Value.slice none 0 0, Value.slice none 0 0]) (t := 31) b467; obtain ⟨fb_0, fl_0⟩ := fz; have fg_0 := (Nat.le_refl _ : w444.heap.size ≤ w444.drew.heap.size)) | skip)))
    all_goals clear mkS520 k506 k507 k508 k509 k510 k511 k512 k513 k514 k515 k516 k517 k518 k519
    all_goals go_wp2_with fail
    all_goals go_meet
    all_goals exact ⟨_, _, _, S489, S494, rfl, rfl, rfl, (by first | exact Box.alloc _ _ _ | exact ((fb_0.set 0 (by simp) _).set 1 (by simp) _).1), (by first | exact fg_0 | exact Below.size hq_w486), (by first | exact own_alloc o490 (fun b hb => (r491 b hb).2) | exact (own_set (own_set o490 (fun b hb => by have y := r491 b hb; have y1 := y.1; have y2 := y.2; omega)) (fun b hb => by have y := r491 b hb; have y1 := y.1; have y2 := y.2; omega))), (by first | exact own_alloc o495 (fun b hb => (r496 b hb).2) | exact (own_set (own_set o495 (fun b hb => by have y := r496 b hb; have y1 := y.1; have y2 := y.2; omega)) (fun b hb => by have y := r496 b hb; have y1 := y.1; have y2 := y.2; omega))), (fun b hb => by have y := r491 b hb; have y1 := y.1; have y2 := y.2; exact ⟨⟨by omega, by simp [World.setCell] <;> omega⟩, by omega⟩), (fun b hb => by have y := r496 b hb; have y1 := y.1; have y2 := y.2; exact ⟨⟨by omega, by simp [World.setCell] <;> omega⟩, by omega⟩), dj498, hb499, (by first | exact Below.alloc hq_w486 (Below.size hq_w486) _ | exact (Below.setCell (Below.setCell hq_w486 fg_0 _) fg_0 _))⟩
  obtain ⟨Be463_0, ue463_00, ue463_01, Se463_00, Se463_01, rfl, rfl, rfl, bxe463_0, bge463_0, oe463_00, oe463_01, re463_00, re463_01, dje463_001, hbe463_0, b522⟩ := hcut
  obtain ⟨w521, hwe463⟩ : ∃ X, X = wc := ⟨_, rfl⟩
  rw [← hwe463] at bxe463_0 oe463_00 oe463_01 re463_00 re463_01 b522 ⊢
  clear hwe463
  clear wc
  have t523 := Below.trans t446 (Below.mono b522 zb0)
  have s524 := Below.trans s447 (Below.mono b522 za0)
  replace o362 := ownL.keep o362 (fun q hq => Below.block b522 q (hs93 q hq))
  replace hs93 := fun q hq => Nat.lt_of_lt_of_le (hs93 q hq) (Below.size b522)
  replace o363 := ownL.keep o363 (fun q hq => Below.block b522 q (hs98 q hq))
  replace hs98 := fun q hq => Nat.lt_of_lt_of_le (hs98 q hq) (Below.size b522)
  replace o384 := ownL.keep o384 (fun q hq => Below.block b522 q (hs138 q hq))
  replace hs138 := fun q hq => Nat.lt_of_lt_of_le (hs138 q hq) (Below.size b522)
  replace o424 := ownL.keep o424 (fun q hq => Below.block b522 q (hs179 q hq))
  replace hs179 := fun q hq => Nat.lt_of_lt_of_le (hs179 q hq) (Below.size b522)
  replace o425 := ownL.keep o425 (fun q hq => Below.block b522 q (hs184 q hq))
  replace hs184 := fun q hq => Nat.lt_of_lt_of_le (hs184 q hq) (Below.size b522)
  replace bx_aS := Box.below bx_aS b522
  replace bx_aD := Box.below bx_aD b522
  replace bxe24_0 := Box.below bxe24_0 b522
  replace bx122 := Box.below bx122 b522
  replace bx160 := Box.below bx160 b522
  replace bx214 := Box.below bx214 b522
  have z525 := Below.size b522
  replace zb0 : W2.heap.size ≤ w521.heap.size := by omega
  replace za0 : w69.heap.size ≤ w521.heap.size := by omega
  obtain ⟨a526, m527, c528, rfl⟩ := ownL_shape oe463_00
  have hs464 := fun q hq => (re463_00 q hq).1.2
  obtain ⟨a529, m530, c531, rfl⟩ := ownL_shape oe463_01
  have hs465 := fun q hq => (re463_01 q hq).1.2
  have lte463_0 := bxe463_0.1
  have k532 : w521.cell? ⟨w.heap.size, 0, none⟩ = some ((Value.slice a_aS0 d_aS.heads_.length c_aS0)) := bx_aS.2 0 (by simp)
  have k533 : w521.cell? ⟨w.heap.size, 1, none⟩ = some ((Value.slice a_aS1 d_aS.descs_.length c_aS1)) := bx_aS.2 1 (by simp)
  have k534 : w521.cell? ⟨w.heap.size + 1, 0, none⟩ = some (Value.int .i64 d_aD.owner_) := bx_aD.2 0 (by simp)
  have k535 : w521.cell? ⟨w.heap.size + 1, 1, none⟩ = some (Value.int .i64 d_aD.status_) := bx_aD.2 1 (by simp)
  have k536 : w521.cell? ⟨w.heap.size + 1, 2, none⟩ = some ((Value.slice a_aD0 d_aD.entries_.length c_aD0)) := bx_aD.2 2 (by simp)
  have k537 : w521.cell? ⟨Be24_0, 0, none⟩ = some ((Value.slice a73 m74 c75)) := bxe24_0.2 0 (by simp)
  have k538 : w521.cell? ⟨Be24_0, 1, none⟩ = some ((Value.slice a76 m77 c78)) := bxe24_0.2 1 (by simp)
  have k539 : w521.cell? ⟨w87.heap.size, 0, none⟩ = some ((Value.slice a103 m104 c105)) := bx122.2 0 (by simp)
  have k540 : w521.cell? ⟨w87.heap.size, 1, none⟩ = some ((Value.slice a106 m107 c108)) := bx122.2 1 (by simp)
  have k541 : w521.cell? ⟨w132.heap.size, 0, none⟩ = some (Value.int .i64 d_aD.owner_) := bx160.2 0 (by simp)
  have k542 : w521.cell? ⟨w132.heap.size, 1, none⟩ = some (Value.int .i64 d_aD.status_) := bx160.2 1 (by simp)
  have k543 : w521.cell? ⟨w132.heap.size, 2, none⟩ = some ((Value.slice a142 m143 c144)) := bx160.2 2 (by simp)
  have k544 : w521.cell? ⟨w173.heap.size, 0, none⟩ = some ((Value.slice a190 m191 c192)) := bx214.2 0 (by simp)
  have k545 : w521.cell? ⟨w173.heap.size, 1, none⟩ = some ((Value.slice a193 m194 c195)) := bx214.2 1 (by simp)
  have k546 : w521.cell? ⟨Be463_0, 0, none⟩ = some ((Value.slice a526 m527 c528)) := bxe463_0.2 0 (by simp)
  have k547 : w521.cell? ⟨Be463_0, 1, none⟩ = some ((Value.slice a529 m530 c531)) := bxe463_0.2 1 (by simp)
  go_wp2_with fail
  clear k532 k533 k534 k535 k536 k537 k538 k539 k540 k541 k542 k543 k544 k545 k546 k547
  refine (eqStore_o _ _ _ _ _ _ (ownL.rds oe463_00) (ownL.rds oe463_01) (rdsL.below oe24_00 s524) (rdsL.below oe24_01 s524)).mono ?_
  rintro e w548 ⟨rfl, b549⟩
  have t550 := Below.trans t523 (Below.mono b549 zb0)
  have s551 := Below.trans s524 (Below.mono b549 za0)
  replace o362 := ownL.keep o362 (fun q hq => Below.block b549 q (hs93 q hq))
  replace hs93 := fun q hq => Nat.lt_of_lt_of_le (hs93 q hq) (Below.size b549)
  replace o363 := ownL.keep o363 (fun q hq => Below.block b549 q (hs98 q hq))
  replace hs98 := fun q hq => Nat.lt_of_lt_of_le (hs98 q hq) (Below.size b549)
  replace o384 := ownL.keep o384 (fun q hq => Below.block b549 q (hs138 q hq))
  replace hs138 := fun q hq => Nat.lt_of_lt_of_le (hs138 q hq) (Below.size b549)
  replace o424 := ownL.keep o424 (fun q hq => Below.block b549 q (hs179 q hq))
  replace hs179 := fun q hq => Nat.lt_of_lt_of_le (hs179 q hq) (Below.size b549)
  replace o425 := ownL.keep o425 (fun q hq => Below.block b549 q (hs184 q hq))
  replace hs184 := fun q hq => Nat.lt_of_lt_of_le (hs184 q hq) (Below.size b549)
  replace oe463_00 := ownL.keep oe463_00 (fun q hq => Below.block b549 q (hs464 q hq))
  replace hs464 := fun q hq => Nat.lt_of_lt_of_le (hs464 q hq) (Below.size b549)
  replace oe463_01 := ownL.keep oe463_01 (fun q hq => Below.block b549 q (hs465 q hq))
  replace hs465 := fun q hq => Nat.lt_of_lt_of_le (hs465 q hq) (Below.size b549)
  replace bx_aS := Box.below bx_aS b549
  replace bx_aD := Box.below bx_aD b549
  replace bxe24_0 := Box.below bxe24_0 b549
  replace bx122 := Box.below bx122 b549
  replace bx160 := Box.below bx160 b549
  replace bx214 := Box.below bx214 b549
  replace bxe463_0 := Box.below bxe463_0 b549
  have z552 := Below.size b549
  replace zb0 : W2.heap.size ≤ w548.heap.size := by omega
  replace za0 : w69.heap.size ≤ w548.heap.size := by omega
  have k553 : w548.cell? ⟨w.heap.size, 0, none⟩ = some ((Value.slice a_aS0 d_aS.heads_.length c_aS0)) := bx_aS.2 0 (by simp)
  have k554 : w548.cell? ⟨w.heap.size, 1, none⟩ = some ((Value.slice a_aS1 d_aS.descs_.length c_aS1)) := bx_aS.2 1 (by simp)
  have k555 : w548.cell? ⟨w.heap.size + 1, 0, none⟩ = some (Value.int .i64 d_aD.owner_) := bx_aD.2 0 (by simp)
  have k556 : w548.cell? ⟨w.heap.size + 1, 1, none⟩ = some (Value.int .i64 d_aD.status_) := bx_aD.2 1 (by simp)
  have k557 : w548.cell? ⟨w.heap.size + 1, 2, none⟩ = some ((Value.slice a_aD0 d_aD.entries_.length c_aD0)) := bx_aD.2 2 (by simp)
  have k558 : w548.cell? ⟨Be24_0, 0, none⟩ = some ((Value.slice a73 m74 c75)) := bxe24_0.2 0 (by simp)
  have k559 : w548.cell? ⟨Be24_0, 1, none⟩ = some ((Value.slice a76 m77 c78)) := bxe24_0.2 1 (by simp)
  have k560 : w548.cell? ⟨w87.heap.size, 0, none⟩ = some ((Value.slice a103 m104 c105)) := bx122.2 0 (by simp)
  have k561 : w548.cell? ⟨w87.heap.size, 1, none⟩ = some ((Value.slice a106 m107 c108)) := bx122.2 1 (by simp)
  have k562 : w548.cell? ⟨w132.heap.size, 0, none⟩ = some (Value.int .i64 d_aD.owner_) := bx160.2 0 (by simp)
  have k563 : w548.cell? ⟨w132.heap.size, 1, none⟩ = some (Value.int .i64 d_aD.status_) := bx160.2 1 (by simp)
  have k564 : w548.cell? ⟨w132.heap.size, 2, none⟩ = some ((Value.slice a142 m143 c144)) := bx160.2 2 (by simp)
  have k565 : w548.cell? ⟨w173.heap.size, 0, none⟩ = some ((Value.slice a190 m191 c192)) := bx214.2 0 (by simp)
  have k566 : w548.cell? ⟨w173.heap.size, 1, none⟩ = some ((Value.slice a193 m194 c195)) := bx214.2 1 (by simp)
  have k567 : w548.cell? ⟨Be463_0, 0, none⟩ = some ((Value.slice a526 m527 c528)) := bxe463_0.2 0 (by simp)
  have k568 : w548.cell? ⟨Be463_0, 1, none⟩ = some ((Value.slice a529 m530 c531)) := bxe463_0.2 1 (by simp)
  go_wp2_with fail
  clear k553 k554 k555 k556 k557 k558 k559 k560 k561 k562 k563 k564 k565 k566 k567 k568
  refine (heldStore_o _ _ _ _ _ hb186 (by omega) (by omega) (ownL.rds o424) (ownL.rds o425)).mono ?_
  rintro e w569 ⟨rfl, b570⟩
  have t571 := Below.trans t550 (Below.mono b570 zb0)
  have s572 := Below.trans s551 (Below.mono b570 za0)
  replace o362 := ownL.keep o362 (fun q hq => Below.block b570 q (hs93 q hq))
  replace hs93 := fun q hq => Nat.lt_of_lt_of_le (hs93 q hq) (Below.size b570)
  replace o363 := ownL.keep o363 (fun q hq => Below.block b570 q (hs98 q hq))
  replace hs98 := fun q hq => Nat.lt_of_lt_of_le (hs98 q hq) (Below.size b570)
  replace o384 := ownL.keep o384 (fun q hq => Below.block b570 q (hs138 q hq))
  replace hs138 := fun q hq => Nat.lt_of_lt_of_le (hs138 q hq) (Below.size b570)
  replace o424 := ownL.keep o424 (fun q hq => Below.block b570 q (hs179 q hq))
  replace hs179 := fun q hq => Nat.lt_of_lt_of_le (hs179 q hq) (Below.size b570)
  replace o425 := ownL.keep o425 (fun q hq => Below.block b570 q (hs184 q hq))
  replace hs184 := fun q hq => Nat.lt_of_lt_of_le (hs184 q hq) (Below.size b570)
  replace oe463_00 := ownL.keep oe463_00 (fun q hq => Below.block b570 q (hs464 q hq))
  replace hs464 := fun q hq => Nat.lt_of_lt_of_le (hs464 q hq) (Below.size b570)
  replace oe463_01 := ownL.keep oe463_01 (fun q hq => Below.block b570 q (hs465 q hq))
  replace hs465 := fun q hq => Nat.lt_of_lt_of_le (hs465 q hq) (Below.size b570)
  replace bx_aS := Box.below bx_aS b570
  replace bx_aD := Box.below bx_aD b570
  replace bxe24_0 := Box.below bxe24_0 b570
  replace bx122 := Box.below bx122 b570
  replace bx160 := Box.below bx160 b570
  replace bx214 := Box.below bx214 b570
  replace bxe463_0 := Box.below bxe463_0 b570
  have z573 := Below.size b570
  replace zb0 : W2.heap.size ≤ w569.heap.size := by omega
  replace za0 : w69.heap.size ≤ w569.heap.size := by omega
  have k574 : w569.cell? ⟨w.heap.size, 0, none⟩ = some ((Value.slice a_aS0 d_aS.heads_.length c_aS0)) := bx_aS.2 0 (by simp)
  have k575 : w569.cell? ⟨w.heap.size, 1, none⟩ = some ((Value.slice a_aS1 d_aS.descs_.length c_aS1)) := bx_aS.2 1 (by simp)
  have k576 : w569.cell? ⟨w.heap.size + 1, 0, none⟩ = some (Value.int .i64 d_aD.owner_) := bx_aD.2 0 (by simp)
  have k577 : w569.cell? ⟨w.heap.size + 1, 1, none⟩ = some (Value.int .i64 d_aD.status_) := bx_aD.2 1 (by simp)
  have k578 : w569.cell? ⟨w.heap.size + 1, 2, none⟩ = some ((Value.slice a_aD0 d_aD.entries_.length c_aD0)) := bx_aD.2 2 (by simp)
  have k579 : w569.cell? ⟨Be24_0, 0, none⟩ = some ((Value.slice a73 m74 c75)) := bxe24_0.2 0 (by simp)
  have k580 : w569.cell? ⟨Be24_0, 1, none⟩ = some ((Value.slice a76 m77 c78)) := bxe24_0.2 1 (by simp)
  have k581 : w569.cell? ⟨w87.heap.size, 0, none⟩ = some ((Value.slice a103 m104 c105)) := bx122.2 0 (by simp)
  have k582 : w569.cell? ⟨w87.heap.size, 1, none⟩ = some ((Value.slice a106 m107 c108)) := bx122.2 1 (by simp)
  have k583 : w569.cell? ⟨w132.heap.size, 0, none⟩ = some (Value.int .i64 d_aD.owner_) := bx160.2 0 (by simp)
  have k584 : w569.cell? ⟨w132.heap.size, 1, none⟩ = some (Value.int .i64 d_aD.status_) := bx160.2 1 (by simp)
  have k585 : w569.cell? ⟨w132.heap.size, 2, none⟩ = some ((Value.slice a142 m143 c144)) := bx160.2 2 (by simp)
  have k586 : w569.cell? ⟨w173.heap.size, 0, none⟩ = some ((Value.slice a190 m191 c192)) := bx214.2 0 (by simp)
  have k587 : w569.cell? ⟨w173.heap.size, 1, none⟩ = some ((Value.slice a193 m194 c195)) := bx214.2 1 (by simp)
  have k588 : w569.cell? ⟨Be463_0, 0, none⟩ = some ((Value.slice a526 m527 c528)) := bxe463_0.2 0 (by simp)
  have k589 : w569.cell? ⟨Be463_0, 1, none⟩ = some ((Value.slice a529 m530 c531)) := bxe463_0.2 1 (by simp)
  go_wp2_with fail
  clear k574 k575 k576 k577 k578 k579 k580 k581 k582 k583 k584 k585 k586 k587 k588 k589
  try go_wp2
  go_ret
  exact ⟨rfl, hB0.trans (Below.mono t571 hB0.size)⟩

end Go.Proofs.Ytpdgpblekbongaa
