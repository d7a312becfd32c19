/- FnExactTreeKeys, walked. (printed by tools/mk_l15.py) -/
import Derived.Test.YtcjeafhejkppeaaI15l
import Derived.Test.YtcjeafhejkppeaaS15l
import Derived.Test.YtcjeafhejkppeaaC15c
import Derived.Test.YtcjeafhejkppeaaLn15
namespace Go.Proofs.Ytcjeafhejkppeaa
set_option maxRecDepth 100000
open Go.RowKit Go.Proofs Go.Own
set_option linter.unusedVariables false
set_option linter.unusedSimpArgs false
set_option maxRecDepth 100000 in
set_option maxHeartbeats 8000000 in
theorem law_TreeKeys (c : TreeD) (hc : c.twigs_.length = 16) (w : World) :
    Calls Try.prog 8 #[.agg c.enc.toArray] w fun e w' => e = .returned (.bool true) ∧ Below w.heap.size w w' := by
  have hl := tree_len hc
  have hl2 : c.enc.toArray.size = 65 := by rw [List.size_toArray, hl]
  have HT := hid (fun (W : World) => toTree_c c hc W)
  have HS := hid (fun (W : World) => spec_TreeKeys0 c hc W)
  have HI := hid (fun (W : World) => impl_TreeKeys0 c hc W)
  have HC := hid hc
  generalize hce : c.enc = ce at *
  obtain ⟨W1, hW1⟩ : ∃ X, w.alloc (.cells ce.toArray 26) = X := ⟨_, rfl⟩
  have hB1 : Below w.heap.size w W1 := by rw [← hW1]; exact (Below.refl _ _).alloc (Nat.le_refl _) _
  have B1 := hid (show BoxF W1 w.heap.size ce by rw [← hW1]; exact BoxF.alloc w ce.toArray 26)
  have HB1 := hid hB1
  have HCE := hid hce
  clear hc hB1 hce
  have hln := keysC_len c HC.out
  obtain ⟨xs, hr⟩ : ∃ r, keysC c = r := ⟨_, rfl⟩
  rw [hr] at HS HI hln
  go_enter Try.func8, Try.ntmps8
  go_wp2_with (first | (refine wpList_load_box rfl 26 _ rfl w.heap.size ce (by exact B1.out.1) rfl _ Try.underlying26 rfl (by rw [hl]; kernel_rfl) ?_) | (go_at_call 12; refine (HT.out _).mono ?_; rintro e wN ⟨rfl, bN⟩; have B1 := hid (B1.out.below bN); have HB1 := hid (HB1.out.trans (bN.mono HB1.out.size)); clear bN))
  have hlt := B1.out.1.1
  refine (HS.out _).mono ?_
  rintro e wN ⟨u0, rfl, o0, bN⟩
  obtain ⟨a0, m0, c0, rfl⟩ := owns_form3 o0
  have OW := hid o0
  have B1 := hid (B1.out.below bN)
  have HB1 := hid (HB1.out.trans (bN.mono HB1.out.size))
  clear bN o0 hW1 hlt
  go_wp2_with (first | (refine wpList_load_box rfl 26 _ rfl w.heap.size ce (by exact B1.out.1) rfl _ Try.underlying26 rfl (by rw [hl]; kernel_rfl) ?_) | (go_at_call 12; refine (HT.out _).mono ?_; rintro e wN ⟨rfl, bN⟩; have B1 := hid (B1.out.below bN); have HB1 := hid (HB1.out.trans (bN.mono HB1.out.size)); have OW := hid (owns_below OW.out bN); clear bN))
  have OGB := hid B1.out.1.1
  have P0 := OW.out
  refine (HI.out _).mono ?_
  rintro e wN ⟨u1, rfl, o1, bN⟩
  obtain ⟨a1, m1, c1, rfl⟩ := owns_form3 o1
  have AP := hid (apart P0 (Nat.le_refl _) o1)
  have OG := hid o1
  have B1 := hid (B1.out.below bN)
  have HB1 := hid (HB1.out.trans (bN.mono HB1.out.size))
  have OW := hid (owns_below OW.out bN)
  clear bN o1 P0
  go_wp2_with fail
  refine (eqIntS_c _ _ _ _ (Flat.of_owns OG.out) (Flat.of_owns OW.out)).mono ?_
  rintro e wN ⟨rfl, bN⟩
  have B1 := hid (B1.out.below bN)
  have HB1 := hid (HB1.out.trans (bN.mono HB1.out.size))
  have OW := hid (owns_below OW.out bN)
  have OG := hid (owns_below OG.out bN)
  clear bN
  go_wp2_with fail
  refine (markIntS_c _ _ _ _ _ 1 _ (by omega) (by omega) (by omega) OG.out).mono ?_
  rintro e wM ⟨rfl, oM, gM⟩
  have hlo := OGB.out
  have B1 := hid (B1.out.grown gM (fun e9 => by have := World.ownsRow.lt OG.out _ e9; omega))
  have HB1 := hid (HB1.out.grown gM HB1.out.size (fun b e9 => by have := World.ownsRow.lt OG.out b e9; omega))
  have OW := hid (World.ownsRow.kept OW.out gM AP.out.1)
  have OG := hid oM
  clear oM gM hlo
  go_wp2_with fail
  refine (heldIntS_c _ _ 1 _ (by omega) (by omega) (by omega) (Flat.of_owns OG.out)).mono ?_
  rintro e wN ⟨rfl, bN⟩
  have B1 := hid (B1.out.below bN)
  have HB1 := hid (HB1.out.trans (bN.mono HB1.out.size))
  have OW := hid (owns_below OW.out bN)
  have OG := hid (owns_below OG.out bN)
  clear bN
  go_wp2_with (first | (refine wpList_load_box rfl 26 _ rfl w.heap.size ce (by exact B1.out.1) rfl _ Try.underlying26 rfl (by rw [hl]; kernel_rfl) ?_) | (go_at_call 12; refine (HT.out _).mono ?_; rintro e wN ⟨rfl, bN⟩; have B1 := hid (B1.out.below bN); have HB1 := hid (HB1.out.trans (bN.mono HB1.out.size)); have OW := hid (owns_below OW.out bN); have OG := hid (owns_below OG.out bN); clear bN))
  refine (HI.out _).mono ?_
  rintro e wN ⟨u2, rfl, o2, bN⟩
  obtain ⟨a2, m2, c2, rfl⟩ := owns_form3 o2
  have OH := hid o2
  have B1 := hid (B1.out.below bN)
  have HB1 := hid (HB1.out.trans (bN.mono HB1.out.size))
  have OW := hid (owns_below OW.out bN)
  have OG := hid (owns_below OG.out bN)
  clear bN o2
  go_wp2_with fail
  refine (eqIntS_c _ _ _ _ (Flat.of_owns OH.out) (Flat.of_owns OW.out)).mono ?_
  rintro e wN ⟨rfl, bN⟩
  have B1 := hid (B1.out.below bN)
  have HB1 := hid (HB1.out.trans (bN.mono HB1.out.size))
  have OW := hid (owns_below OW.out bN)
  have OG := hid (owns_below OG.out bN)
  clear bN
  go_wp2_with fail
  refine (heldIntS_c _ _ 1 _ (by omega) (by omega) (by omega) (Flat.of_owns OG.out)).mono ?_
  rintro e wN ⟨rfl, bN⟩
  have B1 := hid (B1.out.below bN)
  have HB1 := hid (HB1.out.trans (bN.mono HB1.out.size))
  have OG := hid (owns_below OG.out bN)
  clear bN
  go_wp2
  go_ret
  exact ⟨rfl, HB1.out⟩
end Go.Proofs.Ytcjeafhejkppeaa
