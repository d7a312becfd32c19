/- FnExactTreeHigh, walked. (printed by tools/mk_l15.py) -/
import Derived.Test.YtcjeafhejkppeaaI15e
import Derived.Test.YtcjeafhejkppeaaC15c
namespace Go.Proofs.Ytcjeafhejkppeaa
set_option maxRecDepth 100000
open Go.RowKit Go.Proofs Go.Own
set_option linter.unusedVariables false
set_option linter.unusedSimpArgs false
set_option maxRecDepth 100000 in
set_option maxHeartbeats 8000000 in
theorem law_TreeHigh (c : TreeD) (hc : c.twigs_.length = 16) (w : World) :
    Calls Try.prog 9 #[.agg c.enc.toArray] w fun e w' => e = .returned (.bool true) ∧ Below w.heap.size w w' := by
  have hl := tree_len hc
  have hl2 : c.enc.toArray.size = 65 := by rw [List.size_toArray, hl]
  have HT := hid (fun (W : World) => toTree_c c hc W)
  have HS := hid (fun (W : World) => spec_TreeHigh0 c hc W)
  have HI := hid (fun (W : World) => impl_TreeHigh0 c hc W)
  have HC := hid hc
  generalize hce : c.enc = ce at *
  obtain ⟨W1, hW1⟩ : ∃ X, w.alloc (.cells ce.toArray 26) = X := ⟨_, rfl⟩
  have hB1 : Below w.heap.size w W1 := by rw [← hW1]; exact (Below.refl _ _).alloc (Nat.le_refl _) _
  have B1 := hid (show BoxF W1 w.heap.size ce by rw [← hW1]; exact BoxF.alloc w ce.toArray 26)
  have HB1 := hid hB1
  have HCE := hid hce
  clear hc hB1 hce
  obtain ⟨r, hr⟩ : ∃ r, highC c  = r := ⟨_, rfl⟩
  rw [hr] at HS HI
  go_enter Try.func9, Try.ntmps9
  go_wp2_with (first | (refine wpList_load_box rfl 26 _ rfl w.heap.size ce (by exact B1.out.1) rfl _ Try.underlying26 rfl (by rw [hl]; kernel_rfl) ?_) | (go_at_call 12; refine (HT.out _).mono ?_; rintro e wN ⟨rfl, bN⟩; have B1 := hid (B1.out.below bN); have HB1 := hid (HB1.out.trans (bN.mono HB1.out.size)); clear bN) | (go_at_call 28; refine (HS.out _).mono ?_; rintro e wN ⟨rfl, bN⟩; have B1 := hid (B1.out.below bN); have HB1 := hid (HB1.out.trans (bN.mono HB1.out.size)); clear bN) | (go_at_call 29; refine (HI.out _).mono ?_; rintro e wN ⟨rfl, bN⟩; have B1 := hid (B1.out.below bN); have HB1 := hid (HB1.out.trans (bN.mono HB1.out.size)); clear bN))
  go_ret
  exact ⟨rfl, HB1.out⟩
end Go.Proofs.Ytcjeafhejkppeaa
