/- FnExactTreeDrop, walked. (printed by tools/mk_l15.py) -/
import Derived.Test.YtcjeafhejkppeaaI15t
import Derived.Test.YtcjeafhejkppeaaS15d
import Derived.Test.YtcjeafhejkppeaaC15c
namespace Go.Proofs.Ytcjeafhejkppeaa
set_option maxRecDepth 100000
open Go.RowKit Go.Proofs Go.Own
set_option linter.unusedVariables false
set_option linter.unusedSimpArgs false
set_option maxRecDepth 100000 in
set_option maxHeartbeats 8000000 in
theorem law_TreeDrop (c : TreeD) (hc : c.twigs_.length = 16) (key : Int) (w : World) :
    Calls Try.prog 7 #[.agg c.enc.toArray, .int .i64 key] w fun e w' => e = .returned (.bool true) ∧ Below w.heap.size w w' := by
  have hl := tree_len hc
  have hl2 : c.enc.toArray.size = 65 := by rw [List.size_toArray, hl]
  have HT := hid (fun (W : World) => toTree_c c hc W)
  have HS := hid (fun (W : World) => spec_TreeDrop0 c hc key W)
  have HI := hid (fun (W : World) => impl_TreeDrop0 c hc key W)
  have HC := hid hc
  generalize hce : c.enc = ce at *
  obtain ⟨W1, hW1⟩ : ∃ X, w.alloc (.cells ce.toArray 26) = X := ⟨_, rfl⟩
  have hB1 : Below w.heap.size w W1 := by rw [← hW1]; exact (Below.refl _ _).alloc (Nat.le_refl _) _
  have B1 := hid (show BoxF W1 w.heap.size ce by rw [← hW1]; exact BoxF.alloc w ce.toArray 26)
  have HB1 := hid hB1
  have HCE := hid hce
  clear hc hB1 hce
  obtain ⟨r, hr⟩ : ∃ r, dropC c key = r := ⟨_, rfl⟩
  have hlr := dropC_len c HC.out key
  rw [hr] at HS HI hlr
  obtain ⟨rc, r1⟩ := r
  dsimp only at HS HI hlr
  have hlf := tree_len hlr
  have honef := tree_one rc
  have HQ := hid (fun (W : World) => eqTree_c rc hlr W)
  obtain ⟨cf, hcf⟩ : ∃ X, rc.enc = X := ⟨_, rfl⟩
  rw [hcf] at HS HI hlf honef HQ
  have hl3 : cf.toArray.size = 65 := by rw [List.size_toArray, hlf]
  have hz : ∀ w : World, (zeroValue 31).run Try.prog w = .ok (.agg #[.bool false, .int .i64 0, .int .i64 0, .int .i64 0, .bool false, .int .i64 0, .int .i64 0, .int .i64 0, .bool false, .int .i64 0, .int .i64 0, .int .i64 0, .bool false, .int .i64 0, .int .i64 0, .int .i64 0, .bool false, .int .i64 0, .int .i64 0, .int .i64 0, .bool false, .int .i64 0, .int .i64 0, .int .i64 0, .bool false, .int .i64 0, .int .i64 0, .int .i64 0, .bool false, .int .i64 0, .int .i64 0, .int .i64 0, .bool false, .int .i64 0, .int .i64 0, .int .i64 0, .bool false, .int .i64 0, .int .i64 0, .int .i64 0, .bool false, .int .i64 0, .int .i64 0, .int .i64 0, .bool false, .int .i64 0, .int .i64 0, .int .i64 0, .bool false, .int .i64 0, .int .i64 0, .int .i64 0, .bool false, .int .i64 0, .int .i64 0, .int .i64 0, .bool false, .int .i64 0, .int .i64 0, .int .i64 0, .bool false, .int .i64 0, .int .i64 0, .int .i64 0, .int .i64 0]) w := fun w => zero_run w (by kernel_rfl)
  go_enter Try.func7, Try.ntmps7
  go_wp2_with (first | (refine wpList_load_box rfl 26 _ rfl w.heap.size ce (by exact B1.out.1) rfl _ Try.underlying26 rfl (by rw [hl]; kernel_rfl) ?_) | (go_at_call 12; refine (HT.out _).mono ?_; rintro e wN ⟨rfl, bN⟩; have B1 := hid (B1.out.below bN); have HB1 := hid (HB1.out.trans (bN.mono HB1.out.size)); clear bN) | (go_at_call 21; refine (HS.out _).mono ?_; rintro e wN ⟨rfl, bN⟩; have B1 := hid (B1.out.below bN); have HB1 := hid (HB1.out.trans (bN.mono HB1.out.size)); clear bN) | (refine wpList_store_box rfl 31 _ _ rfl _ [.bool false, .int .i64 0, .int .i64 0, .int .i64 0, .bool false, .int .i64 0, .int .i64 0, .int .i64 0, .bool false, .int .i64 0, .int .i64 0, .int .i64 0, .bool false, .int .i64 0, .int .i64 0, .int .i64 0, .bool false, .int .i64 0, .int .i64 0, .int .i64 0, .bool false, .int .i64 0, .int .i64 0, .int .i64 0, .bool false, .int .i64 0, .int .i64 0, .int .i64 0, .bool false, .int .i64 0, .int .i64 0, .int .i64 0, .bool false, .int .i64 0, .int .i64 0, .int .i64 0, .bool false, .int .i64 0, .int .i64 0, .int .i64 0, .bool false, .int .i64 0, .int .i64 0, .int .i64 0, .bool false, .int .i64 0, .int .i64 0, .int .i64 0, .bool false, .int .i64 0, .int .i64 0, .int .i64 0, .bool false, .int .i64 0, .int .i64 0, .int .i64 0, .bool false, .int .i64 0, .int .i64 0, .int .i64 0, .bool false, .int .i64 0, .int .i64 0, .int .i64 0, .int .i64 0] cf (BoxF.alloc _ #[.bool false, .int .i64 0, .int .i64 0, .int .i64 0, .bool false, .int .i64 0, .int .i64 0, .int .i64 0, .bool false, .int .i64 0, .int .i64 0, .int .i64 0, .bool false, .int .i64 0, .int .i64 0, .int .i64 0, .bool false, .int .i64 0, .int .i64 0, .int .i64 0, .bool false, .int .i64 0, .int .i64 0, .int .i64 0, .bool false, .int .i64 0, .int .i64 0, .int .i64 0, .bool false, .int .i64 0, .int .i64 0, .int .i64 0, .bool false, .int .i64 0, .int .i64 0, .int .i64 0, .bool false, .int .i64 0, .int .i64 0, .int .i64 0, .bool false, .int .i64 0, .int .i64 0, .int .i64 0, .bool false, .int .i64 0, .int .i64 0, .int .i64 0, .bool false, .int .i64 0, .int .i64 0, .int .i64 0, .bool false, .int .i64 0, .int .i64 0, .int .i64 0, .bool false, .int .i64 0, .int .i64 0, .int .i64 0, .bool false, .int .i64 0, .int .i64 0, .int .i64 0, .int .i64 0] _) rfl rfl (by rw [hlf]; rfl) (by rw [hlf]; kernel_rfl) honef ?_))
  intro w6 o6 C6
  have hA := C6.size
  have hfr := HB1.out.size
  have hlt := B1.out.1.1
  have B1 := hid ((B1.out.below ((Below.refl _ _).alloc (Nat.le_refl _) _)).chg C6 (by omega))
  have HB1 := hid (below_chg (HB1.out.alloc (by omega) _) C6 (by simp; omega) (fun b hb => by omega))
  have RA := hid o6
  clear o6 C6 hA hfr hlt hW1
  go_wp2_with (first | (refine wpList_load_box rfl 26 _ rfl w.heap.size ce (by exact B1.out.1) rfl _ Try.underlying26 rfl (by rw [hl]; kernel_rfl) ?_) | (go_at_call 12; refine (HT.out _).mono ?_; rintro e wN ⟨rfl, bN⟩; have B1 := hid (B1.out.below bN); have HB1 := hid (HB1.out.trans (bN.mono HB1.out.size)); have RA := hid (RA.out.below bN); clear bN) | (go_at_call 22; refine (HI.out _).mono ?_; rintro e wN ⟨rfl, bN⟩; have B1 := hid (B1.out.below bN); have HB1 := hid (HB1.out.trans (bN.mono HB1.out.size)); have RA := hid (RA.out.below bN); clear bN) | (refine wpList_store_box rfl 31 _ _ rfl _ [.bool false, .int .i64 0, .int .i64 0, .int .i64 0, .bool false, .int .i64 0, .int .i64 0, .int .i64 0, .bool false, .int .i64 0, .int .i64 0, .int .i64 0, .bool false, .int .i64 0, .int .i64 0, .int .i64 0, .bool false, .int .i64 0, .int .i64 0, .int .i64 0, .bool false, .int .i64 0, .int .i64 0, .int .i64 0, .bool false, .int .i64 0, .int .i64 0, .int .i64 0, .bool false, .int .i64 0, .int .i64 0, .int .i64 0, .bool false, .int .i64 0, .int .i64 0, .int .i64 0, .bool false, .int .i64 0, .int .i64 0, .int .i64 0, .bool false, .int .i64 0, .int .i64 0, .int .i64 0, .bool false, .int .i64 0, .int .i64 0, .int .i64 0, .bool false, .int .i64 0, .int .i64 0, .int .i64 0, .bool false, .int .i64 0, .int .i64 0, .int .i64 0, .bool false, .int .i64 0, .int .i64 0, .int .i64 0, .bool false, .int .i64 0, .int .i64 0, .int .i64 0, .int .i64 0] cf (BoxF.alloc _ #[.bool false, .int .i64 0, .int .i64 0, .int .i64 0, .bool false, .int .i64 0, .int .i64 0, .int .i64 0, .bool false, .int .i64 0, .int .i64 0, .int .i64 0, .bool false, .int .i64 0, .int .i64 0, .int .i64 0, .bool false, .int .i64 0, .int .i64 0, .int .i64 0, .bool false, .int .i64 0, .int .i64 0, .int .i64 0, .bool false, .int .i64 0, .int .i64 0, .int .i64 0, .bool false, .int .i64 0, .int .i64 0, .int .i64 0, .bool false, .int .i64 0, .int .i64 0, .int .i64 0, .bool false, .int .i64 0, .int .i64 0, .int .i64 0, .bool false, .int .i64 0, .int .i64 0, .int .i64 0, .bool false, .int .i64 0, .int .i64 0, .int .i64 0, .bool false, .int .i64 0, .int .i64 0, .int .i64 0, .bool false, .int .i64 0, .int .i64 0, .int .i64 0, .bool false, .int .i64 0, .int .i64 0, .int .i64 0, .bool false, .int .i64 0, .int .i64 0, .int .i64 0, .int .i64 0] _) rfl rfl (by rw [hlf]; rfl) (by rw [hlf]; kernel_rfl) honef ?_))
  intro w8 o8 C8
  have hA := C8.size
  have hfr := HB1.out.size
  have hlt := B1.out.1.1
  have hlt2 := RA.out.1.1
  have B1 := hid ((B1.out.below ((Below.refl _ _).alloc (Nat.le_refl _) _)).chg C8 (by omega))
  have RA := hid ((RA.out.below ((Below.refl _ _).alloc (Nat.le_refl _) _)).chg C8 (by omega))
  have HB1 := hid (below_chg (HB1.out.alloc (by omega) _) C8 (by simp; omega) (fun b hb => by omega))
  have RB := hid o8
  clear o8 C8 hA hfr hlt hlt2
  go_wp2_with (first | (refine wpList_load_box rfl 31 _ rfl _ cf (by first | exact RB.out.1 | exact RA.out.1) rfl _ Try.underlying31 rfl (by rw [hlf]; kernel_rfl) ?_) | (go_at_call 16; refine (HQ.out _).mono ?_; rintro e wN ⟨rfl, bN⟩; have HB1 := hid (HB1.out.trans (bN.mono HB1.out.size)); clear bN))
  go_ret
  exact ⟨rfl, HB1.out⟩
end Go.Proofs.Ytcjeafhejkppeaa
