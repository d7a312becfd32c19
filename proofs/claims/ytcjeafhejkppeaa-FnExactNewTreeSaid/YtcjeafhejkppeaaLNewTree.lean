/- FnExactNewTree, walked. (printed by tools/mk_l15.py) -/
import Derived.Test.YtcjeafhejkppeaaI15k
import Derived.Test.YtcjeafhejkppeaaC15c
namespace Go.Proofs.Ytcjeafhejkppeaa
set_option maxRecDepth 100000
open Go.RowKit Go.Proofs Go.Own
set_option linter.unusedVariables false
set_option linter.unusedSimpArgs false
set_option maxRecDepth 100000 in
set_option maxHeartbeats 8000000 in
theorem law_NewTree (w : World) :
    Calls Try.prog 4 #[] w fun e w' => e = .returned (.bool true) ∧ Below w.heap.size w w' := by
  have HB1 := hid (Below.refl w.heap.size w)
  have hlf := tree_len newTr_len
  have honef := tree_one newTr
  have HS := hid (fun (W : World) => spec_NewTree0 W)
  have HI := hid (fun (W : World) => impl_NewTree0 W)
  have HQ := hid (fun (W : World) => eqTree_c newTr newTr_len W)
  obtain ⟨cf, hcf⟩ : ∃ X, newTr.enc = X := ⟨_, rfl⟩
  rw [hcf] at HS HI hlf honef HQ
  clear hcf
  have hl3 : cf.toArray.size = 65 := by rw [List.size_toArray, hlf]
  have hz : ∀ w : World, (zeroValue 31).run Try.prog w = .ok (.agg #[.bool false, .int .i64 0, .int .i64 0, .int .i64 0, .bool false, .int .i64 0, .int .i64 0, .int .i64 0, .bool false, .int .i64 0, .int .i64 0, .int .i64 0, .bool false, .int .i64 0, .int .i64 0, .int .i64 0, .bool false, .int .i64 0, .int .i64 0, .int .i64 0, .bool false, .int .i64 0, .int .i64 0, .int .i64 0, .bool false, .int .i64 0, .int .i64 0, .int .i64 0, .bool false, .int .i64 0, .int .i64 0, .int .i64 0, .bool false, .int .i64 0, .int .i64 0, .int .i64 0, .bool false, .int .i64 0, .int .i64 0, .int .i64 0, .bool false, .int .i64 0, .int .i64 0, .int .i64 0, .bool false, .int .i64 0, .int .i64 0, .int .i64 0, .bool false, .int .i64 0, .int .i64 0, .int .i64 0, .bool false, .int .i64 0, .int .i64 0, .int .i64 0, .bool false, .int .i64 0, .int .i64 0, .int .i64 0, .bool false, .int .i64 0, .int .i64 0, .int .i64 0, .int .i64 0]) w := fun w => zero_run w (by kernel_rfl)
  go_enter Try.func4, Try.ntmps4
  go_wp2_with (first | (go_at_call 14; refine (HS.out _).mono ?_; rintro e wN ⟨rfl, bN⟩; have HB1 := hid (HB1.out.trans (bN.mono HB1.out.size)); clear bN) | (refine wpList_store_box rfl 31 _ _ rfl _ [.bool false, .int .i64 0, .int .i64 0, .int .i64 0, .bool false, .int .i64 0, .int .i64 0, .int .i64 0, .bool false, .int .i64 0, .int .i64 0, .int .i64 0, .bool false, .int .i64 0, .int .i64 0, .int .i64 0, .bool false, .int .i64 0, .int .i64 0, .int .i64 0, .bool false, .int .i64 0, .int .i64 0, .int .i64 0, .bool false, .int .i64 0, .int .i64 0, .int .i64 0, .bool false, .int .i64 0, .int .i64 0, .int .i64 0, .bool false, .int .i64 0, .int .i64 0, .int .i64 0, .bool false, .int .i64 0, .int .i64 0, .int .i64 0, .bool false, .int .i64 0, .int .i64 0, .int .i64 0, .bool false, .int .i64 0, .int .i64 0, .int .i64 0, .bool false, .int .i64 0, .int .i64 0, .int .i64 0, .bool false, .int .i64 0, .int .i64 0, .int .i64 0, .bool false, .int .i64 0, .int .i64 0, .int .i64 0, .bool false, .int .i64 0, .int .i64 0, .int .i64 0, .int .i64 0] cf (BoxF.alloc _ #[.bool false, .int .i64 0, .int .i64 0, .int .i64 0, .bool false, .int .i64 0, .int .i64 0, .int .i64 0, .bool false, .int .i64 0, .int .i64 0, .int .i64 0, .bool false, .int .i64 0, .int .i64 0, .int .i64 0, .bool false, .int .i64 0, .int .i64 0, .int .i64 0, .bool false, .int .i64 0, .int .i64 0, .int .i64 0, .bool false, .int .i64 0, .int .i64 0, .int .i64 0, .bool false, .int .i64 0, .int .i64 0, .int .i64 0, .bool false, .int .i64 0, .int .i64 0, .int .i64 0, .bool false, .int .i64 0, .int .i64 0, .int .i64 0, .bool false, .int .i64 0, .int .i64 0, .int .i64 0, .bool false, .int .i64 0, .int .i64 0, .int .i64 0, .bool false, .int .i64 0, .int .i64 0, .int .i64 0, .bool false, .int .i64 0, .int .i64 0, .int .i64 0, .bool false, .int .i64 0, .int .i64 0, .int .i64 0, .bool false, .int .i64 0, .int .i64 0, .int .i64 0, .int .i64 0] _) rfl rfl (by rw [hlf]; rfl) (by rw [hlf]; kernel_rfl) honef ?_))
  intro w6 o6 C6
  have hA := C6.size
  have hfr := HB1.out.size
  have HB1 := hid (below_chg (HB1.out.alloc (by omega) _) C6 (by simp; omega) (fun b hb => by omega))
  have RA := hid o6
  clear o6 C6 hA hfr
  go_wp2_with (first | (go_at_call 15; refine (HI.out _).mono ?_; rintro e wN ⟨rfl, bN⟩; have HB1 := hid (HB1.out.trans (bN.mono HB1.out.size)); have RA := hid (RA.out.below bN); clear bN) | (refine wpList_store_box rfl 31 _ _ rfl _ [.bool false, .int .i64 0, .int .i64 0, .int .i64 0, .bool false, .int .i64 0, .int .i64 0, .int .i64 0, .bool false, .int .i64 0, .int .i64 0, .int .i64 0, .bool false, .int .i64 0, .int .i64 0, .int .i64 0, .bool false, .int .i64 0, .int .i64 0, .int .i64 0, .bool false, .int .i64 0, .int .i64 0, .int .i64 0, .bool false, .int .i64 0, .int .i64 0, .int .i64 0, .bool false, .int .i64 0, .int .i64 0, .int .i64 0, .bool false, .int .i64 0, .int .i64 0, .int .i64 0, .bool false, .int .i64 0, .int .i64 0, .int .i64 0, .bool false, .int .i64 0, .int .i64 0, .int .i64 0, .bool false, .int .i64 0, .int .i64 0, .int .i64 0, .bool false, .int .i64 0, .int .i64 0, .int .i64 0, .bool false, .int .i64 0, .int .i64 0, .int .i64 0, .bool false, .int .i64 0, .int .i64 0, .int .i64 0, .bool false, .int .i64 0, .int .i64 0, .int .i64 0, .int .i64 0] cf (BoxF.alloc _ #[.bool false, .int .i64 0, .int .i64 0, .int .i64 0, .bool false, .int .i64 0, .int .i64 0, .int .i64 0, .bool false, .int .i64 0, .int .i64 0, .int .i64 0, .bool false, .int .i64 0, .int .i64 0, .int .i64 0, .bool false, .int .i64 0, .int .i64 0, .int .i64 0, .bool false, .int .i64 0, .int .i64 0, .int .i64 0, .bool false, .int .i64 0, .int .i64 0, .int .i64 0, .bool false, .int .i64 0, .int .i64 0, .int .i64 0, .bool false, .int .i64 0, .int .i64 0, .int .i64 0, .bool false, .int .i64 0, .int .i64 0, .int .i64 0, .bool false, .int .i64 0, .int .i64 0, .int .i64 0, .bool false, .int .i64 0, .int .i64 0, .int .i64 0, .bool false, .int .i64 0, .int .i64 0, .int .i64 0, .bool false, .int .i64 0, .int .i64 0, .int .i64 0, .bool false, .int .i64 0, .int .i64 0, .int .i64 0, .bool false, .int .i64 0, .int .i64 0, .int .i64 0, .int .i64 0] _) rfl rfl (by rw [hlf]; rfl) (by rw [hlf]; kernel_rfl) honef ?_))
  intro w8 o8 C8
  have hA := C8.size
  have hfr := HB1.out.size
  have hlt2 := RA.out.1.1
  have RA := hid ((RA.out.below ((Below.refl _ _).alloc (Nat.le_refl _) _)).chg C8 (by omega))
  have HB1 := hid (below_chg (HB1.out.alloc (by omega) _) C8 (by simp; omega) (fun b hb => by omega))
  have RB := hid o8
  clear o8 C8 hA hfr hlt2
  go_wp2_with (first | (refine wpList_load_box rfl 31 _ rfl _ cf (by first | exact RB.out.1 | exact RA.out.1) rfl _ Try.underlying31 rfl (by rw [hlf]; kernel_rfl) ?_) | (go_at_call 16; refine (HQ.out _).mono ?_; rintro e wN ⟨rfl, bN⟩; have HB1 := hid (HB1.out.trans (bN.mono HB1.out.size)); clear bN))
  go_ret
  exact ⟨rfl, HB1.out⟩
end Go.Proofs.Ytcjeafhejkppeaa
