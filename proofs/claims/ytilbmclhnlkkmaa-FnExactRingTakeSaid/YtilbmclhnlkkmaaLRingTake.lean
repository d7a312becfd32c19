/- FnExactRingTake, walked. (printed by tools/mk_l14.py) -/
import Derived.Test.YtilbmclhnlkkmaaI14p
import Derived.Test.YtilbmclhnlkkmaaC14b
import Derived.Test.YtilbmclhnlkkmaaLn14
namespace Go.Proofs.Ytilbmclhnlkkmaa
set_option maxRecDepth 100000
open Go.RowKit Go.Proofs Go.Own
set_option linter.unusedVariables false
set_option linter.unusedSimpArgs false
set_option maxRecDepth 100000 in
set_option maxHeartbeats 8000000 in
theorem law_RingTake (c : RingD) (hc : c.cells_.length = 8) (w : World) :
    Calls Try.prog 5 #[.agg c.enc.toArray] w fun e w' => e = .returned (.bool true) ∧ Below w.heap.size w w' := by
  have hl := ring_len hc
  have hl2 : c.enc.toArray.size = 10 := by rw [List.size_toArray, hl]
  have HT := hid (fun (W : World) => toRing_c c hc W)
  have HS := hid (fun (W : World) => spec_RingTake0 c hc W)
  have HI := hid (fun (W : World) => impl_RingTake0 c hc W)
  have HC := hid hc
  generalize hce : c.enc = ce at *
  obtain ⟨W1, hW1⟩ : ∃ X, w.alloc (.cells ce.toArray 24) = X := ⟨_, rfl⟩
  have hB1 : Below w.heap.size w W1 := by rw [← hW1]; exact (Below.refl _ _).alloc (Nat.le_refl _) _
  have B1 := hid (show BoxF W1 w.heap.size ce by rw [← hW1]; exact BoxF.alloc w ce.toArray 24)
  have HB1 := hid hB1
  have HCE := hid hce
  clear hc hB1 hce
  obtain ⟨r, hr⟩ : ∃ r, takeC c  = r := ⟨_, rfl⟩
  have hlr := takeC_len c HC.out 
  rw [hr] at HS HI hlr
  obtain ⟨rc, r1, r2⟩ := r
  dsimp only at HS HI hlr
  have hlf := ring_len hlr
  have honef := ring_one rc
  have HQ := hid (fun (W : World) => eqRing_c rc hlr W)
  obtain ⟨cf, hcf⟩ : ∃ X, rc.enc = X := ⟨_, rfl⟩
  rw [hcf] at HS HI hlf honef HQ
  have hl3 : cf.toArray.size = 10 := by rw [List.size_toArray, hlf]
  have hz : ∀ w : World, (zeroValue 26).run Try.prog w = .ok (.agg #[.int .i64 0, .int .i64 0, .int .i64 0, .int .i64 0, .int .i64 0, .int .i64 0, .int .i64 0, .int .i64 0, .int .i64 0, .int .i64 0]) w := fun w => zero_run w (by kernel_rfl)
  go_enter Try.func5, Try.ntmps5
  go_wp2_with (first | (refine wpList_load_box rfl 24 _ rfl w.heap.size ce (by exact B1.out.1) rfl _ Try.underlying24 rfl (by rw [hl]; kernel_rfl) ?_) | (go_at_call 10; refine (HT.out _).mono ?_; rintro e wN ⟨rfl, bN⟩; have B1 := hid (B1.out.below bN); have HB1 := hid (HB1.out.trans (bN.mono HB1.out.size)); clear bN) | (go_at_call 15; refine (HS.out _).mono ?_; rintro e wN ⟨rfl, bN⟩; have B1 := hid (B1.out.below bN); have HB1 := hid (HB1.out.trans (bN.mono HB1.out.size)); clear bN) | (refine wpList_store_box rfl 26 _ _ rfl _ [.int .i64 0, .int .i64 0, .int .i64 0, .int .i64 0, .int .i64 0, .int .i64 0, .int .i64 0, .int .i64 0, .int .i64 0, .int .i64 0] cf (BoxF.alloc _ #[.int .i64 0, .int .i64 0, .int .i64 0, .int .i64 0, .int .i64 0, .int .i64 0, .int .i64 0, .int .i64 0, .int .i64 0, .int .i64 0] _) rfl rfl (by rw [hlf]; rfl) (by rw [hlf]; kernel_rfl) honef ?_))
  intro w6 o6 C6
  have hA := C6.size
  have hfr := HB1.out.size
  have hlt := B1.out.1.1
  have B1 := hid ((B1.out.below ((Below.refl _ _).alloc (Nat.le_refl _) _)).chg C6 (by omega))
  have HB1 := hid (below_chg (HB1.out.alloc (by omega) _) C6 (by simp; omega) (fun b hb => by omega))
  have RA := hid o6
  clear o6 C6 hA hfr hlt hW1
  go_wp2_with (first | (refine wpList_load_box rfl 24 _ rfl w.heap.size ce (by exact B1.out.1) rfl _ Try.underlying24 rfl (by rw [hl]; kernel_rfl) ?_) | (go_at_call 10; refine (HT.out _).mono ?_; rintro e wN ⟨rfl, bN⟩; have B1 := hid (B1.out.below bN); have HB1 := hid (HB1.out.trans (bN.mono HB1.out.size)); have RA := hid (RA.out.below bN); clear bN) | (go_at_call 16; refine (HI.out _).mono ?_; rintro e wN ⟨rfl, bN⟩; have B1 := hid (B1.out.below bN); have HB1 := hid (HB1.out.trans (bN.mono HB1.out.size)); have RA := hid (RA.out.below bN); clear bN) | (refine wpList_store_box rfl 26 _ _ rfl _ [.int .i64 0, .int .i64 0, .int .i64 0, .int .i64 0, .int .i64 0, .int .i64 0, .int .i64 0, .int .i64 0, .int .i64 0, .int .i64 0] cf (BoxF.alloc _ #[.int .i64 0, .int .i64 0, .int .i64 0, .int .i64 0, .int .i64 0, .int .i64 0, .int .i64 0, .int .i64 0, .int .i64 0, .int .i64 0] _) rfl rfl (by rw [hlf]; rfl) (by rw [hlf]; kernel_rfl) honef ?_))
  intro w8 o8 C8
  have hA := C8.size
  have hfr := HB1.out.size
  have hlt := B1.out.1.1
  have hlt2 := RA.out.1.1
  have B1 := hid ((B1.out.below ((Below.refl _ _).alloc (Nat.le_refl _) _)).chg C8 (by omega))
  have RA := hid ((RA.out.below ((Below.refl _ _).alloc (Nat.le_refl _) _)).chg C8 (by omega))
  have HB1 := hid (below_chg (HB1.out.alloc (by omega) _) C8 (by simp; omega) (fun b hb => by omega))
  have RB := hid o8
  clear o8 C8 hA hfr hlt hlt2
  go_wp2_with (first | (refine wpList_load_box rfl 26 _ rfl _ cf (by first | exact RB.out.1 | exact RA.out.1) rfl _ Try.underlying26 rfl (by rw [hlf]; kernel_rfl) ?_) | (go_at_call 14; refine (HQ.out _).mono ?_; rintro e wN ⟨rfl, bN⟩; have HB1 := hid (HB1.out.trans (bN.mono HB1.out.size)); clear bN))
  go_ret
  exact ⟨rfl, HB1.out⟩
end Go.Proofs.Ytilbmclhnlkkmaa
