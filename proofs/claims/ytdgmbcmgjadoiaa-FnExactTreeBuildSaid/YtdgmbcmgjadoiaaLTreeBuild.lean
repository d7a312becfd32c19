/- FnExactTreeBuild, walked. -/
import Derived.Test.YtdgmbcmgjadoiaaI15y
import Derived.Test.YtdgmbcmgjadoiaaS15z
import Derived.Test.YtdgmbcmgjadoiaaC15c
import Derived.Test.YtdgmbcmgjadoiaaTypes16
namespace Go.Proofs.Ytdgmbcmgjadoiaa
set_option maxRecDepth 100000
open Go.RowKit Go.Proofs Go.Own
open Go Go.BigFrame
set_option linter.unusedVariables false
set_option linter.unusedSimpArgs false
set_option maxRecDepth 100000 in
set_option maxHeartbeats 8000000 in
theorem law_TreeBuild (v : Value) (ks : List Int) (w : World) (h : Ints w v ks) :
    Calls Try.prog 3 #[v] w fun e w' => e = .returned (.bool true) ∧ Below w.heap.size w w' := by
  obtain ⟨ad, cap, hv, hl, hm⟩ := Flat.form h
  by_cases big : 1048576 < ks.length
  · subst hv
    clear h
    go_enter Try.func3, Try.ntmps3
    go_wp2
    go_ret
    exact ⟨rfl, Below.refl _ _⟩
  have hx : ks.length ≤ 1048576 := by omega
  have Hv := hid hv; clear hv
  rw [Hv.out] at h ⊢
  have HA := hid (fun (W : World) (hb : Below w.heap.size w W) => toIntS_c _ ks W hx (FlatB.flat (FlatB.below h hb) hb.size))
  have HS := hid (fun (u : Value) (W : World) (h : Ints W u ks) => spec_TreeBuild0 ks u W h)
  have HI := hid (fun (u : Value) (W : World) (h : Ints W u ks) => impl_TreeBuild0 ks u W h)
  obtain ⟨r, hr⟩ : ∃ r, buildC ks = r := ⟨_, rfl⟩
  have hlr := buildC_len ks
  rw [hr] at HS HI hlr
  obtain ⟨rc, rb⟩ := r
  dsimp only at HS HI hlr
  have hlf := tree_len hlr
  have honef := tree_one rc
  have HQ := hid (fun (W : World) => eqTree_c rc hlr W)
  obtain ⟨cf, hcf⟩ : ∃ X, rc.enc = X := ⟨_, rfl⟩
  rw [hcf] at HS HI hlf honef HQ
  have hz : ∀ w : World, (zeroValue 27).run Try.prog w = .ok (.agg #[.bool false, .int .i64 0, .int .i64 0, .int .i64 0, .bool false, .int .i64 0, .int .i64 0, .int .i64 0, .bool false, .int .i64 0, .int .i64 0, .int .i64 0, .bool false, .int .i64 0, .int .i64 0, .int .i64 0, .bool false, .int .i64 0, .int .i64 0, .int .i64 0, .bool false, .int .i64 0, .int .i64 0, .int .i64 0, .bool false, .int .i64 0, .int .i64 0, .int .i64 0, .bool false, .int .i64 0, .int .i64 0, .int .i64 0, .bool false, .int .i64 0, .int .i64 0, .int .i64 0, .bool false, .int .i64 0, .int .i64 0, .int .i64 0, .bool false, .int .i64 0, .int .i64 0, .int .i64 0, .bool false, .int .i64 0, .int .i64 0, .int .i64 0, .bool false, .int .i64 0, .int .i64 0, .int .i64 0, .bool false, .int .i64 0, .int .i64 0, .int .i64 0, .bool false, .int .i64 0, .int .i64 0, .int .i64 0, .bool false, .int .i64 0, .int .i64 0, .int .i64 0, .int .i64 0]) w := fun w => zero_run w (by kernel_rfl)
  have HB1 := hid (Below.refl w.heap.size w)
  clear hr hcf hlr h
  go_enter Try.func3, Try.ntmps3
  go_wp2_with (first
    | (go_at_call 13; refine (HA.out _ HB1.out).mono ?_; rintro e wN ⟨vA, rfl, oA, bN⟩; have OA := hid oA; have HB1 := hid (HB1.out.trans (bN.mono HB1.out.size)); clear bN oA)
    | (go_at_call 12; refine (HS.out _ _ (Flat.of_owns OA.out)).mono ?_; rintro e wS ⟨rfl, bN⟩; have HB1 := hid (HB1.out.trans (bN.mono HB1.out.size)); clear bN OA)
    | (refine wpList_store_box rfl 27 _ _ rfl _ [.bool false, .int .i64 0, .int .i64 0, .int .i64 0, .bool false, .int .i64 0, .int .i64 0, .int .i64 0, .bool false, .int .i64 0, .int .i64 0, .int .i64 0, .bool false, .int .i64 0, .int .i64 0, .int .i64 0, .bool false, .int .i64 0, .int .i64 0, .int .i64 0, .bool false, .int .i64 0, .int .i64 0, .int .i64 0, .bool false, .int .i64 0, .int .i64 0, .int .i64 0, .bool false, .int .i64 0, .int .i64 0, .int .i64 0, .bool false, .int .i64 0, .int .i64 0, .int .i64 0, .bool false, .int .i64 0, .int .i64 0, .int .i64 0, .bool false, .int .i64 0, .int .i64 0, .int .i64 0, .bool false, .int .i64 0, .int .i64 0, .int .i64 0, .bool false, .int .i64 0, .int .i64 0, .int .i64 0, .bool false, .int .i64 0, .int .i64 0, .int .i64 0, .bool false, .int .i64 0, .int .i64 0, .int .i64 0, .bool false, .int .i64 0, .int .i64 0, .int .i64 0, .int .i64 0] cf (BoxF.alloc _ #[.bool false, .int .i64 0, .int .i64 0, .int .i64 0, .bool false, .int .i64 0, .int .i64 0, .int .i64 0, .bool false, .int .i64 0, .int .i64 0, .int .i64 0, .bool false, .int .i64 0, .int .i64 0, .int .i64 0, .bool false, .int .i64 0, .int .i64 0, .int .i64 0, .bool false, .int .i64 0, .int .i64 0, .int .i64 0, .bool false, .int .i64 0, .int .i64 0, .int .i64 0, .bool false, .int .i64 0, .int .i64 0, .int .i64 0, .bool false, .int .i64 0, .int .i64 0, .int .i64 0, .bool false, .int .i64 0, .int .i64 0, .int .i64 0, .bool false, .int .i64 0, .int .i64 0, .int .i64 0, .bool false, .int .i64 0, .int .i64 0, .int .i64 0, .bool false, .int .i64 0, .int .i64 0, .int .i64 0, .bool false, .int .i64 0, .int .i64 0, .int .i64 0, .bool false, .int .i64 0, .int .i64 0, .int .i64 0, .bool false, .int .i64 0, .int .i64 0, .int .i64 0, .int .i64 0] _) rfl rfl (by rw [hlf]; rfl) (by rw [hlf]; kernel_rfl) honef ?_))
  intro w6 o6 C6
  have B6 := below_chg ((Below.refl wS.heap.size wS).alloc (Nat.le_refl _) _) C6 (by simp) (fun b hb => by omega)
  have RA := hid o6
  have HB1 := hid (HB1.out.trans (B6.mono HB1.out.size))
  clear o6 C6 B6
  go_wp2_with (first
    | (go_at_call 13; refine (HA.out _ HB1.out).mono ?_; rintro e wN ⟨vB, rfl, oB, bN⟩; have OB := hid oB; have RA := hid (RA.out.below bN); have HB1 := hid (HB1.out.trans (bN.mono HB1.out.size)); clear bN oB)
    | (go_at_call 14; refine (HI.out _ _ (Flat.of_owns OB.out)).mono ?_; rintro e wI ⟨rfl, bN⟩; have OB := hid (owns_below OB.out bN); have RA := hid (RA.out.below bN); have HB1 := hid (HB1.out.trans (bN.mono HB1.out.size)); clear bN)
    | (refine wpList_store_box rfl 27 _ _ rfl _ [.bool false, .int .i64 0, .int .i64 0, .int .i64 0, .bool false, .int .i64 0, .int .i64 0, .int .i64 0, .bool false, .int .i64 0, .int .i64 0, .int .i64 0, .bool false, .int .i64 0, .int .i64 0, .int .i64 0, .bool false, .int .i64 0, .int .i64 0, .int .i64 0, .bool false, .int .i64 0, .int .i64 0, .int .i64 0, .bool false, .int .i64 0, .int .i64 0, .int .i64 0, .bool false, .int .i64 0, .int .i64 0, .int .i64 0, .bool false, .int .i64 0, .int .i64 0, .int .i64 0, .bool false, .int .i64 0, .int .i64 0, .int .i64 0, .bool false, .int .i64 0, .int .i64 0, .int .i64 0, .bool false, .int .i64 0, .int .i64 0, .int .i64 0, .bool false, .int .i64 0, .int .i64 0, .int .i64 0, .bool false, .int .i64 0, .int .i64 0, .int .i64 0, .bool false, .int .i64 0, .int .i64 0, .int .i64 0, .bool false, .int .i64 0, .int .i64 0, .int .i64 0, .int .i64 0] cf (BoxF.alloc _ #[.bool false, .int .i64 0, .int .i64 0, .int .i64 0, .bool false, .int .i64 0, .int .i64 0, .int .i64 0, .bool false, .int .i64 0, .int .i64 0, .int .i64 0, .bool false, .int .i64 0, .int .i64 0, .int .i64 0, .bool false, .int .i64 0, .int .i64 0, .int .i64 0, .bool false, .int .i64 0, .int .i64 0, .int .i64 0, .bool false, .int .i64 0, .int .i64 0, .int .i64 0, .bool false, .int .i64 0, .int .i64 0, .int .i64 0, .bool false, .int .i64 0, .int .i64 0, .int .i64 0, .bool false, .int .i64 0, .int .i64 0, .int .i64 0, .bool false, .int .i64 0, .int .i64 0, .int .i64 0, .bool false, .int .i64 0, .int .i64 0, .int .i64 0, .bool false, .int .i64 0, .int .i64 0, .int .i64 0, .bool false, .int .i64 0, .int .i64 0, .int .i64 0, .bool false, .int .i64 0, .int .i64 0, .int .i64 0, .bool false, .int .i64 0, .int .i64 0, .int .i64 0, .int .i64 0] _) rfl rfl (by rw [hlf]; rfl) (by rw [hlf]; kernel_rfl) honef ?_))
  intro w8 o8 C8
  have B8 := below_chg ((Below.refl wI.heap.size wI).alloc (Nat.le_refl _) _) C8 (by simp) (fun b hb => by omega)
  have RB := hid o8
  have OB := hid (owns_below OB.out B8)
  have RA := hid (RA.out.below B8)
  have HB1 := hid (HB1.out.trans (B8.mono HB1.out.size))
  clear o8 C8 B8
  go_wp2_with (first
    | (refine wpList_load_box rfl 27 _ rfl _ cf (by first | exact RB.out.1 | exact RA.out.1) rfl _ Try.underlying27 rfl (by rw [hlf]; kernel_rfl) ?_)
    | (go_at_call 15; refine (HQ.out _).mono ?_; rintro e wN ⟨rfl, bN⟩; have OB := hid (owns_below OB.out bN); have HB1 := hid (HB1.out.trans (bN.mono HB1.out.size)); clear bN)
    | (go_at_call 13; refine (HA.out _ HB1.out).mono ?_; rintro e wN ⟨vC, rfl, oC, bN⟩; have OC := hid oC; have OB := hid (owns_below OB.out bN); have HB1 := hid (HB1.out.trans (bN.mono HB1.out.size)); clear bN oC)
    | (go_at_call 16; refine (eqIntS_c _ _ ks _ (Flat.of_owns OB.out) (Flat.of_owns OC.out)).mono ?_; rintro e wN ⟨rfl, bN⟩; have HB1 := hid (HB1.out.trans (bN.mono HB1.out.size)); clear bN))
  go_ret
  exact ⟨rfl, HB1.out⟩
end Go.Proofs.Ytdgmbcmgjadoiaa
