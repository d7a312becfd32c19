/- Rings: the laws' copy and comparison. -/
import Derived.Test.YtilbmclhnlkkmaaS14p
namespace Go.Proofs.Ytilbmclhnlkkmaa
set_option maxRecDepth 100000
open Go.RowKit Go.Proofs Go.Own
open Go Go.BigFrame
set_option linter.unusedVariables false
set_option linter.unusedSimpArgs false
theorem toA8 (L : List Int) (hL : L.length = 8) (w : World) :
    Calls Try.prog 28 #[.agg (L.flatMap encI).toArray] w fun e w' => e = .returned (.agg (L.flatMap encI).toArray) ∧ Below w.heap.size w w' := by
  obtain ⟨a, b, c, d, e, f, g, h, rfl⟩ := list8 L hL
  exact toIntA8_c a b c d e f g h w
theorem eqA8 (L : List Int) (hL : L.length = 8) (w : World) :
    Calls Try.prog 32 #[.agg (L.flatMap encI).toArray, .agg (L.flatMap encI).toArray] w fun e w' => e = .returned (.bool true) ∧ Below w.heap.size w w' := by
  obtain ⟨a, b, c, d, e, f, g, h, rfl⟩ := list8 L hL
  exact eqIntA8_c a b c d e f g h w
set_option maxHeartbeats 8000000 in
theorem toRing_c (r : RingD) (hL : r.cells_.length = 8) (w : World) :
    Calls Try.prog 10 #[.agg r.enc.toArray] w fun e w' => e = .returned (.agg r.enc.toArray) ∧ Below w.heap.size w w' := by
  have hl := ring_len hL
  have hl2 : r.enc.toArray.size = 10 := by rw [List.size_toArray, hl]
  have hln : (r.cells_.flatMap encI).length = 8 := by rw [ints_len, hL]
  have HE := hid (show r.enc = [] ++ r.cells_.flatMap encI ++ [.int .i64 r.from_, .int .i64 r.many_] from rfl)
  have HE8 := hid (show r.enc[8]? = some (.int .i64 r.from_) by rw [HE.out, List.nil_append, List.getElem?_append_right (by rw [ints_len]; omega), ints_len, hL]; rfl)
  have HE9 := hid (show r.enc[9]? = some (.int .i64 r.many_) by rw [HE.out, List.nil_append, List.getElem?_append_right (by rw [ints_len]; omega), ints_len, hL]; rfl)
  have hone := ring_one r
  have hone8 := ints_one r.cells_
  have HS8 := hid (ring_set_from (L := r.cells_) (f := 0) (m := 0) hL r.from_)
  have HS9 := hid (ring_set_many (L := r.cells_) (f := r.from_) (m := 0) hL r.many_)
  have hl7 := ring3_len (L := r.cells_) (f := 0) (m := 0) hL
  have hl8 := ring3_len (L := r.cells_) (f := r.from_) (m := 0) hL
  have Hcall := hid (fun (W : World) => toA8 r.cells_ hL W)
  obtain ⟨W1, hW1⟩ : ∃ X, ((w.alloc (.cells r.enc.toArray 24)).alloc (.cells #[.int .i64 0, .int .i64 0, .int .i64 0, .int .i64 0, .int .i64 0, .int .i64 0, .int .i64 0, .int .i64 0, .int .i64 0, .int .i64 0] 26)).alloc (.cells #[.int .i64 0, .int .i64 0, .int .i64 0, .int .i64 0, .int .i64 0, .int .i64 0, .int .i64 0, .int .i64 0, .int .i64 0, .int .i64 0] 26) = X := ⟨_, rfl⟩
  have HB1 := hid (show Below w.heap.size w W1 by rw [← hW1]; exact (((Below.refl _ _).alloc (Nat.le_refl _) _).alloc (by simp) _).alloc (by simp; omega) _)
  have B0 := hid (show BoxF W1 w.heap.size r.enc by rw [← hW1]; exact ((BoxF.alloc w r.enc.toArray 24).below ((Below.refl _ _).alloc (Nat.le_refl _) _)).below ((Below.refl _ _).alloc (Nat.le_refl _) _))
  have B1 : Hid (BoxF W1 (w.heap.size + 1) [.int .i64 0, .int .i64 0, .int .i64 0, .int .i64 0, .int .i64 0, .int .i64 0, .int .i64 0, .int .i64 0, .int .i64 0, .int .i64 0]) := by
    rw [← hW1]
    have z := BoxF.alloc (w.alloc (.cells r.enc.toArray 24)) #[.int .i64 0, .int .i64 0, .int .i64 0, .int .i64 0, .int .i64 0, .int .i64 0, .int .i64 0, .int .i64 0, .int .i64 0, .int .i64 0] 26
    rw [show (w.alloc (.cells r.enc.toArray 24)).heap.size = w.heap.size + 1 by simp] at z
    exact hid (z.below ((Below.refl _ _).alloc (Nat.le_refl _) _))
  have B2 : Hid (BoxF W1 (w.heap.size + 1 + 1) ([] ++ [.int .i64 0, .int .i64 0, .int .i64 0, .int .i64 0, .int .i64 0, .int .i64 0, .int .i64 0, .int .i64 0] ++ [.int .i64 0, .int .i64 0])) := by
    rw [← hW1]
    have z := BoxF.alloc ((w.alloc (.cells r.enc.toArray 24)).alloc (.cells #[.int .i64 0, .int .i64 0, .int .i64 0, .int .i64 0, .int .i64 0, .int .i64 0, .int .i64 0, .int .i64 0, .int .i64 0, .int .i64 0] 26)) #[.int .i64 0, .int .i64 0, .int .i64 0, .int .i64 0, .int .i64 0, .int .i64 0, .int .i64 0, .int .i64 0, .int .i64 0, .int .i64 0] 26
    rw [show ((w.alloc (.cells r.enc.toArray 24)).alloc (.cells #[.int .i64 0, .int .i64 0, .int .i64 0, .int .i64 0, .int .i64 0, .int .i64 0, .int .i64 0, .int .i64 0, .int .i64 0, .int .i64 0] 26)).heap.size = w.heap.size + 1 + 1 by simp] at z
    exact hid z
  have HW1 := hid hW1
  generalize hce : r.enc = ce at *
  obtain ⟨L, f, m⟩ := r
  dsimp only at *
  clear hW1 hL hce
  have hz : ∀ w : World, (zeroValue 26).run Try.prog w = .ok (.agg #[.int .i64 0, .int .i64 0, .int .i64 0, .int .i64 0, .int .i64 0, .int .i64 0, .int .i64 0, .int .i64 0, .int .i64 0, .int .i64 0]) w := fun w => zero_run w (by kernel_rfl)
  go_enter Try.func10, Try.ntmps10
  go_wp2_with (first | (refine wpList_load_part rfl 22 _ rfl w.heap.size [] (L.flatMap encI) [.int .i64 f, .int .i64 m] ce (by rw [HW1.out]; exact B0.out) HE.out rfl _ Try.underlying22 rfl (by rw [hln]; kernel_rfl) ?_) | (rw [HW1.out]; go_at_call 28; refine (Hcall.out _).mono ?_; rintro e w2 ⟨rfl, b2⟩; have B02 := hid (B0.out.below b2); have B12 := hid (B1.out.below b2); have B22 := hid (B2.out.below b2); have HB2 := hid (HB1.out.trans (b2.mono HB1.out.size)); clear b2) | (refine wpList_store_part rfl 22 _ _ rfl (w.heap.size + 1 + 1) [] [.int .i64 0, .int .i64 0, .int .i64 0, .int .i64 0, .int .i64 0, .int .i64 0, .int .i64 0, .int .i64 0] [.int .i64 0, .int .i64 0] (L.flatMap encI) _ B22.out rfl rfl rfl (by rw [hln]; rfl) (by rw [hln]; kernel_rfl) hone8 ?_))
  intro w3 o3 C3
  have B03 := hid (B02.out.chg C3 (by omega))
  have B13 := hid (B12.out.chg C3 (by omega))
  have B23 := hid (show BoxF w3 (w.heap.size + 1 + 1) ([] ++ L.flatMap encI ++ [.int .i64 0, .int .i64 0]) from o3)
  have HB3 := hid (below_chg HB2.out C3 HB2.out.size (fun b hb => by omega))
  have k8 : w3.cell? ⟨w.heap.size, 8, none⟩ = some (.int .i64 f) := (B03.out.1.2 8 (by omega)).trans HE8.out
  obtain ⟨c7, hc7⟩ : ∃ Y : List Value, [] ++ L.flatMap encI ++ [.int .i64 0, .int .i64 0] = Y := ⟨_, rfl⟩
  obtain ⟨c8, hc8⟩ : ∃ Y : List Value, [] ++ L.flatMap encI ++ [.int .i64 f, .int .i64 0] = Y := ⟨_, rfl⟩
  rw [hc7] at B23 hl7 HS8
  rw [hc8] at HS8 HS9 hl8
  rw [← HE.out] at HS9
  clear o3 C3 hc7 hc8 B0 B1 B2 B02 B12 B22 HB1 HB2
  go_wp2_with (refine wpList_store_cell rfl 3 _ _ rfl (w.heap.size + 1 + 1) 8 c7 (.int .i64 f) B23.out rfl rfl (by omega) (by kernel_rfl) rfl rfl ?_)
  intro w4 o4 C4
  have B04 := hid (B03.out.chg C4 (by omega))
  have B14 := hid (B13.out.chg C4 (by omega))
  have B24 := hid (show BoxF w4 (w.heap.size + 1 + 1) c8 by rw [HS8.out] at o4; exact o4)
  have HB4 := hid (below_chg HB3.out C4 HB3.out.size (fun b hb => by omega))
  have k9 : w4.cell? ⟨w.heap.size, 9, none⟩ = some (.int .i64 m) := (B04.out.1.2 9 (by omega)).trans HE9.out
  clear o4 C4 B03 B13 B23 HB3 k8
  go_wp2_with (refine wpList_store_cell rfl 3 _ _ rfl (w.heap.size + 1 + 1) 9 c8 (.int .i64 m) B24.out rfl rfl (by omega) (by kernel_rfl) rfl rfl ?_)
  intro w5 o5 C5
  have B15 := hid (B14.out.chg C5 (by omega))
  have B25 := hid (show BoxF w5 (w.heap.size + 1 + 1) ce by rw [HS9.out] at o5; exact o5)
  have HB5 := hid (below_chg HB4.out C5 HB4.out.size (fun b hb => by omega))
  clear o5 C5 B04 B14 B24 HB4 k9
  go_wp2_with (first | (refine wpList_load_box rfl 26 _ rfl (w.heap.size + 1 + 1) ce (by exact B25.out.1) rfl _ Try.underlying26 rfl (by rw [hl]; kernel_rfl) ?_) | (refine wpList_store_box rfl 26 _ _ rfl (w.heap.size + 1) [.int .i64 0, .int .i64 0, .int .i64 0, .int .i64 0, .int .i64 0, .int .i64 0, .int .i64 0, .int .i64 0, .int .i64 0, .int .i64 0] ce B15.out rfl rfl (by rw [hl]; rfl) (by rw [hl]; kernel_rfl) hone ?_))
  intro w9 o9 C9
  have O9 := hid o9
  have HB9 := hid (below_chg HB5.out C9 HB5.out.size (fun b hb => by omega))
  clear o9 C9
  go_wp2
  exact bodyPost_ret (results_box rfl _ _ (w.heap.size + 1) ce rfl O9.out _ Try.underlying26 rfl (by rw [hl]; kernel_rfl)) rfl ⟨rfl, HB9.out⟩
set_option maxHeartbeats 8000000 in
theorem eqRing_c (r : RingD) (hL : r.cells_.length = 8) (w : World) :
    Calls Try.prog 14 #[.agg r.enc.toArray, .agg r.enc.toArray] w fun e w' => e = .returned (.bool true) ∧ Below w.heap.size w w' := by
  have hl := ring_len hL
  have hl2 : r.enc.toArray.size = 10 := by rw [List.size_toArray, hl]
  have hln : (r.cells_.flatMap encI).length = 8 := by rw [ints_len, hL]
  have HE := hid (show r.enc = [] ++ r.cells_.flatMap encI ++ [.int .i64 r.from_, .int .i64 r.many_] from rfl)
  have HE8 := hid (show r.enc[8]? = some (.int .i64 r.from_) by rw [HE.out, List.nil_append, List.getElem?_append_right (by rw [ints_len]; omega), ints_len, hL]; rfl)
  have HE9 := hid (show r.enc[9]? = some (.int .i64 r.many_) by rw [HE.out, List.nil_append, List.getElem?_append_right (by rw [ints_len]; omega), ints_len, hL]; rfl)
  have Hcall := hid (fun (W : World) => eqA8 r.cells_ hL W)
  generalize hce : r.enc = ce at *
  obtain ⟨L, f, m⟩ := r
  dsimp only at *
  obtain ⟨W1, hW1⟩ : ∃ X, (w.alloc (.cells ce.toArray 26)).alloc (.cells ce.toArray 26) = X := ⟨_, rfl⟩
  have HB1 := hid (show Below w.heap.size w W1 by rw [← hW1]; exact ((Below.refl _ _).alloc (Nat.le_refl _) _).alloc (by simp) _)
  have B0 := hid (show BoxF W1 w.heap.size ce by rw [← hW1]; exact (BoxF.alloc w ce.toArray 26).below ((Below.refl _ _).alloc (Nat.le_refl _) _))
  have B1 : Hid (BoxF W1 (w.heap.size + 1) ce) := by
    rw [← hW1]
    have z := BoxF.alloc (w.alloc (.cells ce.toArray 26)) ce.toArray 26
    rw [show (w.alloc (.cells ce.toArray 26)).heap.size = w.heap.size + 1 by simp] at z
    exact hid z
  have HW1 := hid hW1
  clear hW1 hL hce
  go_enter Try.func14, Try.ntmps14
  go_wp2_with (first | (refine wpList_load_part rfl 22 _ rfl w.heap.size [] (L.flatMap encI) [.int .i64 f, .int .i64 m] ce (by rw [HW1.out]; exact B0.out) HE.out rfl _ Try.underlying22 rfl (by rw [hln]; kernel_rfl) ?_) | (refine wpList_load_part rfl 22 _ rfl (w.heap.size + 1) [] (L.flatMap encI) [.int .i64 f, .int .i64 m] ce (by rw [HW1.out]; exact B1.out) HE.out rfl _ Try.underlying22 rfl (by rw [hln]; kernel_rfl) ?_) | (rw [HW1.out]; go_at_call 32; refine (Hcall.out _).mono ?_; rintro e w2 ⟨rfl, b2⟩; have HB2 := hid (HB1.out.trans (b2.mono HB1.out.size)); have k8 : w2.cell? ⟨w.heap.size, 8, none⟩ = some (.int .i64 f) := ((B0.out.below b2).1.2 8 (by omega)).trans HE8.out; have k9 : w2.cell? ⟨w.heap.size, 9, none⟩ = some (.int .i64 m) := ((B0.out.below b2).1.2 9 (by omega)).trans HE9.out; have j8 : w2.cell? ⟨w.heap.size + 1, 8, none⟩ = some (.int .i64 f) := ((B1.out.below b2).1.2 8 (by omega)).trans HE8.out; have j9 : w2.cell? ⟨w.heap.size + 1, 9, none⟩ = some (.int .i64 m) := ((B1.out.below b2).1.2 9 (by omega)).trans HE9.out; clear b2))
  go_ret
  exact ⟨rfl, HB2.out⟩
end Go.Proofs.Ytilbmclhnlkkmaa
