/- Chapter 14's program: RingPut, RingTake. (printed by tools/mk_i14.py) -/
import Derived.Test.YtilbmclhnlkkmaaI14o
import Derived.Deep.Cut
namespace Go.Proofs.Ytilbmclhnlkkmaa
set_option maxRecDepth 100000
open Go.RowKit Go.Proofs Go.Own
open Go Go.BigFrame
set_option linter.unusedVariables false
set_option linter.unusedSimpArgs false
set_option maxHeartbeats 8000000 in
theorem impl_RingPut0 (r : RingD) (hL : r.cells_.length = 8) (v : Int) (w : World) :
    Calls Try.prog 13 #[.agg r.enc.toArray, .int .i64 v] w fun e w' => e = .returned (.tuple #[.agg (ringPutC r v).1.enc.toArray, .int .i64 (ringPutC r v).2]) ∧ Below w.heap.size w w' := by
  have hL0 := hid hL
  have hone := ring_one r
  have hl := ring_len hL
  have hl2 : r.enc.toArray.size = 10 := by rw [List.size_toArray, hl]
  have HE := hid (show r.enc = [] ++ r.cells_.flatMap encI ++ [.int .i64 r.from_, .int .i64 r.many_] from rfl)
  have HL := hid hL
  have HE8 := hid (show r.enc[8]? = some (.int .i64 r.from_) by rw [HE.out, List.nil_append, List.getElem?_append_right (by rw [ints_len]; omega), ints_len, hL]; rfl)
  have HE9 := hid (show r.enc[9]? = some (.int .i64 r.many_) by rw [HE.out, List.nil_append, List.getElem?_append_right (by rw [ints_len]; omega), ints_len, hL]; rfl)
  have HOK0 := hid (fun (W : World) => impl_RingOk0 r hL W)
  generalize hce : r.enc = ce at *
  obtain ⟨W1, hW1⟩ : ∃ X, (w.alloc (.cells ce.toArray 26)).alloc (.cells #[.int .i64 0, .int .i64 0, .int .i64 0, .int .i64 0, .int .i64 0, .int .i64 0, .int .i64 0, .int .i64 0, .int .i64 0, .int .i64 0] 26) = X := ⟨_, rfl⟩
  have hB1 : Below w.heap.size w W1 := by rw [← hW1]; exact ((Below.refl _ _).alloc (Nat.le_refl _) _).alloc (by simp) _
  have B1 := hid (show BoxF W1 w.heap.size ce by rw [← hW1]; exact (BoxF.alloc w ce.toArray 26).below ((Below.refl _ _).alloc (Nat.le_refl _) _))
  have R1 : Hid (BoxF W1 (w.heap.size + 1) [.int .i64 0, .int .i64 0, .int .i64 0, .int .i64 0, .int .i64 0, .int .i64 0, .int .i64 0, .int .i64 0, .int .i64 0, .int .i64 0]) := by
    rw [← hW1]
    have z := BoxF.alloc (w.alloc (.cells ce.toArray 26)) #[.int .i64 0, .int .i64 0, .int .i64 0, .int .i64 0, .int .i64 0, .int .i64 0, .int .i64 0, .int .i64 0, .int .i64 0, .int .i64 0] 26
    rw [show (w.alloc (.cells ce.toArray 26)).heap.size = w.heap.size + 1 by simp] at z
    exact hid z
  have HB1 := hid hB1
  have HCE := hid hce
  have HW1 := hid hW1
  have HOK := hid (HOK0.out W1)
  have hz : ∀ w : World, (zeroValue 26).run Try.prog w = .ok (.agg #[.int .i64 0, .int .i64 0, .int .i64 0, .int .i64 0, .int .i64 0, .int .i64 0, .int .i64 0, .int .i64 0, .int .i64 0, .int .i64 0]) w := fun w => zero_run w (by kernel_rfl)
  clear hL hB1 hce hW1
  cases hok : ringOk r with
  | false =>
    have Hr := hid (show ringPutC r v = (r, 1) by simp [ringPutC, hok])
    go_enter Try.func13, Try.ntmps13
    go_upto_region 1 with fail
    rw [HW1.out]
    go_wp2_with (first | (refine wpList_load_box rfl 26 _ rfl w.heap.size ce (by exact B1.out.1) rfl _ Try.underlying26 rfl (by rw [hl]; kernel_rfl) ?_) | (refine wpList_load_box rfl 26 _ rfl w.heap.size ce (by exact B2.out.1) rfl _ Try.underlying26 rfl (by rw [hl]; kernel_rfl) ?_) | (refine wpList_store_box rfl 26 _ _ rfl (w.heap.size + 1) [.int .i64 0, .int .i64 0, .int .i64 0, .int .i64 0, .int .i64 0, .int .i64 0, .int .i64 0, .int .i64 0, .int .i64 0, .int .i64 0] ce R2.out rfl rfl (by rw [hl]; rfl) (by rw [hl]; kernel_rfl) hone ?_) | (go_at_call 11; refine HOK.out.mono ?_; rintro e w2 ⟨rfl, b2⟩; rw [hok]; have B2 := hid (B1.out.below b2); have R2 := hid (R1.out.below b2); have HB2 := hid (HB1.out.trans (b2.mono HB1.out.size)); have k8 : w2.cell? ⟨w.heap.size, 8, none⟩ = some (.int .i64 r.from_) := (B2.out.1.2 8 (by omega)).trans HE8.out; have k9 : w2.cell? ⟨w.heap.size, 9, none⟩ = some (.int .i64 r.many_) := (B2.out.1.2 9 (by omega)).trans HE9.out; clear b2))
    intro w9 o9 C9
    have O9 := hid o9
    have HB9 := hid (below_chg HB2.out C9 HB2.out.size (fun b hb => by omega))
    clear o9 C9
    go_wp2
    exact bodyPost_ret (results_box2 rfl _ _ (w.heap.size + 1) ce rfl O9.out _ Try.underlying26 rfl (by rw [hl]; kernel_rfl)) rfl ⟨by rw [Hr.out, HCE.out]; rfl, HB9.out⟩
  | true =>
  cases hv : isVal v with
  | false =>
    have Hr := hid (show ringPutC r v = (r, 1) by simp [ringPutC, hv])
    go_enter Try.func13, Try.ntmps13
    go_upto_region 1 with fail
    rw [HW1.out]
    go_wp2_with (first | (refine wpList_load_box rfl 26 _ rfl w.heap.size ce (by exact B1.out.1) rfl _ Try.underlying26 rfl (by rw [hl]; kernel_rfl) ?_) | (refine wpList_load_box rfl 26 _ rfl w.heap.size ce (by exact B2.out.1) rfl _ Try.underlying26 rfl (by rw [hl]; kernel_rfl) ?_) | (refine wpList_store_box rfl 26 _ _ rfl (w.heap.size + 1) [.int .i64 0, .int .i64 0, .int .i64 0, .int .i64 0, .int .i64 0, .int .i64 0, .int .i64 0, .int .i64 0, .int .i64 0, .int .i64 0] ce R2.out rfl rfl (by rw [hl]; rfl) (by rw [hl]; kernel_rfl) hone ?_) | (go_at_call 11; refine HOK.out.mono ?_; rintro e w2 ⟨rfl, b2⟩; rw [hok]; have B2 := hid (B1.out.below b2); have R2 := hid (R1.out.below b2); have HB2 := hid (HB1.out.trans (b2.mono HB1.out.size)); have k8 : w2.cell? ⟨w.heap.size, 8, none⟩ = some (.int .i64 r.from_) := (B2.out.1.2 8 (by omega)).trans HE8.out; have k9 : w2.cell? ⟨w.heap.size, 9, none⟩ = some (.int .i64 r.many_) := (B2.out.1.2 9 (by omega)).trans HE9.out; clear b2) | (go_at_call 30; refine (impl_isValueIs _ _ _ (by assumption)).mono ?_; rintro e w' ⟨rfl, rfl⟩))
    intro w9 o9 C9
    have O9 := hid o9
    have HB9 := hid (below_chg HB2.out C9 HB2.out.size (fun b hb => by omega))
    clear o9 C9
    go_wp2
    exact bodyPost_ret (results_box2 rfl _ _ (w.heap.size + 1) ce rfl O9.out _ Try.underlying26 rfl (by rw [hl]; kernel_rfl)) rfl ⟨by rw [Hr.out, HCE.out]; rfl, HB9.out⟩
  | true =>
  have hfm := (ringOk_iff r).1 hok
  have hm0 := hfm.2.1
  by_cases hm8 : r.many_ = 8
  · have Hr := hid (show ringPutC r v = (r, 2) by simp [ringPutC, hok, hv, hm8])
    clear hfm hm0
    go_enter Try.func13, Try.ntmps13
    go_upto_region 1 with fail
    rw [HW1.out]
    go_wp2_with (first | (refine wpList_load_box rfl 26 _ rfl w.heap.size ce (by exact B1.out.1) rfl _ Try.underlying26 rfl (by rw [hl]; kernel_rfl) ?_) | (refine wpList_load_box rfl 26 _ rfl w.heap.size ce (by exact B2.out.1) rfl _ Try.underlying26 rfl (by rw [hl]; kernel_rfl) ?_) | (refine wpList_store_box rfl 26 _ _ rfl (w.heap.size + 1) [.int .i64 0, .int .i64 0, .int .i64 0, .int .i64 0, .int .i64 0, .int .i64 0, .int .i64 0, .int .i64 0, .int .i64 0, .int .i64 0] ce R2.out rfl rfl (by rw [hl]; rfl) (by rw [hl]; kernel_rfl) hone ?_) | (go_at_call 11; refine HOK.out.mono ?_; rintro e w2 ⟨rfl, b2⟩; rw [hok]; have B2 := hid (B1.out.below b2); have R2 := hid (R1.out.below b2); have HB2 := hid (HB1.out.trans (b2.mono HB1.out.size)); have k8 : w2.cell? ⟨w.heap.size, 8, none⟩ = some (.int .i64 r.from_) := (B2.out.1.2 8 (by omega)).trans HE8.out; have k9 : w2.cell? ⟨w.heap.size, 9, none⟩ = some (.int .i64 r.many_) := (B2.out.1.2 9 (by omega)).trans HE9.out; clear b2) | (go_at_call 30; refine (impl_isValueIs _ _ _ (by assumption)).mono ?_; rintro e w' ⟨rfl, rfl⟩))
    intro w9 o9 C9
    have O9 := hid o9
    have HB9 := hid (below_chg HB2.out C9 HB2.out.size (fun b hb => by omega))
    clear o9 C9
    go_wp2
    exact bodyPost_ret (results_box2 rfl _ _ (w.heap.size + 1) ce rfl O9.out _ Try.underlying26 rfl (by rw [hl]; kernel_rfl)) rfl ⟨by rw [Hr.out, HCE.out]; rfl, HB9.out⟩
  ·
    obtain ⟨F, hF⟩ : ∃ F : Nat, r.from_ = (F : Int) := ⟨r.from_.toNat, by omega⟩
    obtain ⟨M, hM⟩ : ∃ M : Nat, r.many_ = (M : Int) := ⟨r.many_.toNat, by omega⟩
    have hFb : F ≤ 7 := by omega
    have hMb : M ≤ 7 := by omega
    have HPUT := hid (fun (W : World) => impl_put0 r hL0.out F M hF hM hFb hMb v w.heap.size W)
    rw [HCE.out] at HPUT
    have hl9 := ring_len (putR_len hL0.out v)
    have hone9 := ring_one (putR r v)
    have Hr := hid (show ringPutC r v = (putR r v, 0) from ringPutC_ok hok hm8 hv)
    obtain ⟨cf, hcf⟩ : ∃ Y, (putR r v).enc = Y := ⟨_, rfl⟩
    rw [hcf] at HPUT hl9 hone9
    have HCF := hid hcf
    clear hcf hfm hm0 hF hM
    go_enter Try.func13, Try.ntmps13
    go_upto_region 1 with fail
    rw [HW1.out]
    go_wp2_with (first | (refine wpList_load_box rfl 26 _ rfl w.heap.size cf (by exact A6.out.1) rfl _ Try.underlying26 rfl (by rw [hl9]; kernel_rfl) ?_) | (refine wpList_store_box rfl 26 _ _ rfl (w.heap.size + 1) [.int .i64 0, .int .i64 0, .int .i64 0, .int .i64 0, .int .i64 0, .int .i64 0, .int .i64 0, .int .i64 0, .int .i64 0, .int .i64 0] cf R6.out rfl rfl (by rw [hl9]; rfl) (by rw [hl9]; kernel_rfl) hone9 ?_) | (refine wpList_load_box rfl 26 _ rfl w.heap.size ce (by exact B1.out.1) rfl _ Try.underlying26 rfl (by rw [hl]; kernel_rfl) ?_) | (go_at_call 11; refine HOK.out.mono ?_; rintro e w2 ⟨rfl, b2⟩; rw [hok]; have B2 := hid (B1.out.below b2); have R2 := hid (R1.out.below b2); have HB2 := hid (HB1.out.trans (b2.mono HB1.out.size)); have k8 : w2.cell? ⟨w.heap.size, 8, none⟩ = some (.int .i64 r.from_) := (B2.out.1.2 8 (by omega)).trans HE8.out; have k9 : w2.cell? ⟨w.heap.size, 9, none⟩ = some (.int .i64 r.many_) := (B2.out.1.2 9 (by omega)).trans HE9.out; clear b2) | (go_at_call 30; refine (impl_isValueIs _ _ _ (by assumption)).mono ?_; rintro e w' ⟨rfl, rfl⟩) | (go_at_call 31; refine (HPUT.out _ B2.out).mono ?_; rintro e w5 ⟨rfl, o5, C5⟩; have A6 := hid o5; have R6 := hid (R2.out.chg C5 (by omega)); have HB6 := hid (below_chg HB2.out C5 HB2.out.size (fun b hb => by omega)); clear o5 C5))
    intro w9 o9 C9
    have O9 := hid o9
    have HB9 := hid (below_chg HB6.out C9 HB6.out.size (fun b hb => by omega))
    clear o9 C9
    go_wp2
    exact bodyPost_ret (results_box2 rfl _ _ (w.heap.size + 1) cf rfl O9.out _ Try.underlying26 rfl (by rw [hl9]; kernel_rfl)) rfl ⟨by rw [Hr.out, HCF.out]; rfl, HB9.out⟩
set_option maxHeartbeats 8000000 in
theorem impl_RingTake0 (r : RingD) (hL : r.cells_.length = 8) (w : World) :
    Calls Try.prog 16 #[.agg r.enc.toArray] w fun e w' => e = .returned (.tuple #[.agg (takeC r).1.enc.toArray, .int .i64 (takeC r).2.1, .int .i64 (takeC r).2.2]) ∧ Below w.heap.size w w' := by
  have hL0 := hid hL
  have hone := ring_one r
  have hl := ring_len hL
  have hl2 : r.enc.toArray.size = 10 := by rw [List.size_toArray, hl]
  have HE := hid (show r.enc = [] ++ r.cells_.flatMap encI ++ [.int .i64 r.from_, .int .i64 r.many_] from rfl)
  have HL := hid hL
  have HE8 := hid (show r.enc[8]? = some (.int .i64 r.from_) by rw [HE.out, List.nil_append, List.getElem?_append_right (by rw [ints_len]; omega), ints_len, hL]; rfl)
  have HE9 := hid (show r.enc[9]? = some (.int .i64 r.many_) by rw [HE.out, List.nil_append, List.getElem?_append_right (by rw [ints_len]; omega), ints_len, hL]; rfl)
  have HOK0 := hid (fun (W : World) => impl_RingOk0 r hL W)
  generalize hce : r.enc = ce at *
  obtain ⟨W1, hW1⟩ : ∃ X, (w.alloc (.cells ce.toArray 26)).alloc (.cells #[.int .i64 0, .int .i64 0, .int .i64 0, .int .i64 0, .int .i64 0, .int .i64 0, .int .i64 0, .int .i64 0, .int .i64 0, .int .i64 0] 26) = X := ⟨_, rfl⟩
  have hB1 : Below w.heap.size w W1 := by rw [← hW1]; exact ((Below.refl _ _).alloc (Nat.le_refl _) _).alloc (by simp) _
  have B1 := hid (show BoxF W1 w.heap.size ce by rw [← hW1]; exact (BoxF.alloc w ce.toArray 26).below ((Below.refl _ _).alloc (Nat.le_refl _) _))
  have R1 : Hid (BoxF W1 (w.heap.size + 1) [.int .i64 0, .int .i64 0, .int .i64 0, .int .i64 0, .int .i64 0, .int .i64 0, .int .i64 0, .int .i64 0, .int .i64 0, .int .i64 0]) := by
    rw [← hW1]
    have z := BoxF.alloc (w.alloc (.cells ce.toArray 26)) #[.int .i64 0, .int .i64 0, .int .i64 0, .int .i64 0, .int .i64 0, .int .i64 0, .int .i64 0, .int .i64 0, .int .i64 0, .int .i64 0] 26
    rw [show (w.alloc (.cells ce.toArray 26)).heap.size = w.heap.size + 1 by simp] at z
    exact hid z
  have HB1 := hid hB1
  have HCE := hid hce
  have HW1 := hid hW1
  have HOK := hid (HOK0.out W1)
  have hz : ∀ w : World, (zeroValue 26).run Try.prog w = .ok (.agg #[.int .i64 0, .int .i64 0, .int .i64 0, .int .i64 0, .int .i64 0, .int .i64 0, .int .i64 0, .int .i64 0, .int .i64 0, .int .i64 0]) w := fun w => zero_run w (by kernel_rfl)
  clear hL hB1 hce hW1
  cases hok : ringOk r with
  | false =>
    have Hr := hid (show takeC r = (r, 0, 1) by simp [takeC, hok])
    go_enter Try.func16, Try.ntmps16
    go_upto_region 1 with fail
    rw [HW1.out]
    go_wp2_with (first | (refine wpList_load_box rfl 26 _ rfl w.heap.size ce (by exact B1.out.1) rfl _ Try.underlying26 rfl (by rw [hl]; kernel_rfl) ?_) | (refine wpList_load_box rfl 26 _ rfl w.heap.size ce (by exact B2.out.1) rfl _ Try.underlying26 rfl (by rw [hl]; kernel_rfl) ?_) | (refine wpList_store_box rfl 26 _ _ rfl (w.heap.size + 1) [.int .i64 0, .int .i64 0, .int .i64 0, .int .i64 0, .int .i64 0, .int .i64 0, .int .i64 0, .int .i64 0, .int .i64 0, .int .i64 0] ce R2.out rfl rfl (by rw [hl]; rfl) (by rw [hl]; kernel_rfl) hone ?_) | (go_at_call 11; refine HOK.out.mono ?_; rintro e w2 ⟨rfl, b2⟩; rw [hok]; have B2 := hid (B1.out.below b2); have R2 := hid (R1.out.below b2); have HB2 := hid (HB1.out.trans (b2.mono HB1.out.size)); have k8 : w2.cell? ⟨w.heap.size, 8, none⟩ = some (.int .i64 r.from_) := (B2.out.1.2 8 (by omega)).trans HE8.out; have k9 : w2.cell? ⟨w.heap.size, 9, none⟩ = some (.int .i64 r.many_) := (B2.out.1.2 9 (by omega)).trans HE9.out; clear b2))
    intro w9 o9 C9
    have O9 := hid o9
    have HB9 := hid (below_chg HB2.out C9 HB2.out.size (fun b hb => by omega))
    clear o9 C9
    go_wp2
    exact bodyPost_ret (results_box3 rfl _ _ (w.heap.size + 1) ce rfl O9.out _ Try.underlying26 rfl (by rw [hl]; kernel_rfl)) rfl ⟨by rw [Hr.out, HCE.out]; rfl, HB9.out⟩
  | true =>
  have hfm := (ringOk_iff r).1 hok
  have hm0 := hfm.2.1
  by_cases hm8 : r.many_ = 0
  · have Hr := hid (show takeC r = (r, 0, 3) by simp [takeC, hok, hm8])
    clear hfm hm0
    go_enter Try.func16, Try.ntmps16
    go_upto_region 1 with fail
    rw [HW1.out]
    go_wp2_with (first | (refine wpList_load_box rfl 26 _ rfl w.heap.size ce (by exact B1.out.1) rfl _ Try.underlying26 rfl (by rw [hl]; kernel_rfl) ?_) | (refine wpList_load_box rfl 26 _ rfl w.heap.size ce (by exact B2.out.1) rfl _ Try.underlying26 rfl (by rw [hl]; kernel_rfl) ?_) | (refine wpList_store_box rfl 26 _ _ rfl (w.heap.size + 1) [.int .i64 0, .int .i64 0, .int .i64 0, .int .i64 0, .int .i64 0, .int .i64 0, .int .i64 0, .int .i64 0, .int .i64 0, .int .i64 0] ce R2.out rfl rfl (by rw [hl]; rfl) (by rw [hl]; kernel_rfl) hone ?_) | (go_at_call 11; refine HOK.out.mono ?_; rintro e w2 ⟨rfl, b2⟩; rw [hok]; have B2 := hid (B1.out.below b2); have R2 := hid (R1.out.below b2); have HB2 := hid (HB1.out.trans (b2.mono HB1.out.size)); have k8 : w2.cell? ⟨w.heap.size, 8, none⟩ = some (.int .i64 r.from_) := (B2.out.1.2 8 (by omega)).trans HE8.out; have k9 : w2.cell? ⟨w.heap.size, 9, none⟩ = some (.int .i64 r.many_) := (B2.out.1.2 9 (by omega)).trans HE9.out; clear b2))
    intro w9 o9 C9
    have O9 := hid o9
    have HB9 := hid (below_chg HB2.out C9 HB2.out.size (fun b hb => by omega))
    clear o9 C9
    go_wp2
    exact bodyPost_ret (results_box3 rfl _ _ (w.heap.size + 1) ce rfl O9.out _ Try.underlying26 rfl (by rw [hl]; kernel_rfl)) rfl ⟨by rw [Hr.out, HCE.out]; rfl, HB9.out⟩
  ·
    obtain ⟨F, hF⟩ : ∃ F : Nat, r.from_ = (F : Int) := ⟨r.from_.toNat, by omega⟩
    obtain ⟨M, hM⟩ : ∃ M : Nat, r.many_ = (M : Int) := ⟨r.many_.toNat, by omega⟩
    have hFb : F ≤ 7 := by omega
    have hMb : 1 ≤ M ∧ M ≤ 8 := by omega
    have HTAKE := hid (fun (W : World) => impl_take0 r hL0.out F M hF hM hFb hMb w.heap.size W)
    rw [HCE.out] at HTAKE
    have hl9 := ring_len (takeR_len hL0.out)
    have hone9 := ring_one (takeR r)
    have Hr := hid (show takeC r = (takeR r, rAt r.cells_ (idx8 r.from_ 0), 0) from takeC_ok hok hm8)
    obtain ⟨cf, hcf⟩ : ∃ Y, (takeR r).enc = Y := ⟨_, rfl⟩
    obtain ⟨x, hx⟩ : ∃ x, rAt r.cells_ (idx8 r.from_ 0) = x := ⟨_, rfl⟩
    rw [hcf, hx] at HTAKE
    rw [hcf] at hl9 hone9
    rw [hx] at Hr
    have HCF := hid hcf
    clear hcf hfm hm0 hF hM hx
    go_enter Try.func16, Try.ntmps16
    go_upto_region 1 with fail
    rw [HW1.out]
    go_wp2_with (first | (refine wpList_load_box rfl 26 _ rfl w.heap.size cf (by exact A6.out.1) rfl _ Try.underlying26 rfl (by rw [hl9]; kernel_rfl) ?_) | (refine wpList_store_box rfl 26 _ _ rfl (w.heap.size + 1) [.int .i64 0, .int .i64 0, .int .i64 0, .int .i64 0, .int .i64 0, .int .i64 0, .int .i64 0, .int .i64 0, .int .i64 0, .int .i64 0] cf R6.out rfl rfl (by rw [hl9]; rfl) (by rw [hl9]; kernel_rfl) hone9 ?_) | (refine wpList_load_box rfl 26 _ rfl w.heap.size ce (by exact B1.out.1) rfl _ Try.underlying26 rfl (by rw [hl]; kernel_rfl) ?_) | (go_at_call 11; refine HOK.out.mono ?_; rintro e w2 ⟨rfl, b2⟩; rw [hok]; have B2 := hid (B1.out.below b2); have R2 := hid (R1.out.below b2); have HB2 := hid (HB1.out.trans (b2.mono HB1.out.size)); have k8 : w2.cell? ⟨w.heap.size, 8, none⟩ = some (.int .i64 r.from_) := (B2.out.1.2 8 (by omega)).trans HE8.out; have k9 : w2.cell? ⟨w.heap.size, 9, none⟩ = some (.int .i64 r.many_) := (B2.out.1.2 9 (by omega)).trans HE9.out; clear b2) | (go_at_call 33; refine (HTAKE.out _ B2.out).mono ?_; rintro e w5 ⟨rfl, o5, C5⟩; have A6 := hid o5; have R6 := hid (R2.out.chg C5 (by omega)); have HB6 := hid (below_chg HB2.out C5 HB2.out.size (fun b hb => by omega)); clear o5 C5))
    intro w9 o9 C9
    have O9 := hid o9
    have HB9 := hid (below_chg HB6.out C9 HB6.out.size (fun b hb => by omega))
    clear o9 C9
    go_wp2
    exact bodyPost_ret (results_box3 rfl _ _ (w.heap.size + 1) cf rfl O9.out _ Try.underlying26 rfl (by rw [hl9]; kernel_rfl)) rfl ⟨by rw [Hr.out, HCF.out]; rfl, HB9.out⟩
end Go.Proofs.Ytilbmclhnlkkmaa
