/- Chapter 14's program: RingTurn. (printed by tools/mk_i14.py) -/
import Derived.Test.YtilbmclhnlkkmaaI14p
namespace Go.Proofs.Ytilbmclhnlkkmaa
set_option maxRecDepth 100000
open Go.RowKit Go.Proofs Go.Own
open Go Go.BigFrame
set_option linter.unusedVariables false
set_option linter.unusedSimpArgs false
set_option maxHeartbeats 8000000 in
theorem impl_RingTurn0 (r : RingD) (hL : r.cells_.length = 8) (n : Int) (w : World) :
    Calls Try.prog 25 #[.agg r.enc.toArray, .int .i64 n] w fun e w' => e = .returned (.tuple #[.agg (turnC14 r n).1.enc.toArray, .int .i64 (turnC14 r n).2]) ∧ Below w.heap.size w w' := by
  have HL0 := hid hL
  have hone := ring_one r
  have hl := ring_len hL
  have hl2 : r.enc.toArray.size = 10 := by rw [List.size_toArray, hl]
  have HE := hid (show r.enc = [] ++ r.cells_.flatMap encI ++ [.int .i64 r.from_, .int .i64 r.many_] from rfl)
  have HL := hid hL
  have HE8 := hid (show r.enc[8]? = some (.int .i64 r.from_) by rw [HE.out, List.nil_append, List.getElem?_append_right (by rw [ints_len]; omega), ints_len, hL]; rfl)
  have HE9 := hid (show r.enc[9]? = some (.int .i64 r.many_) by rw [HE.out, List.nil_append, List.getElem?_append_right (by rw [ints_len]; omega), ints_len, hL]; rfl)
  have HOK0 := hid (fun (W : World) => impl_RingOk0 r hL W)
  generalize hce : r.enc = ce at *
  obtain ⟨W1, hW1⟩ : ∃ X, (w.alloc (.cells ce.toArray 26)).alloc (.cells #[.int .i64 0, .int .i64 0, .int .i64 0, .int .i64 0, .int .i64 0, .int .i64 0, .int .i64 0, .int .i64 0, .int .i64 0, .int .i64 0] 26) = X := ⟨_, rfl⟩
  have hB1 : Below w.heap.size w W1 := by rw [← hW1]; exact ((Below.refl _ _).alloc (Nat.le_refl _) _).alloc (by simp) _
  have B1 := hid (show BoxF W1 w.heap.size ce by rw [← hW1]; exact (BoxF.alloc w ce.toArray 26).below ((Below.refl _ _).alloc (Nat.le_refl _) _))
  have R1 : Hid (BoxF W1 (w.heap.size + 1) [.int .i64 0, .int .i64 0, .int .i64 0, .int .i64 0, .int .i64 0, .int .i64 0, .int .i64 0, .int .i64 0, .int .i64 0, .int .i64 0]) := by
    rw [← hW1]
    have z := BoxF.alloc (w.alloc (.cells ce.toArray 26)) #[.int .i64 0, .int .i64 0, .int .i64 0, .int .i64 0, .int .i64 0, .int .i64 0, .int .i64 0, .int .i64 0, .int .i64 0, .int .i64 0] 26
    rw [show (w.alloc (.cells ce.toArray 26)).heap.size = w.heap.size + 1 by simp] at z
    exact hid z
  have HB1 := hid hB1
  have HCE := hid hce
  have HW1 := hid hW1
  have HOK := hid (HOK0.out W1)
  have hz : ∀ w : World, (zeroValue 26).run Try.prog w = .ok (.agg #[.int .i64 0, .int .i64 0, .int .i64 0, .int .i64 0, .int .i64 0, .int .i64 0, .int .i64 0, .int .i64 0, .int .i64 0, .int .i64 0]) w := fun w => zero_run w (by kernel_rfl)
  clear hL hB1 hce hW1
  cases hok : ringOk r with
  | false =>
    have Hr := hid (show turnC14 r n = (r, 1) by simp [turnC14, hok])
    go_enter Try.func25, Try.ntmps25
    go_upto_region 1 with fail
    rw [HW1.out]
    go_wp2_with (first | (refine wpList_load_box rfl 26 _ rfl w.heap.size ce (by exact B1.out.1) rfl _ Try.underlying26 rfl (by rw [hl]; kernel_rfl) ?_) | (refine wpList_load_box rfl 26 _ rfl w.heap.size ce (by exact B2.out.1) rfl _ Try.underlying26 rfl (by rw [hl]; kernel_rfl) ?_) | (refine wpList_store_box rfl 26 _ _ rfl (w.heap.size + 1) [.int .i64 0, .int .i64 0, .int .i64 0, .int .i64 0, .int .i64 0, .int .i64 0, .int .i64 0, .int .i64 0, .int .i64 0, .int .i64 0] ce R2.out rfl rfl (by rw [hl]; rfl) (by rw [hl]; kernel_rfl) hone ?_) | (go_at_call 11; refine HOK.out.mono ?_; rintro e w2 ⟨rfl, b2⟩; rw [hok]; have B2 := hid (B1.out.below b2); have R2 := hid (R1.out.below b2); have HB2 := hid (HB1.out.trans (b2.mono HB1.out.size)); have k8 : w2.cell? ⟨w.heap.size, 8, none⟩ = some (.int .i64 r.from_) := (B2.out.1.2 8 (by omega)).trans HE8.out; have k9 : w2.cell? ⟨w.heap.size, 9, none⟩ = some (.int .i64 r.many_) := (B2.out.1.2 9 (by omega)).trans HE9.out; clear b2))
    intro w9 o9 C9
    have O9 := hid o9
    have HB9 := hid (below_chg HB2.out C9 HB2.out.size (fun b hb => by omega))
    clear o9 C9
    go_wp2
    exact bodyPost_ret (results_box2 rfl _ _ (w.heap.size + 1) ce rfl O9.out _ Try.underlying26 rfl (by rw [hl]; kernel_rfl)) rfl ⟨by rw [Hr.out, HCE.out]; rfl, HB9.out⟩
  | true =>
  by_cases hn0 : n < 0
  · have Hr := hid (show turnC14 r n = (r, 1) by simp [turnC14, inB]; omega)
    go_enter Try.func25, Try.ntmps25
    go_upto_region 1 with fail
    rw [HW1.out]
    go_wp2_with (first | (refine wpList_load_box rfl 26 _ rfl w.heap.size ce (by exact B1.out.1) rfl _ Try.underlying26 rfl (by rw [hl]; kernel_rfl) ?_) | (refine wpList_load_box rfl 26 _ rfl w.heap.size ce (by exact B2.out.1) rfl _ Try.underlying26 rfl (by rw [hl]; kernel_rfl) ?_) | (refine wpList_store_box rfl 26 _ _ rfl (w.heap.size + 1) [.int .i64 0, .int .i64 0, .int .i64 0, .int .i64 0, .int .i64 0, .int .i64 0, .int .i64 0, .int .i64 0, .int .i64 0, .int .i64 0] ce R2.out rfl rfl (by rw [hl]; rfl) (by rw [hl]; kernel_rfl) hone ?_) | (go_at_call 11; refine HOK.out.mono ?_; rintro e w2 ⟨rfl, b2⟩; rw [hok]; have B2 := hid (B1.out.below b2); have R2 := hid (R1.out.below b2); have HB2 := hid (HB1.out.trans (b2.mono HB1.out.size)); have k8 : w2.cell? ⟨w.heap.size, 8, none⟩ = some (.int .i64 r.from_) := (B2.out.1.2 8 (by omega)).trans HE8.out; have k9 : w2.cell? ⟨w.heap.size, 9, none⟩ = some (.int .i64 r.many_) := (B2.out.1.2 9 (by omega)).trans HE9.out; clear b2))
    intro w9 o9 C9
    have O9 := hid o9
    have HB9 := hid (below_chg HB2.out C9 HB2.out.size (fun b hb => by omega))
    clear o9 C9
    go_wp2
    exact bodyPost_ret (results_box2 rfl _ _ (w.heap.size + 1) ce rfl O9.out _ Try.underlying26 rfl (by rw [hl]; kernel_rfl)) rfl ⟨by rw [Hr.out, HCE.out]; rfl, HB9.out⟩
  by_cases hn9 : 1000 < n
  · have Hr := hid (show turnC14 r n = (r, 1) by simp [turnC14, inB]; omega)
    go_enter Try.func25, Try.ntmps25
    go_upto_region 1 with fail
    rw [HW1.out]
    go_wp2_with (first | (refine wpList_load_box rfl 26 _ rfl w.heap.size ce (by exact B1.out.1) rfl _ Try.underlying26 rfl (by rw [hl]; kernel_rfl) ?_) | (refine wpList_load_box rfl 26 _ rfl w.heap.size ce (by exact B2.out.1) rfl _ Try.underlying26 rfl (by rw [hl]; kernel_rfl) ?_) | (refine wpList_store_box rfl 26 _ _ rfl (w.heap.size + 1) [.int .i64 0, .int .i64 0, .int .i64 0, .int .i64 0, .int .i64 0, .int .i64 0, .int .i64 0, .int .i64 0, .int .i64 0, .int .i64 0] ce R2.out rfl rfl (by rw [hl]; rfl) (by rw [hl]; kernel_rfl) hone ?_) | (go_at_call 11; refine HOK.out.mono ?_; rintro e w2 ⟨rfl, b2⟩; rw [hok]; have B2 := hid (B1.out.below b2); have R2 := hid (R1.out.below b2); have HB2 := hid (HB1.out.trans (b2.mono HB1.out.size)); have k8 : w2.cell? ⟨w.heap.size, 8, none⟩ = some (.int .i64 r.from_) := (B2.out.1.2 8 (by omega)).trans HE8.out; have k9 : w2.cell? ⟨w.heap.size, 9, none⟩ = some (.int .i64 r.many_) := (B2.out.1.2 9 (by omega)).trans HE9.out; clear b2))
    intro w9 o9 C9
    have O9 := hid o9
    have HB9 := hid (below_chg HB2.out C9 HB2.out.size (fun b hb => by omega))
    clear o9 C9
    go_wp2
    exact bodyPost_ret (results_box2 rfl _ _ (w.heap.size + 1) ce rfl O9.out _ Try.underlying26 rfl (by rw [hl]; kernel_rfl)) rfl ⟨by rw [Hr.out, HCE.out]; rfl, HB9.out⟩
  have hfm := ((ringOk_iff r).1 hok).2.1
  obtain ⟨N, hN⟩ : ∃ N : Nat, n = (N : Int) := ⟨n.toNat, by omega⟩
  subst hN
  have hNb : N ≤ 1000 := by omega
  have Hr := hid (show turnC14 r N = (turnN N r, 0) by unfold turnC14; rw [hok, if_pos (by simp [inB]; omega), Int.toNat_natCast])
  by_cases hm : r.many_ = 0
  · have Hr2 := hid (show turnN N r = r from turnN_0 _ _ (by omega))
    clear hfm
    go_enter Try.func25, Try.ntmps25
    go_upto_region 1 with fail
    rw [HW1.out]
    go_wp2_with (first | (refine wpList_load_box rfl 26 _ rfl w.heap.size ce (by exact B1.out.1) rfl _ Try.underlying26 rfl (by rw [hl]; kernel_rfl) ?_) | (refine wpList_load_box rfl 26 _ rfl w.heap.size ce (by exact B2.out.1) rfl _ Try.underlying26 rfl (by rw [hl]; kernel_rfl) ?_) | (refine wpList_store_box rfl 26 _ _ rfl (w.heap.size + 1) [.int .i64 0, .int .i64 0, .int .i64 0, .int .i64 0, .int .i64 0, .int .i64 0, .int .i64 0, .int .i64 0, .int .i64 0, .int .i64 0] ce R2.out rfl rfl (by rw [hl]; rfl) (by rw [hl]; kernel_rfl) hone ?_) | (go_at_call 11; refine HOK.out.mono ?_; rintro e w2 ⟨rfl, b2⟩; rw [hok]; have B2 := hid (B1.out.below b2); have R2 := hid (R1.out.below b2); have HB2 := hid (HB1.out.trans (b2.mono HB1.out.size)); have k8 : w2.cell? ⟨w.heap.size, 8, none⟩ = some (.int .i64 r.from_) := (B2.out.1.2 8 (by omega)).trans HE8.out; have k9 : w2.cell? ⟨w.heap.size, 9, none⟩ = some (.int .i64 r.many_) := (B2.out.1.2 9 (by omega)).trans HE9.out; clear b2))
    intro w9 o9 C9
    have O9 := hid o9
    have HB9 := hid (below_chg HB2.out C9 HB2.out.size (fun b hb => by omega))
    clear o9 C9
    go_wp2
    exact bodyPost_ret (results_box2 rfl _ _ (w.heap.size + 1) ce rfl O9.out _ Try.underlying26 rfl (by rw [hl]; kernel_rfl)) rfl ⟨by rw [Hr.out, Hr2.out, HCE.out]; rfl, HB9.out⟩
  ·
    have HM0 := hid (show 0 < r.many_ by omega)
    have hmf : (r.many_ == 0) = false := by simpa using hm
    clear hfm hm
    go_enter Try.func25, Try.ntmps25
    go_upto_region 1 with fail
    rw [HW1.out]
    go_wp2_with (first | (go_at_call 11; refine HOK.out.mono ?_; rintro e w2 ⟨rfl, b2⟩; rw [hok]; have B2 := hid (B1.out.below b2); have R2 := hid (R1.out.below b2); have HB2 := hid (HB1.out.trans (b2.mono HB1.out.size)); have k8 : w2.cell? ⟨w.heap.size, 8, none⟩ = some (.int .i64 r.from_) := (B2.out.1.2 8 (by omega)).trans HE8.out; have k9 : w2.cell? ⟨w.heap.size, 9, none⟩ = some (.int .i64 r.many_) := (B2.out.1.2 9 (by omega)).trans HE9.out; clear b2) | (refine wpList_load_box rfl 26 _ rfl w.heap.size ce (by exact B1.out.1) rfl _ Try.underlying26 rfl (by rw [hl]; kernel_rfl) ?_))
    have B3 := hid (show BoxF w2 w.heap.size r.enc by rw [HCE.out]; exact B2.out)
    have HOKR := hid hok
    clear hn0 hn9 hok hl2 k8 k9 B1 R1 B2 HB1 HOK HOK0
    go_loopw [23] (fun i wr => ∃ (j : Nat) (q : RingD), j ≤ N ∧ i = .int .i64 j ∧ Hid (q.cells_.length = 8) ∧ Hid (ringOk q = true) ∧ Hid (0 < q.many_) ∧ Hid (turnN (N - j) q = turnN N r) ∧ Hid (BoxF wr w.heap.size q.enc) ∧ Hid (BoxF wr (w.heap.size + 1) [.int .i64 0, .int .i64 0, .int .i64 0, .int .i64 0, .int .i64 0, .int .i64 0, .int .i64 0, .int .i64 0, .int .i64 0, .int .i64 0]) ∧ Hid (Below w.heap.size w wr)) (fun i _ => N - (intOf i).toNat)
    case atStart => exact ⟨0, r, by omega, rfl, HL0, HOKR, HM0, hid rfl, B3, R2, HB2⟩
    case round =>
      obtain ⟨j, q, hj, rfl, HQL, HQO, HQM, HQT, BQ, RQ, HBQ⟩ := hrel
      have hql := ring_len HQL.out
      have hqone := ring_one q
      clear B3 R2 HB2
      by_cases hjN : j < N
      · have hjN2 : (j : Int) < (N : Int) := by omega
        have hfm := (ringOk_iff q).1 HQO.out
        have hm0 : q.many_ ≠ 0 := by have := HQM.out; omega
        obtain ⟨F, hF⟩ : ∃ F : Nat, q.from_ = (F : Int) := ⟨q.from_.toNat, by omega⟩
        obtain ⟨M, hM⟩ : ∃ M : Nat, q.many_ = (M : Int) := ⟨q.many_.toNat, by omega⟩
        obtain ⟨F2, hF2⟩ : ∃ F : Nat, (takeR q).from_ = (F : Int) := ⟨(takeR q).from_.toNat, by have := ((ringOk_iff _).1 (takeR_ok HQO.out HQL.out hm0)).1; omega⟩
        have HTO := hid (takeR_ok HQO.out HQL.out hm0)
        have HTL := hid (takeR_len HQL.out)
        have htm8 : (takeR q).many_ ≠ 8 := by show q.many_ - 1 ≠ 8; omega
        have hxv := take_val HQO.out hm0
        have HTAKE := hid (fun (W : World) => impl_take0 q HQL.out F M hF hM (by omega) (by omega) w.heap.size W)
        have HQT2 := HQT.out
        rw [show N - j = (N - (j+1)) + 1 by omega, turnN, if_pos HQM.out] at HQT2
        obtain ⟨x, hx⟩ : ∃ x, rAt q.cells_ (idx8 q.from_ 0) = x := ⟨_, rfl⟩
        rw [hx] at HTAKE hxv HQT2
        have HPUT := hid (fun (W : World) => impl_put0 (takeR q) HTL.out F2 (M - 1) hF2 (by show q.many_ - 1 = _; omega) (by have := ((ringOk_iff _).1 HTO.out).1; omega) (by omega) x w.heap.size W)
        have HPO := hid (putR_ok HTO.out HTL.out htm8 hxv)
        have HPL := hid (putR_len HTL.out x)
        have HPM := hid (show 0 < (putR (takeR q) x).many_ by show 0 < q.many_ - 1 + 1; omega)
        have HQT3 := hid HQT2
        clear hfm hm0 hF hM hF2 htm8 hxv HQT2 hx HQT HQM
        go_wp2_with (first | (go_at_call 33; refine (HTAKE.out _ BQ.out).mono ?_; rintro e w5 ⟨rfl, o5, C5⟩; have B5 := hid o5; have R5 := hid (RQ.out.chg C5 (by omega)); have HB5 := hid (below_chg HBQ.out C5 HBQ.out.size (fun b hb => by omega)); clear o5 C5) | (go_at_call 31; refine (HPUT.out _ B5.out).mono ?_; rintro e w6 ⟨rfl, o6, C6⟩; have B6 := hid o6; have R6 := hid (R5.out.chg C6 (by omega)); have HB6 := hid (below_chg HB5.out C6 HB5.out.size (fun b hb => by omega)); clear o6 C6))
        go_roundw
        case rel => exact ⟨j+1, _, by omega, by go_num, HPL, HPO, HPM, HQT3, B6, R6, HB6⟩
        case measure => simp [intOf]; omega
      · obtain rfl : j = N := by omega
        have HX := hid (show turnN j r = q by rw [← HQT.out, Nat.sub_self]; rfl)
        obtain ⟨cq, hcq⟩ : ∃ Y, q.enc = Y := ⟨_, rfl⟩
        rw [hcq] at BQ hql hqone
        have HCQ := hid hcq
        have hq2 : cq.toArray.size = 10 := by rw [List.size_toArray, hql]
        clear hcq
        go_wp2_with (first | (refine wpList_load_box rfl 26 _ rfl w.heap.size cq (by exact BQ.out.1) rfl _ Try.underlying26 rfl (by rw [hql]; kernel_rfl) ?_) | (refine wpList_store_box rfl 26 _ _ rfl (w.heap.size + 1) [.int .i64 0, .int .i64 0, .int .i64 0, .int .i64 0, .int .i64 0, .int .i64 0, .int .i64 0, .int .i64 0, .int .i64 0, .int .i64 0] cq RQ.out rfl rfl (by rw [hql]; rfl) (by rw [hql]; kernel_rfl) hqone ?_))
        intro w9 o9 C9
        have O9 := hid o9
        have HB9 := hid (below_chg HBQ.out C9 HBQ.out.size (fun b hb => by omega))
        clear o9 C9
        go_wp2
        exact bodyPost_ret (results_box2 rfl _ _ (w.heap.size + 1) cq rfl O9.out _ Try.underlying26 rfl (by rw [hql]; kernel_rfl)) rfl ⟨by rw [Hr.out, HX.out, HCQ.out]; rfl, HB9.out⟩
end Go.Proofs.Ytilbmclhnlkkmaa
