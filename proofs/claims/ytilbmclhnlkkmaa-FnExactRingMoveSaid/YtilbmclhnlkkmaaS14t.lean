/- Chapter 14's model: RingTurn. (printed by tools/mk_s14t.py) -/
import Derived.Test.YtilbmclhnlkkmaaS14l
namespace Go.Proofs.Ytilbmclhnlkkmaa
set_option maxRecDepth 100000
open Go.RowKit Go.Proofs Go.Own
open Go Go.BigFrame
set_option linter.unusedVariables false
set_option linter.unusedSimpArgs false
theorem takeC_ok {r : RingD} (h : ringOk r = true) (hm : r.many_ ≠ 0) : takeC r = (takeR r, rAt r.cells_ (idx8 r.from_ 0), 0) := by unfold takeC; rw [if_pos h, if_neg hm]
theorem ringPutC_ok {r : RingD} (h : ringOk r = true) (hm : r.many_ ≠ 8) {v : Int} (hv : isVal v = true) : ringPutC r v = (putR r v, 0) := by unfold ringPutC; rw [h, hv, if_pos (show (true && true) = true from rfl), if_neg hm]
theorem turnN_0 (n : Nat) (r : RingD) (h : ¬ 0 < r.many_) : turnN n r = r := by cases n with
  | zero => rfl
  | succ n => simp [turnN, h]
theorem turnN_len : ∀ (n : Nat) (r : RingD), r.cells_.length = 8 → (turnN n r).cells_.length = 8
  | 0, r, h => h
  | n+1, r, h => by
    unfold turnN
    split
    · exact turnN_len n _ (putR_len (takeR_len h) _)
    · exact h
set_option maxHeartbeats 8000000 in
theorem spec_RingTurn0 (r : RingD) (hL : r.cells_.length = 8) (n : Int) (w : World) :
    Calls Try.prog 24 #[.agg r.enc.toArray, .int .i64 n] w fun e w' => e = .returned (.tuple #[.agg (turnC14 r n).1.enc.toArray, .int .i64 (turnC14 r n).2]) ∧ Below w.heap.size w w' := by
  have HL0 := hid hL
  have hone := ring_one r
  have hl := ring_len hL
  have hl2 : r.enc.toArray.size = 10 := by rw [List.size_toArray, hl]
  have HE := hid (show r.enc = [] ++ r.cells_.flatMap encI ++ [.int .i64 r.from_, .int .i64 r.many_] from rfl)
  have HL := hid hL
  have HE8 := hid (show r.enc[8]? = some (.int .i64 r.from_) by rw [HE.out, List.nil_append, List.getElem?_append_right (by rw [ints_len]; omega), ints_len, hL]; rfl)
  have HE9 := hid (show r.enc[9]? = some (.int .i64 r.many_) by rw [HE.out, List.nil_append, List.getElem?_append_right (by rw [ints_len]; omega), ints_len, hL]; rfl)
  have HOK0 := hid (fun (W : World) => spec_RingOk0 r hL W)
  generalize hce : r.enc = ce at *
  obtain ⟨W1, hW1⟩ : ∃ X, (w.alloc (.cells ce.toArray 26)).alloc (.cells #[.int .i64 0, .int .i64 0, .int .i64 0, .int .i64 0, .int .i64 0, .int .i64 0, .int .i64 0, .int .i64 0, .int .i64 0, .int .i64 0] 26) = X := ⟨_, rfl⟩
  have hB1 : Below w.heap.size w W1 := by rw [← hW1]; exact ((Below.refl _ _).alloc (Nat.le_refl _) _).alloc (by simp) _
  have B1 := hid (show BoxF W1 w.heap.size ce by rw [← hW1]; exact (BoxF.alloc w ce.toArray 26).below ((Below.refl _ _).alloc (Nat.le_refl _) _))
  have R1 : Hid (BoxF W1 (w.heap.size + 1) [.int .i64 0, .int .i64 0, .int .i64 0, .int .i64 0, .int .i64 0, .int .i64 0, .int .i64 0, .int .i64 0, .int .i64 0, .int .i64 0]) := by
    rw [← hW1]
    have z := BoxF.alloc (w.alloc (.cells ce.toArray 26)) #[.int .i64 0, .int .i64 0, .int .i64 0, .int .i64 0, .int .i64 0, .int .i64 0, .int .i64 0, .int .i64 0, .int .i64 0, .int .i64 0] 26
    rw [show (w.alloc (.cells ce.toArray 26)).heap.size = w.heap.size + 1 by simp] at z
    exact hid z
  have HB1 := hid hB1
  have HCE := hid hce
  have HW1 := hid hW1
  have HOK := hid (HOK0.out W1)
  have hz : ∀ w : World, (zeroValue 26).run Try.prog w = .ok (.agg #[.int .i64 0, .int .i64 0, .int .i64 0, .int .i64 0, .int .i64 0, .int .i64 0, .int .i64 0, .int .i64 0, .int .i64 0, .int .i64 0]) w := fun w => zero_run w (by kernel_rfl)
  clear hL hB1 hce hW1
  cases hok : ringOk r with
  | false =>
    have Hr := hid (show turnC14 r n = (r, 1) by simp [turnC14, hok])
    go_enter Try.func24, Try.ntmps24
    go_upto_region 1 with fail
    rw [HW1.out]
    go_wp2_with (first | (refine wpList_load_box rfl 26 _ rfl w.heap.size ce (by exact B1.out.1) rfl _ Try.underlying26 rfl (by rw [hl]; kernel_rfl) ?_) | (refine wpList_load_box rfl 26 _ rfl w.heap.size ce (by exact B2.out.1) rfl _ Try.underlying26 rfl (by rw [hl]; kernel_rfl) ?_) | (refine wpList_store_box rfl 26 _ _ rfl (w.heap.size + 1) [.int .i64 0, .int .i64 0, .int .i64 0, .int .i64 0, .int .i64 0, .int .i64 0, .int .i64 0, .int .i64 0, .int .i64 0, .int .i64 0] ce R2.out rfl rfl (by rw [hl]; rfl) (by rw [hl]; kernel_rfl) hone ?_) | (go_at_call 9; refine HOK.out.mono ?_; rintro e w2 ⟨rfl, b2⟩; rw [hok]; have B2 := hid (B1.out.below b2); have R2 := hid (R1.out.below b2); have HB2 := hid (HB1.out.trans (b2.mono HB1.out.size)); skip; clear b2))
    intro w9 o9 C9
    have O9 := hid o9
    have HB9 := hid (below_chg HB2.out C9 HB2.out.size (fun b hb => by omega))
    clear o9 C9
    go_wp2
    exact bodyPost_ret (results_box2 rfl _ _ (w.heap.size + 1) ce rfl O9.out _ Try.underlying26 rfl (by rw [hl]; kernel_rfl)) rfl ⟨by rw [Hr.out, HCE.out]; rfl, HB9.out⟩
  | true =>
  cases hn : inB n 0 1000 with
  | false =>
    have Hr := hid (show turnC14 r n = (r, 1) by simp [turnC14, hn])
    go_enter Try.func24, Try.ntmps24
    go_upto_region 1 with fail
    rw [HW1.out]
    go_wp2_with (first | (refine wpList_load_box rfl 26 _ rfl w.heap.size ce (by exact B1.out.1) rfl _ Try.underlying26 rfl (by rw [hl]; kernel_rfl) ?_) | (refine wpList_load_box rfl 26 _ rfl w.heap.size ce (by exact B2.out.1) rfl _ Try.underlying26 rfl (by rw [hl]; kernel_rfl) ?_) | (refine wpList_store_box rfl 26 _ _ rfl (w.heap.size + 1) [.int .i64 0, .int .i64 0, .int .i64 0, .int .i64 0, .int .i64 0, .int .i64 0, .int .i64 0, .int .i64 0, .int .i64 0, .int .i64 0] ce R2.out rfl rfl (by rw [hl]; rfl) (by rw [hl]; kernel_rfl) hone ?_) | (go_at_call 9; refine HOK.out.mono ?_; rintro e w2 ⟨rfl, b2⟩; rw [hok]; have B2 := hid (B1.out.below b2); have R2 := hid (R1.out.below b2); have HB2 := hid (HB1.out.trans (b2.mono HB1.out.size)); skip; clear b2) | (go_at_call 26; refine (spec_l1InIs _ _ _ _ _ (by assumption)).mono ?_; rintro e w' ⟨rfl, rfl⟩))
    intro w9 o9 C9
    have O9 := hid o9
    have HB9 := hid (below_chg HB2.out C9 HB2.out.size (fun b hb => by omega))
    clear o9 C9
    go_wp2
    exact bodyPost_ret (results_box2 rfl _ _ (w.heap.size + 1) ce rfl O9.out _ Try.underlying26 rfl (by rw [hl]; kernel_rfl)) rfl ⟨by rw [Hr.out, HCE.out]; rfl, HB9.out⟩
  | true =>
    have hnb : 0 ≤ n ∧ n ≤ 1000 := by simpa [inB] using hn
    obtain ⟨N, hN⟩ : ∃ N : Nat, n = (N : Int) := ⟨n.toNat, by omega⟩
    subst hN
    have hNb : N ≤ 1000 := by omega
    have Hr := hid (show turnC14 r N = (turnN N r, 0) by unfold turnC14; rw [hok, hn, if_pos (show (true && true) = true from rfl), Int.toNat_natCast])
    go_enter Try.func24, Try.ntmps24
    go_upto_region 1 with fail
    rw [HW1.out]
    go_wp2_with (first | (go_at_call 9; refine HOK.out.mono ?_; rintro e w2 ⟨rfl, b2⟩; rw [hok]; have B2 := hid (B1.out.below b2); have R2 := hid (R1.out.below b2); have HB2 := hid (HB1.out.trans (b2.mono HB1.out.size)); skip; clear b2) | (go_at_call 26; refine (spec_l1InIs _ _ _ _ _ (by assumption)).mono ?_; rintro e w' ⟨rfl, rfl⟩) | (refine wpList_load_box rfl 26 _ rfl w.heap.size ce (by exact B1.out.1) rfl _ Try.underlying26 rfl (by rw [hl]; kernel_rfl) ?_))
    have B3 := hid (show BoxF w2 w.heap.size r.enc by rw [HCE.out]; exact B2.out)
    have HOKR := hid hok
    clear hn hnb hok hl2
    go_loopw [6] (fun i wr => ∃ (j : Nat) (q : RingD), j ≤ N ∧ i = .int .i64 j ∧ Hid (q.cells_.length = 8) ∧ Hid (ringOk q = true) ∧ Hid (turnN (N - j) q = turnN N r) ∧ Hid (BoxF wr w.heap.size q.enc) ∧ Hid (BoxF wr (w.heap.size + 1) [.int .i64 0, .int .i64 0, .int .i64 0, .int .i64 0, .int .i64 0, .int .i64 0, .int .i64 0, .int .i64 0, .int .i64 0, .int .i64 0]) ∧ Hid (Below w.heap.size w wr)) (fun i _ => N - (intOf i).toNat)
    case atStart => exact ⟨0, r, by omega, rfl, HL0, HOKR, hid rfl, B3, R2, HB2⟩
    case round =>
      obtain ⟨j, q, hj, rfl, HQL, HQO, HQT, BQ, RQ, HBQ⟩ := hrel
      have hql := ring_len HQL.out
      have k9 : wr.cell? ⟨w.heap.size, 9, none⟩ = some (.int .i64 q.many_) := (BQ.out.1.2 9 (by omega)).trans (by unfold RingD.enc; rw [List.getElem?_append_right (by rw [ints_len, HQL.out]; omega), ints_len, HQL.out]; rfl)
      have hqone := ring_one q
      clear B1 R1 B2 R2 HB1 HB2 B3 HOK HOK0
      by_cases hjN : j < N
      · have hjN2 : (j : Int) < (N : Int) := by omega
        by_cases hm : 0 < q.many_
        · have hm0 : q.many_ ≠ 0 := by omega
          have hm1 : q.many_ ≤ 8 := ((ringOk_iff q).1 HQO.out).2.1.2
          have HTO := hid (takeR_ok HQO.out HQL.out hm0)
          have HTL := hid (takeR_len HQL.out)
          have HTK := hid (fun (W : World) => spec_RingTake0 q HQL.out W)
          have hxv := take_val HQO.out hm0
          rw [takeC_ok HQO.out hm0] at HTK
          have HQT2 := HQT.out
          rw [show N - j = (N - (j+1)) + 1 by omega, turnN, if_pos hm] at HQT2
          obtain ⟨x, hx⟩ : ∃ x, rAt q.cells_ (idx8 q.from_ 0) = x := ⟨_, rfl⟩
          rw [hx] at HTK hxv HQT2
          have htm : (takeR q).many_ ≠ 8 := by show q.many_ - 1 ≠ 8; omega
          have HPT := hid (fun (W : World) => spec_RingPut0 (takeR q) HTL.out x W)
          rw [ringPutC_ok HTO.out htm hxv] at HPT
          have HPO := hid (putR_ok HTO.out HTL.out htm hxv)
          have HPL := hid (putR_len HTL.out x)
          have htl := ring_len HTL.out
          have htone := ring_one (takeR q)
          have hpl := ring_len HPL.out
          have hpone := ring_one (putR (takeR q) x)
          have HQT3 := hid HQT2
          obtain ⟨cp, hcp⟩ : ∃ Y, (putR (takeR q) x).enc = Y := ⟨_, rfl⟩
          obtain ⟨ct, hct⟩ : ∃ Y, (takeR q).enc = Y := ⟨_, rfl⟩
          obtain ⟨cq, hcq⟩ : ∃ Y, q.enc = Y := ⟨_, rfl⟩
          rw [hct] at HTK HPT htl htone
          rw [hcp] at HPT hpl hpone
          rw [hcq] at HTK BQ hql hqone
          dsimp only at HTK HPT
          have HCP := hid hcp
          have hq2 : cq.toArray.size = 10 := by rw [List.size_toArray, hql]
          have ht2 : ct.toArray.size = 10 := by rw [List.size_toArray, htl]
          have hp2 : cp.toArray.size = 10 := by rw [List.size_toArray, hpl]
          clear hcp hct hcq HQT2 hx hxv htm hm0 hm1
          go_wp2_with (first | (refine wpList_load_box rfl 26 _ rfl w.heap.size cq (by exact BQ.out.1) rfl _ Try.underlying26 rfl (by rw [hql]; kernel_rfl) ?_) | (go_at_call 15; refine (HTK.out _).mono ?_; rintro e w3 ⟨rfl, b3⟩; have B3 := hid (BQ.out.below b3); have R3 := hid (RQ.out.below b3); have HB3 := hid (HBQ.out.trans (b3.mono HBQ.out.size)); clear b3) | (refine wpList_store_box rfl 26 _ _ rfl _ [.int .i64 0, .int .i64 0, .int .i64 0, .int .i64 0, .int .i64 0, .int .i64 0, .int .i64 0, .int .i64 0, .int .i64 0, .int .i64 0] ct (BoxF.alloc _ #[.int .i64 0, .int .i64 0, .int .i64 0, .int .i64 0, .int .i64 0, .int .i64 0, .int .i64 0, .int .i64 0, .int .i64 0, .int .i64 0] _) rfl rfl (by rw [htl]; rfl) (by rw [htl]; kernel_rfl) htone ?_))
          intro w4 o4 C4
          have hlt := B3.out.1.1
          have hlt2 := R3.out.1.1
          have hba : Below w3.heap.size w3 (w3.alloc (.cells #[.int .i64 0, .int .i64 0, .int .i64 0, .int .i64 0, .int .i64 0, .int .i64 0, .int .i64 0, .int .i64 0, .int .i64 0, .int .i64 0] 26)) := (Below.refl _ _).alloc (Nat.le_refl _) _
          have B4 := hid ((B3.out.below hba).chg C4 (by omega))
          have R4 := hid ((R3.out.below hba).chg C4 (by omega))
          have HB4 := hid (below_chg (HB3.out.trans (hba.mono HB3.out.size)) C4 (by simp; omega) (fun b hb => by omega))
          have T4 := hid o4
          have HT4 := hid (show w3.heap.size ≠ w.heap.size ∧ w3.heap.size ≠ w.heap.size + 1 ∧ w.heap.size ≤ w3.heap.size by omega)
          clear o4 C4 hba hlt hlt2 k9
          go_wp2_with (first | (refine wpList_load_box rfl 26 _ rfl _ ct (by exact T4.out.1) rfl _ Try.underlying26 rfl (by rw [htl]; kernel_rfl) ?_) | (go_at_call 12; refine (HPT.out _).mono ?_; rintro e w5 ⟨rfl, b5⟩; have B5 := hid (B4.out.below b5); have R5 := hid (R4.out.below b5); have HB5 := hid (HB4.out.trans (b5.mono HB4.out.size)); clear b5) | (refine wpList_store_box rfl 26 _ _ rfl w.heap.size cq cp B5.out rfl rfl (by rw [hql, hpl]) (by rw [hpl]; kernel_rfl) hpone ?_))
          intro w6 o6 C6
          have B6 := hid (show BoxF w6 w.heap.size (putR (takeR q) x).enc by rw [HCP.out]; exact o6)
          have R6 := hid (R5.out.chg C6 (by omega))
          have HB6 := hid (below_chg HB5.out C6 HB5.out.size (fun b hb => by omega))
          clear o6 C6
          go_wp2
          go_roundw
          case rel => exact ⟨j+1, _, by omega, by go_num, HPL, HPO, HQT3, B6, R6, HB6⟩
          case measure => simp [intOf]; omega
        · have HX := hid (show turnN N r = q by rw [← HQT.out]; exact turnN_0 _ _ hm)
          obtain ⟨cq, hcq⟩ : ∃ Y, q.enc = Y := ⟨_, rfl⟩
          rw [hcq] at BQ hql hqone
          have HCQ := hid hcq
          have hq2 : cq.toArray.size = 10 := by rw [List.size_toArray, hql]
          clear hcq
          go_wp2_with (first | (refine wpList_load_box rfl 26 _ rfl w.heap.size cq (by exact BQ.out.1) rfl _ Try.underlying26 rfl (by rw [hql]; kernel_rfl) ?_) | (refine wpList_store_box rfl 26 _ _ rfl (w.heap.size + 1) [.int .i64 0, .int .i64 0, .int .i64 0, .int .i64 0, .int .i64 0, .int .i64 0, .int .i64 0, .int .i64 0, .int .i64 0, .int .i64 0] cq RQ.out rfl rfl (by rw [hql]; rfl) (by rw [hql]; kernel_rfl) hqone ?_))
          intro w9 o9 C9
          have O9 := hid o9
          have HB9 := hid (below_chg HBQ.out C9 HBQ.out.size (fun b hb => by omega))
          clear o9 C9
          go_wp2
          exact bodyPost_ret (results_box2 rfl _ _ (w.heap.size + 1) cq rfl O9.out _ Try.underlying26 rfl (by rw [hql]; kernel_rfl)) rfl ⟨by rw [Hr.out, HX.out, HCQ.out]; rfl, HB9.out⟩
      · obtain rfl : j = N := by omega
        have HX := hid (show turnN j r = q by rw [← HQT.out, Nat.sub_self]; rfl)
        obtain ⟨cq, hcq⟩ : ∃ Y, q.enc = Y := ⟨_, rfl⟩
        rw [hcq] at BQ hql hqone
        have HCQ := hid hcq
        have hq2 : cq.toArray.size = 10 := by rw [List.size_toArray, hql]
        clear hcq
        go_wp2_with (first | (refine wpList_load_box rfl 26 _ rfl w.heap.size cq (by exact BQ.out.1) rfl _ Try.underlying26 rfl (by rw [hql]; kernel_rfl) ?_) | (refine wpList_store_box rfl 26 _ _ rfl (w.heap.size + 1) [.int .i64 0, .int .i64 0, .int .i64 0, .int .i64 0, .int .i64 0, .int .i64 0, .int .i64 0, .int .i64 0, .int .i64 0, .int .i64 0] cq RQ.out rfl rfl (by rw [hql]; rfl) (by rw [hql]; kernel_rfl) hqone ?_))
        intro w9 o9 C9
        have O9 := hid o9
        have HB9 := hid (below_chg HBQ.out C9 HBQ.out.size (fun b hb => by omega))
        clear o9 C9
        go_wp2
        exact bodyPost_ret (results_box2 rfl _ _ (w.heap.size + 1) cq rfl O9.out _ Try.underlying26 rfl (by rw [hql]; kernel_rfl)) rfl ⟨by rw [Hr.out, HX.out, HCQ.out]; rfl, HB9.out⟩
end Go.Proofs.Ytilbmclhnlkkmaa
