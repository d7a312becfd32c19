/- Chapter 16's program: the place of a value, SetOk, SetHas16, NewSet. -/
import Derived.Test.YtdgmbcmgjadoiaaS16g
import Derived.Test.YtdgmbcmgjadoiaaI15s
import Derived.Test.YtdgmbcmgjadoiaaShelf
namespace Go.Proofs.Ytdgmbcmgjadoiaa
set_option maxRecDepth 100000
open Go.RowKit Go.Proofs Go.Own
open Go Go.BigFrame
set_option linter.unusedVariables false
set_option linter.unusedSimpArgs false
theorem impl_bucketPlace (x : Int) (n : Nat) (hn : 0 < n) (hn8 : n ≤ 1048576) (w : World) :
    Calls Try.prog 55 #[.int .i64 x, .int .i64 (n : Nat)] w fun e w' => e = .returned (.int .i64 ((plc x n : Nat) : Int)) ∧ w = w' := by
  have hz : ((n : Int) == 0) = false := by rw [beq_eq_false_iff_ne]; omega
  have hr := hid (tmod_plc x hn)
  have ht := tmod_range x hn
  have h1 : IntKind.i64.wrap (x.tmod (n : Int)) = x.tmod n := by rw [IntKind.wrap_i64]; omega
  have h2 : IntKind.i64.wrap (x.tmod (n : Int) + n) = x.tmod n + n := by rw [IntKind.wrap_i64]; omega
  have hlt := plc_lt x hn
  have h3 : IntKind.i64.wrap ((x.tmod (n : Int) + n).tmod n) = (x.tmod (n : Int) + n).tmod n := by rw [hr.out, IntKind.wrap_i64]; omega
  go_enter Try.func55, Try.ntmps55
  go_wp2
  go_ret
  exact ⟨ret_int (by rw [← hr.out]; exact (Int.tmod_eq_emod_of_nonneg (by omega)).symm), rfl⟩
theorem impl_isBucketCount (n : Nat) (w : World) :
    Calls Try.prog 51 #[.int .i64 (n : Nat)] w fun e w' => e = .returned (.bool (cntOk n)) ∧ w = w' := by
  have h1 : ((n : Int) == 1) = (n == 1) := by rw [Bool.eq_iff_iff, beq_iff_eq, beq_iff_eq]; omega
  have h2 : ((n : Int) == 2) = (n == 2) := by rw [Bool.eq_iff_iff, beq_iff_eq, beq_iff_eq]; omega
  have h3 : ((n : Int) == 4) = (n == 4) := by rw [Bool.eq_iff_iff, beq_iff_eq, beq_iff_eq]; omega
  have h4 : ((n : Int) == 8) = (n == 8) := by rw [Bool.eq_iff_iff, beq_iff_eq, beq_iff_eq]; omega
  have Hc := hid (show cntOk n = ((n == 1) || (n == 2) || (n == 4) || (n == 8)) from rfl)
  generalize cntOk n = C at *
  generalize (n == 1) = b1 at *
  generalize (n == 2) = b2 at *
  generalize (n == 4) = b3 at *
  generalize (n == 8) = b4 at *
  cases b1 <;> cases b2 <;> cases b3 <;> cases b4
  all_goals
    go_enter Try.func51, Try.ntmps51
    go_wp2
    go_ret
    exact ⟨ret_bool Hc.out.symm, rfl⟩
theorem impl_isVal16 (x : Int) (r : Bool) (w : World) (e : isVal x = r) :
    Calls Try.prog 66 #[.int .i64 x] w fun e w' => e = .returned (.bool r) ∧ w = w' := by
  subst e
  go_enter Try.func66, Try.ntmps66
  go_wp2
  all_goals go_ret
  all_goals (simp [isVal, inB, *]; try omega)
theorem all_no {xs : List Int} {k : Nat} (h : k < xs.length) (hv : isVal xs[k] = false) : xs.all isVal = false := by
  rw [Bool.eq_false_iff]; intro h9
  rw [List.all_eq_true] at h9
  have := h9 _ (List.getElem_mem h)
  rw [hv] at this; cases this
theorem impl_allVal16 (v : Value) (xs : List Int) (w : World) (h : Ints w v xs) :
    Calls Try.prog 44 #[v] w fun e w' => e = .returned (.bool (xs.all isVal)) ∧ w = w' := by
  obtain ⟨ad, cap, rfl, hl, hm, hc⟩ := h.open
  have HC := hid hc
  have HNO := hid (fun k (hk : k < xs.length) hv => all_no (k := k) hk hv)
  have hlen : xs.length ≤ 9223372036854775807 := by omega
  have Hd := hid (show xs.all isVal = true ↔ ∀ j (hj : j < xs.length), isVal xs[j] = true from by
    rw [List.all_eq_true]
    exact ⟨fun h j hj => h _ (List.getElem_mem hj), fun h y hy => by obtain ⟨i, hi, rfl⟩ := List.getElem_of_mem hy; exact h i hi⟩)
  generalize xs.all isVal = R at *
  clear h hc
  go_enter Try.func44, Try.ntmps44
  go_wp2
  go_loopw [7] (fun i wr => ∃ k : Nat, k ≤ xs.length ∧ i = .int .i64 k ∧ Hid (∀ j (hj : j < xs.length), j < k → isVal xs[j] = true) ∧ Hid (wr = w)) (fun i _ => xs.length - (intOf i).toNat)
  case atStart => exact ⟨0, by omega, rfl, hid (fun j h h2 => by omega), hid rfl⟩
  case round =>
    obtain ⟨k, hk, rfl, HK, HW⟩ := hrel
    obtain rfl := HW.out
    by_cases hlt : k < xs.length
    · obtain ⟨bb, off, rfl, hbs, hcell⟩ := HC.out k hlt
      have HN1 := hid (fun hv => HNO.out k hlt hv)
      have HY1 := hid (fun (hv : isVal xs[k] = true) j (hj : j < xs.length) (hjk : j < k + 1) => (show isVal xs[j] = true from by
        by_cases e : j = k
        · subst e; exact hv
        · exact HK.out j hj (by omega)))
      obtain ⟨x, hx⟩ : ∃ x, xs[k] = x := ⟨_, rfl⟩
      rw [hx] at hcell HN1 HY1
      obtain ⟨r, hr⟩ : ∃ r, isVal x = r := ⟨_, rfl⟩
      have HV := hid (fun w => impl_isVal16 x r w hr)
      have HRr := hid hr
      clear HC HK HNO hx hr
      go_wp2_with fail
      refine (HV.out _).mono ?_
      rintro e w2 ⟨rfl, rfl⟩
      cases r with
      | true =>
        have Hz := hid (HY1.out HRr.out)
        go_wp2
        go_roundw
        case rel => exact ⟨k+1, by omega, by go_num, Hz, hid (by first | rfl | trivial)⟩
        case measure => simp [intOf]; omega
      | false =>
        have Hx := hid (HN1.out HRr.out)
        go_wp2
        go_ret
        exact ⟨ret_bool Hx.out.symm, rfl⟩
    · obtain rfl : k = xs.length := by omega
      have Hx := hid (Hd.out.2 fun j hj => HK.out j hj hj)
      clear HC HK HNO
      go_wp2
      go_ret
      exact ⟨ret_bool Hx.out.symm, rfl⟩
theorem bkt_len {n b : Nat} {xs : List Int} (h : (xs.length : Int) > 3) : bktOk n b xs = false := by
  rw [Bool.eq_false_iff]; intro h9; have := (bktOk_iff.1 h9).1; omega
theorem bkt_all {n b : Nat} {xs : List Int} (h : xs.all isVal = false) : bktOk n b xs = false := by
  rw [Bool.eq_false_iff]; intro h9
  have h8 := (bktOk_iff.1 h9).2
  rw [← Bool.not_eq_true, List.all_eq_true] at h
  exact h fun y hy => by obtain ⟨i, hi, rfl⟩ := List.getElem_of_mem hy; exact (h8 i hi hi).1
theorem bkt_asc {n b : Nat} {xs : List Int} (h : ascI xs = false) : bktOk n b xs = false := by
  unfold bktOk; rw [h, Bool.and_false]
theorem bkt_plc {n b : Nat} {xs : List Int} {k : Nat} (hk : k < xs.length) (h : ¬ plc xs[k] n = b) : bktOk n b xs = false := by
  rw [Bool.eq_false_iff]; intro h9; exact h ((bktOk_iff.1 h9).2 k hk hk).2.1
theorem bkt_yes {n b : Nat} {xs : List Int} (h1 : ¬ (xs.length : Int) > 3) (h2 : xs.all isVal = true) (h3 : ascI xs = true) (h4 : ∀ j (hj : j < xs.length), plc xs[j] n = b) : bktOk n b xs = true := by
  unfold bktOk
  rw [h3, Bool.and_true, Bool.and_eq_true, decide_eq_true_eq, List.all_eq_true]
  refine ⟨by omega, fun y hy => ?_⟩
  rw [List.all_eq_true] at h2
  obtain ⟨i, hi, rfl⟩ := List.getElem_of_mem hy
  rw [h2 _ hy, h4 i hi]; simp
set_option maxHeartbeats 8000000 in
theorem impl_bucketOk (xs : List Int) (v : Value) (b n : Nat) (hn : 0 < n) (hn8 : n ≤ 1048576) (w : World) (h : Ints w v xs) :
    Calls Try.prog 52 #[v, .int .i64 (b : Nat), .int .i64 (n : Nat)] w fun e w' => e = .returned (.bool (bktOk n b xs)) ∧ Below w.heap.size w w' := by
  have HAV := hid (fun w (h : Ints w v xs) => impl_allVal16 v xs w h)
  have HAS := hid (fun w (h : Ints w v xs) => impl_isAscending0 v xs w h)
  have HI := hid h
  have H1 := hid (fun h => bkt_len (n := n) (b := b) (xs := xs) h)
  have H2 := hid (fun h => bkt_all (n := n) (b := b) (xs := xs) h)
  have H3 := hid (fun h => bkt_asc (n := n) (b := b) (xs := xs) h)
  have H4 := hid (fun k hk h => bkt_plc (n := n) (b := b) (xs := xs) (k := k) hk h)
  have H5 := hid (fun h1 h2 h3 h4 => bkt_yes (n := n) (b := b) (xs := xs) h1 h2 h3 h4)
  obtain ⟨ad, cap, rfl, hl, hm, hc⟩ := h.open
  have HC := hid hc
  clear h hc
  have hlen : xs.length ≤ 9223372036854775807 := by omega
  have HB0 := hid (Below.refl w.heap.size w)
  generalize bktOk n b xs = R at *
  obtain ⟨ra, hra⟩ : ∃ r, xs.all isVal = r := ⟨_, rfl⟩
  obtain ⟨rs, hrs⟩ : ∃ r, ascI xs = r := ⟨_, rfl⟩
  rw [hra] at HAV H2 H5
  rw [hrs] at HAS H3 H5
  clear hra hrs
  go_enter Try.func52, Try.ntmps52
  by_cases h3 : (xs.length : Int) > 3
  · have Hx := hid (H1.out h3)
    clear H1 H2 H3 H4 H5 HC HAV HAS
    go_wp2
    go_ret
    exact ⟨ret_bool Hx.out.symm, HB0.out⟩
  have Hh3 := hid h3
  go_wp2_with fail
  refine (HAV.out _ HI.out).mono ?_
  rintro e w2 ⟨rfl, rfl⟩
  cases ra with
  | false =>
    have Hx := hid (H2.out rfl)
    clear H1 H2 H3 H4 H5 HC HAV HAS
    go_wp2
    go_ret
    exact ⟨ret_bool Hx.out.symm, HB0.out⟩
  | true =>
  go_wp2_with fail
  refine (HAS.out _ HI.out).mono ?_
  rintro e w2 ⟨rfl, b2⟩
  have HB2 := hid b2
  cases rs with
  | false =>
    have Hx := hid (H3.out rfl)
    clear H1 H2 H3 H4 H5 HC HAV HAS
    go_wp2
    go_ret
    exact ⟨ret_bool Hx.out.symm, HB2.out⟩
  | true =>
  have H6 := hid (fun h4 => H5.out Hh3.out (by first | rfl | trivial) (by first | rfl | trivial) h4)
  clear H1 H2 H3 H5 HAV HAS b2
  go_wp2
  go_loopw [24] (fun i wr => ∃ k : Nat, k ≤ xs.length ∧ i = .int .i64 k ∧ Hid (∀ j (hj : j < xs.length), j < k → plc xs[j] n = b) ∧ Hid (wr = w2)) (fun i _ => xs.length - (intOf i).toNat)
  case atStart => exact ⟨0, by omega, rfl, hid (fun j h h2 => by omega), hid rfl⟩
  case round =>
    obtain ⟨k, hk, rfl, HK, HW⟩ := hrel
    obtain rfl := HW.out
    by_cases hlt : k < xs.length
    · obtain ⟨bb, off, rfl, hbs, hcell⟩ := HC.out k hlt
      have q0 := (HB2.out.cell (p := ⟨bb, off + k, none⟩) hbs).trans hcell
      have HN1 := hid (fun hv => H4.out k hlt hv)
      have HY1 := hid (fun (hv : plc xs[k] n = b) j (hj : j < xs.length) (hjk : j < k + 1) => (show plc xs[j] n = b from by
        by_cases e : j = k
        · subst e; exact hv
        · exact HK.out j hj (by omega)))
      obtain ⟨x, hx⟩ : ∃ x, xs[k] = x := ⟨_, rfl⟩
      rw [hx] at q0 HN1 HY1
      have HPL := hid (fun w => impl_bucketPlace x n hn hn8 w)
      obtain ⟨p, hp⟩ : ∃ p, plc x n = p := ⟨_, rfl⟩
      rw [hp] at HPL HN1 HY1
      clear HC HK H4 hx hp hcell
      go_wp2_with fail
      refine (HPL.out _).mono ?_
      rintro e w3 ⟨rfl, rfl⟩
      by_cases hpb : p = b
      · have Hz := hid (HY1.out hpb)
        have hne : ((p : Int) != (b : Int)) = false := by simp [hpb]
        clear hpb
        go_wp2
        go_roundw
        case rel => exact ⟨k+1, by omega, by go_num, Hz, hid (by first | rfl | trivial)⟩
        case measure => simp [intOf]; omega
      · have Hx := hid (HN1.out hpb)
        have hne : ((p : Int) != (b : Int)) = true := by rw [bne_iff_ne]; omega
        clear hpb
        go_wp2
        go_ret
        exact ⟨ret_bool Hx.out.symm, HB2.out⟩
    · obtain rfl : k = xs.length := by omega
      have Hx := hid (H6.out fun j hj => HK.out j hj hj)
      clear HC HK H4
      go_wp2
      go_ret
      exact ⟨ret_bool Hx.out.symm, HB2.out⟩
set_option maxHeartbeats 8000000 in
theorem impl_SetOk0 (s : List RowD) (v : Value) (w : World) (h : rdsL w v s) :
    Calls Try.prog 20 #[v] w fun e w' => e = .returned (.bool (setOk s)) ∧ Below w.heap.size w w' := by
  obtain ⟨a, cap, rfl, hl9, hm9, hc⟩ := ss_open h
  have HC := hid hc
  clear hc h
  have HB0 := hid (Below.refl w.heap.size w)
  have Hno := hid (fun k (hk : k < s.length) (h9 : bktOk s.length k s[k].xs_ = false) => setOk_no hk h9)
  have Hiff := hid (setOk_iff (s := s))
  have HBC := hid (fun w => impl_isBucketCount s.length w)
  have HCN := hid (fun (h : cntOk s.length = true) => (show 0 < s.length ∧ s.length ≤ 1048576 by have := cntOk_iff.1 h; omega))
  generalize setOk s = R at *
  generalize cntOk s.length = C at *
  go_enter Try.func20, Try.ntmps20
  go_wp2_with fail
  refine (HBC.out _).mono ?_
  rintro e w2 ⟨rfl, rfl⟩
  cases C with
  | false =>
    have Hx := hid (show R = false by
      cases R with
      | false => rfl
      | true => exact absurd (Hiff.out.1 rfl).1 (by simp))
    clear Hno Hiff HC HBC HCN
    go_wp2
    go_ret
    exact ⟨ret_bool Hx.out.symm, HB0.out⟩
  | true =>
  obtain ⟨hn, hn8⟩ := HCN.out rfl
  clear HBC HCN
  go_wp2
  go_loopw [11] (fun b wr => ∃ k : Nat, k ≤ s.length ∧ b = .int .i64 k ∧ Hid (∀ j (h : j < s.length), j < k → bktOk s.length j s[j].xs_ = true) ∧ Below w.heap.size w wr) (fun b _ => s.length - (intOf b).toNat)
  case atStart => exact ⟨0, by omega, rfl, hid (fun j h h2 => by omega), HB0.out⟩
  case round =>
    obtain ⟨k, hk, rfl, HK, hB⟩ := hrel
    by_cases hlt : k < s.length
    · obtain ⟨bb, off, b2, c2, xs, hxs, rfl, hbs, c0, hI⟩ := HC.out k hlt
      have q0 := (hB.cell (p := ⟨bb, off + k, none⟩) hbs).trans c0
      have Hnk := hid (fun h9 => Hno.out k hlt (by rw [hxs]; exact h9))
      have HKn := hid (fun (h9 : bktOk s.length k xs = true) j (h : j < s.length) (hj : j < k + 1) => (show bktOk s.length j s[j].xs_ = true from by
        by_cases e : j = k
        · subst e; rw [hxs]; exact h9
        · exact HK.out j h (by omega)))
      have HBO := hid (fun w (h : Ints w (.slice b2 xs.length c2) xs) => impl_bucketOk xs _ k s.length hn hn8 w h)
      have HIw := hid (Ints.below hI hB)
      have HB := hid hB
      obtain ⟨r, hr⟩ : ∃ r, bktOk s.length k xs = r := ⟨_, rfl⟩
      rw [hr] at HBO Hnk HKn
      clear c0 hI HC HK Hno hxs hB hr
      go_wp2_with fail
      refine (HBO.out _ HIw.out).mono ?_
      rintro e w3 ⟨rfl, b3⟩
      have HB3 := hid (HB.out.trans (b3.mono HB.out.size))
      clear b3
      cases r with
      | true =>
        have Hz := hid (HKn.out rfl)
        go_wp2
        go_roundw
        case rel => exact ⟨k+1, by omega, by go_num, Hz, HB3.out⟩
        case measure => simp [intOf]; omega
      | false =>
        have Hx := hid (Hnk.out rfl)
        go_wp2
        go_ret
        exact ⟨ret_bool Hx.out.symm, HB3.out⟩
    · obtain rfl : k = s.length := by omega
      have Hx := hid (Hiff.out.2 ⟨by first | rfl | trivial, fun i hi => HK.out i hi hi⟩)
      clear HC HK Hno Hiff
      go_wp2
      go_ret
      exact ⟨ret_bool Hx.out.symm, hB⟩
theorem impl_SetOkIs (s : List RowD) (r : Bool) (v : Value) (w : World) (h : rdsL w v s) (e : setOk s = r) :
    Calls Try.prog 20 #[v] w fun e w' => e = .returned (.bool r) ∧ Below w.heap.size w w' := by
  rw [← e]; exact impl_SetOk0 s v w h
theorem impl_NewSet0 (w : World) : Calls Try.prog 23 #[] w fun e w' => ∃ u, e = .returned u ∧ ownL (Rg w.heap.size w'.heap.size) w' u [(⟨[]⟩ : RowD)] ∧ Below w.heap.size w w' := by
  have HN := hid (new_set w)
  have HB := hid (show Below w.heap.size w ((w.alloc (.cells #[] 3)).alloc (.cells #[.slice (some ⟨w.heap.size, 0, none⟩) 0 0] 22)) from ((Below.refl _ _).alloc (Nat.le_refl _) _).alloc (by simp) _)
  go_enter Try.func23, Try.ntmps23
  go_wp2
  go_ret
  exact ⟨_, rfl, HN.out, HB.out⟩
/-- slices.Contains at any list of numbers. -/
theorem impl_Contains (v : Value) (xs : List Int) (x : Int) (w : World) (h : Ints w v xs) :
    Calls Try.prog 54 #[v, .int .i64 x] w fun e w' => e = .returned (.bool (decide (x ∈ xs))) ∧ w = w' := by
  obtain ⟨ad, cap, rfl, hl, hm, hc⟩ := h.open
  have hd : xs.contains x = decide (x ∈ xs) := by rw [Bool.eq_iff_iff]; simp
  by_cases h0 : xs.length = 0
  · obtain rfl := List.eq_nil_of_length_eq_zero h0
    refine (Try.slices_Contains_int_empty ad cap x w).mono ?_
    rintro e w' ⟨rfl, rfl⟩
    exact ⟨by simp, rfl⟩
  · obtain ⟨b, off, rfl, hbs, _⟩ := hc 0 (by omega)
    refine (Try.slices_Contains_int b off xs.length cap xs x w (Nat.le_refl _) (by omega) (fun j hj => ?_)).mono ?_
    · obtain ⟨b', off', e, _, c⟩ := hc j hj
      obtain ⟨rfl, rfl⟩ : b = b' ∧ off = off' := by simpa using e
      rw [c, List.getD_eq_getElem?_getD, List.getElem?_eq_getElem hj]; rfl
    · rintro e w' ⟨rfl, rfl⟩
      exact ⟨by rw [List.take_length, hd], rfl⟩
set_option maxHeartbeats 8000000 in
theorem impl_SetHas0 (s : List RowD) (x : Int) (v : Value) (w : World) (h : rdsL w v s) :
    Calls Try.prog 27 #[v, .int .i64 x] w fun e w' => e = .returned (.bool (hasC s x)) ∧ Below w.heap.size w w' := by
  obtain ⟨r, hr⟩ : ∃ r, setOk s = r := ⟨_, rfl⟩
  have HOK := hid (impl_SetOkIs s r v w h hr)
  obtain ⟨a, cap, rfl, hl9, hm9, hc⟩ := ss_open h
  have HC := hid hc
  clear hc h
  cases r with
  | false =>
    have Hx := hid (show hasC s x = false by unfold hasC; rw [hr]; rfl)
    clear hr HC
    go_enter Try.func27, Try.ntmps27
    go_wp2_with fail
    refine HOK.out.mono ?_
    rintro e w2 ⟨rfl, b2⟩
    have HB2 := hid b2
    go_wp2
    go_ret
    exact ⟨ret_bool Hx.out.symm, HB2.out⟩
  | true =>
    have hn := setOk_pos hr
    have hn1 : s.length ≤ 1048576 := by omega
    have hp := plc_lt x hn.1
    have Hx := hid (show hasC s x = decide (x ∈ s[plc x s.length].xs_) by unfold hasC; rw [hr, bktAt_eq x hp]; rfl)
    obtain ⟨bb, off, b2, c2, xs, hxs, rfl, hbs, c0, hI⟩ := HC.out _ hp
    rw [hxs] at Hx
    have HPL := hid (fun w => impl_bucketPlace x s.length hn.1 hn1 w)
    generalize plc x s.length = p at *
    have hpi : (p : Int) < (s.length : Int) := by omega
    clear hr HC hxs
    go_enter Try.func27, Try.ntmps27
    go_wp2_with fail
    refine HOK.out.mono ?_
    rintro e w2 ⟨rfl, b2⟩
    have HB2 := hid b2
    have c2' := (b2.cell (p := ⟨bb, off + p, none⟩) hbs).trans c0
    have HI := hid (Ints.below hI b2)
    clear c0 hI b2
    go_wp2_with fail
    refine (HPL.out _).mono ?_
    rintro e w3 ⟨rfl, rfl⟩
    go_wp2_with fail
    refine (impl_Contains _ xs x _ HI.out).mono ?_
    rintro e w3 ⟨rfl, rfl⟩
    go_wp2
    go_ret
    exact ⟨ret_bool Hx.out.symm, HB2.out⟩
end Go.Proofs.Ytdgmbcmgjadoiaa
