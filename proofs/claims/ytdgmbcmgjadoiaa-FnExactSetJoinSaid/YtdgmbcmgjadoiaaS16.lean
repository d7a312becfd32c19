/- Chapter 16's model: the place of a value, SetOk, SetHas16. -/
import Derived.Test.YtdgmbcmgjadoiaaN16
import Derived.Test.YtdgmbcmgjadoiaaS0
import Derived.Test.YtdgmbcmgjadoiaaExt0
import Derived.Deep.Cut
namespace Go.Proofs.Ytdgmbcmgjadoiaa
set_option maxRecDepth 100000
open Go.RowKit Go.Proofs Go.Own
open Go Go.BigFrame
set_option linter.unusedVariables false
set_option linter.unusedSimpArgs false
theorem tmod_range (x : Int) {n : Nat} (h : 0 < n) : -(n : Int) < x.tmod n ∧ x.tmod n < n := by
  have h2 := Int.emod_nonneg x (b := (n : Int)) (by omega)
  have h3 := Int.emod_lt_of_pos x (b := (n : Int)) (by omega)
  rw [Int.tmod_eq_emod]
  split
  · omega
  · simp only [Int.natAbs_natCast]; rename_i h4; have : x % (n : Int) ≠ 0 := fun e => h4 (.inr (Int.dvd_of_emod_eq_zero e)); omega
theorem spec_l16Place (x : Int) (n : Nat) (hn : 0 < n) (hn8 : n ≤ 1048576) (w : World) :
    Calls Try.prog 50 #[.int .i64 x, .int .i64 (n : Nat)] w fun e w' => e = .returned (.int .i64 ((plc x n : Nat) : Int)) ∧ w = w' := by
  have hz : ((n : Int) == 0) = false := by rw [beq_eq_false_iff_ne]; omega
  have hr := hid (tmod_plc x hn)
  have ht := tmod_range x hn
  have h1 : IntKind.i64.wrap (x.tmod (n : Int)) = x.tmod n := by rw [IntKind.wrap_i64]; omega
  have h2 : IntKind.i64.wrap (x.tmod (n : Int) + n) = x.tmod n + n := by rw [IntKind.wrap_i64]; omega
  have hlt := plc_lt x hn
  have h3 : IntKind.i64.wrap ((x.tmod (n : Int) + n).tmod n) = (x.tmod (n : Int) + n).tmod n := by rw [hr.out, IntKind.wrap_i64]; omega
  go_enter Try.func50, Try.ntmps50
  go_wp2
  go_ret
  exact ⟨ret_int (by rw [← hr.out]; exact (Int.tmod_eq_emod_of_nonneg (by omega)).symm), rfl⟩
theorem spec_PlaceIs (x : Int) (n : Nat) (r : Int) (w : World) (hn : 0 < n ∧ n ≤ 1048576) (e : ((plc x n : Nat) : Int) = r) :
    Calls Try.prog 50 #[.int .i64 x, .int .i64 (n : Nat)] w fun e w' => e = .returned (.int .i64 r) ∧ w = w' := by
  rw [← e]; exact spec_l16Place x n hn.1 hn.2 w
theorem spec_l1ValueIs (x : Int) (r : Bool) (w : World) (e : isVal x = r) :
    Calls Try.prog 49 #[.int .i64 x] w fun e w' => e = .returned (.bool r) ∧ w = w' := by
  rw [← e]; exact spec_l1Value x w
/-- A set in memory, opened. -/
theorem ss_open {w : World} {v : Value} {s : List RowD} (h : rdsL w v s) : ∃ a cap, v = .slice a s.length cap ∧ s.length ≤ cap ∧ cap ≤ 9223372036854775807 ∧
    ∀ k, (hk : k < s.length) → ∃ bb off b2 c2 xs, s[k].xs_ = xs ∧ a = some ⟨bb, off, none⟩ ∧ bb < w.heap.size ∧ w.cell? ⟨bb, off + k, none⟩ = some (.slice b2 xs.length c2) ∧ Ints w (.slice b2 xs.length c2) xs := by
  obtain ⟨a, cap, e, hl, hm, hc⟩ := rowCell h
  refine ⟨a, cap, e, hl, hm, fun k hk => ?_⟩
  obtain ⟨bb, off, v0, ea, hbs, h0, c0⟩ := hc k hk
  obtain ⟨b2, c2, e2, _, _⟩ := rdsL_open h0
  exact ⟨bb, off, b2, c2, _, rfl, ea, hbs, by rw [c0, e2], by rw [← e2]; exact rdsInts.1 h0⟩
/-- A list of numbers in memory, opened: a form for slices that are written out. -/
theorem ints_open {w : World} {b2 : Option Addr} {n c2 : Nat} {xs : List Int} (h : Ints w (.slice b2 n c2) xs) : xs.length ≤ c2 ∧ c2 ≤ 9223372036854775807 ∧ ∀ k, (h : k < xs.length) → ∃ b off, b2 = some ⟨b, off, none⟩ ∧ b < w.heap.size ∧ w.cell? ⟨b, off + k, none⟩ = some (.int .i64 xs[k]) := by
  obtain ⟨b3, c3, e3, hl3, hm3, hci⟩ := h.open
  obtain ⟨rfl, rfl⟩ : b2 = b3 ∧ c2 = c3 := by simp only [Value.slice.injEq] at e3; exact ⟨e3.1, e3.2.2⟩
  exact ⟨hl3, hm3, hci⟩
/-- A bucket is well up to a place. -/
def bktUp (n b : Nat) (xs : List Int) (i : Nat) : Prop := ∀ j, j < i → (hj : j < xs.length) → isVal xs[j] = true ∧ plc xs[j] n = b ∧ (0 < j → xs[j-1]'(by omega) < xs[j])
theorem bktOk_iff {n b : Nat} {xs : List Int} : bktOk n b xs = true ↔ xs.length ≤ 3 ∧ bktUp n b xs xs.length := by
  unfold bktOk
  rw [Bool.and_eq_true, Bool.and_eq_true, decide_eq_true_eq, List.all_eq_true, ascI_all]
  constructor
  · rintro ⟨⟨h1, h2⟩, h3⟩
    refine ⟨h1, fun j hj hjl => ?_⟩
    have h4 := h2 _ (List.getElem_mem hjl)
    rw [Bool.and_eq_true, beq_iff_eq] at h4
    exact ⟨h4.1, h4.2, fun h0 => h3 j h0 hj hjl⟩
  · rintro ⟨h1, h2⟩
    refine ⟨⟨h1, fun x hx => ?_⟩, fun j h0 hj hjl => (h2 j hj hjl).2.2 h0⟩
    obtain ⟨i, hi, rfl⟩ := List.getElem_of_mem hx
    have := h2 i hi hi
    rw [Bool.and_eq_true, beq_iff_eq]
    exact ⟨this.1, this.2.1⟩
theorem bktUp_next {n b : Nat} {xs : List Int} {i : Nat} (h : bktUp n b xs i) (hi : i < xs.length) (h1 : isVal xs[i] = true) (h2 : plc xs[i] n = b) (h3 : 0 < i → xs[i-1]'(by omega) < xs[i]) : bktUp n b xs (i+1) := fun j hj hjl => by
  by_cases e : j = i
  · subst e; exact ⟨h1, h2, h3⟩
  · exact h j (by omega) hjl
theorem setOk_no {s : List RowD} {k : Nat} (hk : k < s.length) (h : bktOk s.length k s[k].xs_ = false) : setOk s = false := by
  rw [Bool.eq_false_iff]; intro h9
  have := (setOk_iff.1 h9).2 k hk
  rw [h] at this; cases this
theorem bktOk_no {n b : Nat} {xs : List Int} (h : ¬ (xs.length ≤ 3 ∧ bktUp n b xs xs.length)) : bktOk n b xs = false := by
  rw [Bool.eq_false_iff]; intro h9; exact h (bktOk_iff.1 h9)
set_option maxHeartbeats 8000000 in
theorem spec_SetOk0 (s : List RowD) (v : Value) (w : World) (h : rdsL w v s) :
    Calls Try.prog 18 #[v] w fun e w' => e = .returned (.bool (setOk s)) ∧ Below w.heap.size w w' := by
  obtain ⟨a, cap, rfl, hl9, hm9, hc⟩ := ss_open h
  have HC := hid hc
  clear hc h
  have hB0 := Below.refl w.heap.size w
  have Hno := hid (fun k (hk : k < s.length) (h9 : bktOk s.length k s[k].xs_ = false) => setOk_no hk h9)
  have Hiff := hid (setOk_iff (s := s))
  by_cases hn : cntOk s.length = true
  · have Hn := hid hn
    have hn8 : 0 < s.length ∧ s.length ≤ 1048576 := by have := cntOk_iff.1 hn; omega
    have hcs := cntOk_iff.1 hn
    clear hn
    obtain ⟨g1, g2, g3, g4, hgg⟩ : ∃ g1 g2 g3 g4 : Bool, ((s.length : Int) != 1) = g1 ∧ ((s.length : Int) != 2) = g2 ∧ ((s.length : Int) != 4) = g3 ∧ ((s.length : Int) != 8) = g4 ∧ ((g1 = false) ∨ (g1 = true ∧ g2 = false) ∨ (g1 = true ∧ g2 = true ∧ g3 = false) ∨ (g1 = true ∧ g2 = true ∧ g3 = true ∧ g4 = false)) := by
      refine ⟨_, _, _, _, rfl, rfl, rfl, rfl, ?_⟩
      rcases hcs with e0 | e0 | e0 | e0 <;> simp [e0]
    obtain ⟨f1, f2, f3, f4, hgg⟩ := hgg
    clear hcs
    rcases hgg with rfl | ⟨rfl, rfl⟩ | ⟨rfl, rfl, rfl⟩ | ⟨rfl, rfl, rfl, rfl⟩
    all_goals
      go_enter Try.func18, Try.ntmps18
      go_wp2
      go_loopw [4] (fun b wr => ∃ k : Nat, k ≤ s.length ∧ b = .int .i64 k ∧ Hid (∀ j (h : j < s.length), j < k → bktOk s.length j s[j].xs_ = true) ∧ Below w.heap.size w wr) (fun b _ => s.length - (intOf b).toNat)
      case atStart => exact ⟨0, by omega, rfl, hid (fun j h h2 => by omega), hB0⟩
      case round =>
        obtain ⟨k, hk, rfl, HK, hB⟩ := hrel
        by_cases hlt : k < s.length
        · obtain ⟨bb, off, b2, c2, xs, hxs, rfl, hbs, c0, hI⟩ := HC.out k hlt
          obtain ⟨hl3, hm3, hci⟩ := ints_open hI
          have q0 := (hB.cell (p := ⟨bb, off + k, none⟩) hbs).trans c0
          have HCI := hid hci
          have Hnk := hid (fun h9 => Hno.out k hlt (by rw [hxs]; exact h9))
          have HB := hid hB
          have HKn := hid (fun (h9 : bktOk s.length k xs = true) j (h : j < s.length) (hj : j < k + 1) => (show bktOk s.length j s[j].xs_ = true from by
            by_cases e : j = k
            · subst e; rw [hxs]; exact h9
            · exact HK.out j h (by omega)))
          clear c0 hI hci HC HK Hno hxs hB
          by_cases h3 : (xs.length : Int) > 3
          · have Hx := hid (Hnk.out (bktOk_no (by omega)))
            go_wp2
            go_ret
            exact ⟨ret_bool Hx.out.symm, HB.out⟩
          · go_wp2
            go_loopw [5] (fun i wx => ∃ q : Nat, q ≤ xs.length ∧ i = .int .i64 q ∧ Hid (bktUp s.length k xs q) ∧ Below wr.heap.size wr wx) (fun i _ => xs.length - (intOf i).toNat)
            case atStart => exact ⟨0, by omega, rfl, hid (fun j h => by omega), Below.refl _ _⟩
            case round =>
              obtain ⟨q, hq, rfl, HU, hBx⟩ := hrel
              have q1 := (hBx.cell (p := ⟨bb, off + k, none⟩) (by show bb < _; have := HB.out.size; omega)).trans q0
              have HB2 := hid (HB.out.trans (hBx.mono HB.out.size))
              by_cases hql : q < xs.length
              · obtain ⟨b9, o9, rfl, hb9, c9⟩ := HCI.out q hql
                have r0 := (HB2.out.cell (p := ⟨b9, o9 + q, none⟩) hb9).trans c9
                have q1E := Ext.cell (W := wr) (b := bb) (by have := HB2.out.size; omega) q1
                have r0E := Ext.cell (W := wr) (b := b9) (by have := HB2.out.size; omega) r0
                have Hnx := hid (fun h1 h2 h3 => bktUp_next HU.out hql h1 h2 h3)
                have Hnu := hid (fun (h9 : ¬ (isVal xs[q] = true ∧ plc xs[q] s.length = k ∧ (0 < q → xs[q-1]'(by omega) < xs[q]))) => Hnk.out (bktOk_no (fun h8 => h9 (h8.2 q hql hql))))
                have Hpv : 0 < q → ∃ y, xs[q-1]'(by omega) = y ∧ ∀ E : Ext wr, E.w.cell? ⟨b9, o9 + (q-1), none⟩ = some (.int .i64 y) := fun h0 => by
                  obtain ⟨b8, o8, e8, hb8, c8⟩ := HCI.out (q-1) (by omega)
                  obtain ⟨rfl, rfl⟩ : b9 = b8 ∧ o9 = o8 := by simp only [Option.some.injEq, Addr.mk.injEq, and_true] at e8; exact e8
                  exact ⟨_, rfl, Ext.cell (by have := HB2.out.size; omega) ((HB2.out.cell (p := ⟨b9, o9 + (q-1), none⟩) hb8).trans c8)⟩
                obtain ⟨x, hx⟩ : ∃ x, xs[q] = x := ⟨_, rfl⟩
                obtain ⟨p, hp⟩ : ∃ p : Nat, plc x s.length = p := ⟨_, rfl⟩
                have hp2 : ((plc x s.length : Nat) : Int) = (p : Int) := by rw [hp]
                rw [hx] at r0E Hnx Hnu
                rw [hp] at Hnx Hnu
                clear HCI r0 hp
                go_upto_region 12 with fail
                cases hv : isVal x with
                | false =>
                  have Hy := hid (Hnu.out (by rw [hv]; simp))
                  clear Hnx Hnu Hpv
                  (refine wp_region_ext wr (Below.refl _ _) (by kernel_rfl) (by kernel_rfl) ?_; (repeat (go_big_quiet_step (first | (go_at_call 49; exact call_ext_same _ (spec_l1ValueIs _ _ _ hv)) | (go_at_call 50; exact call_ext_same _ (spec_PlaceIs _ _ _ _ hn8 hp2))))); refine wpQuiet_nil ?_; rintro _ ⟨E, rfl⟩)
                  go_wp2
                  go_ret
                  exact ⟨ret_bool Hy.out.symm, HB2.out.trans (E.h.mono HB2.out.size)⟩
                | true =>
                  by_cases hpk : p = k
                  · by_cases h0 : q = 0
                    · subst hpk
                      subst h0
                      have hb9 : ((p : Int) != (p : Int)) = false := by simp
                      have Hy := hid (Hnx.out hv rfl (fun h => by omega))
                      rw [Nat.add_zero] at r0E
                      clear Hnx Hnu Hpv
                      (refine wp_region_ext wr (Below.refl _ _) (by kernel_rfl) (by kernel_rfl) ?_; (repeat (go_big_quiet_step (first | (go_at_call 49; exact call_ext_same _ (spec_l1ValueIs _ _ _ hv)) | (go_at_call 50; exact call_ext_same _ (spec_PlaceIs _ _ _ _ hn8 hp2))))); refine wpQuiet_nil ?_; rintro _ ⟨E, rfl⟩)
                      go_wp2
                      go_roundw
                      case rel => exact ⟨1, by omega, rfl, Hy.out, hBx.trans (E.h.mono hBx.size)⟩
                      case measure => simp [intOf]; omega
                    · obtain ⟨y, hy, ry⟩ := Hpv (by omega)
                      rw [hy] at Hnx Hnu
                      subst hpk
                      have hb9 : ((p : Int) != (p : Int)) = false := by simp
                      obtain ⟨j, rfl⟩ : ∃ j, q = j + 1 := ⟨q - 1, by omega⟩
                      rw [Nat.add_sub_cancel] at ry
                      have hq0 : (j : Int) + 1 > 0 := by omega
                      have hq1 : (0 : Int) ≤ (j : Int) := by omega
                      have hq2 : (j : Int) < (xs.length : Int) := by omega
                      have hq3 : (j : Int) + 1 < (xs.length : Int) := by omega
                      have hix2 : ((j : Int) + 1).toNat = j + 1 := by omega
                      by_cases hlt2 : y < x
                      · have Hy := hid (Hnx.out hv rfl (fun h => hlt2))
                        have hge : ¬ y ≥ x := by omega
                        clear Hnx Hnu Hpv hy
                        (refine wp_region_ext wr (Below.refl _ _) (by kernel_rfl) (by kernel_rfl) ?_; (repeat (go_big_quiet_step (first | (go_at_call 49; exact call_ext_same _ (spec_l1ValueIs _ _ _ hv)) | (go_at_call 50; exact call_ext_same _ (spec_PlaceIs _ _ _ _ hn8 hp2))))); refine wpQuiet_nil ?_; rintro _ ⟨E, rfl⟩)
                        go_wp2
                        go_roundw
                        case rel => exact ⟨j+2, by omega, by go_num, Hy.out, hBx.trans (E.h.mono hBx.size)⟩
                        case measure => simp [intOf]; omega
                      · have Hy := hid (Hnu.out (by rintro ⟨_, _, h⟩; exact hlt2 (h (by omega))))
                        have hge : y ≥ x := by omega
                        clear Hnx Hnu Hpv hy
                        (refine wp_region_ext wr (Below.refl _ _) (by kernel_rfl) (by kernel_rfl) ?_; (repeat (go_big_quiet_step (first | (go_at_call 49; exact call_ext_same _ (spec_l1ValueIs _ _ _ hv)) | (go_at_call 50; exact call_ext_same _ (spec_PlaceIs _ _ _ _ hn8 hp2))))); refine wpQuiet_nil ?_; rintro _ ⟨E, rfl⟩)
                        go_wp2
                        go_ret
                        exact ⟨ret_bool Hy.out.symm, HB2.out.trans (E.h.mono HB2.out.size)⟩
                  · have hpk2 : ((p : Int) != (k : Int)) = true := by rw [bne_iff_ne]; omega
                    have Hy := hid (Hnu.out (by rintro ⟨_, h, _⟩; exact hpk h))
                    clear Hnx Hnu Hpv hpk
                    (refine wp_region_ext wr (Below.refl _ _) (by kernel_rfl) (by kernel_rfl) ?_; (repeat (go_big_quiet_step (first | (go_at_call 49; exact call_ext_same _ (spec_l1ValueIs _ _ _ hv)) | (go_at_call 50; exact call_ext_same _ (spec_PlaceIs _ _ _ _ hn8 hp2))))); refine wpQuiet_nil ?_; rintro _ ⟨E, rfl⟩)
                    go_wp2
                    go_ret
                    exact ⟨ret_bool Hy.out.symm, HB2.out.trans (E.h.mono HB2.out.size)⟩
              · obtain rfl : q = xs.length := by omega
                have Hx := hid (HKn.out (bktOk_iff.2 ⟨by omega, HU.out⟩))
                go_wp2
                go_roundw
                case rel => exact ⟨k+1, by omega, by go_num, Hx, HB2.out⟩
                case measure => simp [intOf]; omega
        · obtain rfl : k = s.length := by omega
          have Hx := hid (Hiff.out.2 ⟨Hn.out, fun i hi => HK.out i hi hi⟩)
          go_wp2
          go_ret
          exact ⟨ret_bool Hx.out.symm, hB⟩
  · have h1 : ¬ (s.length : Int) = 1 := fun e => hn (cntOk_iff.2 (by omega))
    have h2 : ¬ (s.length : Int) = 2 := fun e => hn (cntOk_iff.2 (by omega))
    have h3 : ¬ (s.length : Int) = 4 := fun e => hn (cntOk_iff.2 (by omega))
    have h4 : ¬ (s.length : Int) = 8 := fun e => hn (cntOk_iff.2 (by omega))
    have hx : setOk s = false := by rw [Bool.eq_false_iff]; intro h9; exact hn (setOk_iff.1 h9).1
    have Hx := hid hx
    have g1 : ((s.length : Int) != 1) = true := by rw [bne_iff_ne]; exact h1
    have g2 : ((s.length : Int) != 2) = true := by rw [bne_iff_ne]; exact h2
    have g3 : ((s.length : Int) != 4) = true := by rw [bne_iff_ne]; exact h3
    have g4 : ((s.length : Int) != 8) = true := by rw [bne_iff_ne]; exact h4
    clear hn Hno Hiff HC hx
    go_enter Try.func18, Try.ntmps18
    go_wp2
    go_ret
    exact ⟨ret_bool Hx.out.symm, hB0⟩
theorem spec_SetOkIs (s : List RowD) (r : Bool) (v : Value) (w : World) (h : rdsL w v s) (e : setOk s = r) :
    Calls Try.prog 18 #[v] w fun e w' => e = .returned (.bool r) ∧ Below w.heap.size w w' := by
  rw [← e]; exact spec_SetOk0 s v w h
theorem hasFrom_0 (xs : List Int) (x : Int) : hasFrom xs x 0 = decide (x ∈ xs) := rfl
set_option maxHeartbeats 8000000 in
theorem spec_SetHas0 (s : List RowD) (x : Int) (v : Value) (w : World) (h : rdsL w v s) :
    Calls Try.prog 26 #[v, .int .i64 x] w fun e w' => e = .returned (.bool (hasC s x)) ∧ Below w.heap.size w w' := by
  obtain ⟨r, hr⟩ : ∃ r, setOk s = r := ⟨_, rfl⟩
  have HOK := hid (spec_SetOkIs s r v w h hr)
  obtain ⟨a, cap, rfl, hl9, hm9, hc⟩ := ss_open h
  have HC := hid hc
  clear hc h
  cases r with
  | false =>
    have Hx := hid (show hasC s x = false by unfold hasC; rw [hr]; rfl)
    clear hr HC
    go_enter Try.func26, Try.ntmps26
    go_wp2_with fail
    refine HOK.out.mono ?_
    rintro e w2 ⟨rfl, b2⟩
    have HB2 := hid b2
    go_wp2
    go_ret
    exact ⟨ret_bool Hx.out.symm, HB2.out⟩
  | true =>
    have hn := setOk_pos hr
    have hn1 : s.length ≤ 1048576 := by omega
    have hp := plc_lt x hn.1
    have Hx := hid (show hasC s x = decide (x ∈ s[plc x s.length].xs_) by unfold hasC; rw [hr, bktAt_eq x hp]; rfl)
    obtain ⟨bb, off, b2, c2, xs, hxs, rfl, hbs, c0, hI⟩ := HC.out _ hp
    rw [hxs] at Hx
    have HPL := hid (fun w => spec_l16Place x s.length hn.1 hn1 w)
    generalize plc x s.length = p at *
    have hpi : (p : Int) < (s.length : Int) := by omega
    clear hr HC hxs
    go_enter Try.func26, Try.ntmps26
    go_wp2_with fail
    refine HOK.out.mono ?_
    rintro e w2 ⟨rfl, b2⟩
    have HB2 := hid b2
    have c2' := (b2.cell (p := ⟨bb, off + p, none⟩) hbs).trans c0
    have HI := hid (Ints.below hI b2)
    clear c0 hI b2
    go_wp2_with fail
    refine (HPL.out _).mono ?_
    rintro e w3 ⟨rfl, rfl⟩
    go_wp2_with fail
    refine (spec_l1Has _ xs x _ HI.out).mono ?_
    rintro e w3 ⟨rfl, rfl⟩
    rw [hasFrom_0]
    go_wp2
    go_ret
    exact ⟨ret_bool Hx.out.symm, HB2.out⟩
end Go.Proofs.Ytdgmbcmgjadoiaa
