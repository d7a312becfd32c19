/- Chapter 14's model: RingOk. -/
import Derived.Test.YtilbmclhnlkkmaaC14
import Derived.Test.YtilbmclhnlkkmaaS0
namespace Go.Proofs.Ytilbmclhnlkkmaa
set_option maxRecDepth 100000
open Go.RowKit Go.Proofs Go.Own
open Go Go.BigFrame
set_option linter.unusedVariables false
set_option linter.unusedSimpArgs false
theorem spec_l1InIs (x a b : Int) (r : Bool) (w : World) (e : inB x a b = r) :
    Calls Try.prog 26 #[.int .i64 x, .int .i64 a, .int .i64 b] w fun e w' => e = .returned (.bool r) ∧ w = w' := by subst e; exact spec_l1In x a b w
theorem spec_l1ValueIs (x : Int) (r : Bool) (w : World) (e : isVal x = r) :
    Calls Try.prog 27 #[.int .i64 x] w fun e w' => e = .returned (.bool r) ∧ w = w' := by subst e; exact spec_l1Value x w
theorem rAt_eq {L : List Int} {p : Nat} (h : p < L.length) : rAt L p = L[p] := by unfold rAt; rw [List.getD_eq_getElem?_getD, List.getElem?_eq_getElem h]; rfl
theorem idx8_rem (F k : Nat) : ((F : Int) + (k : Int)).tmod 8 = ((idx8 (F : Int) k : Nat) : Int) := by
  unfold idx8
  rw [Int.toNat_natCast, show (F : Int) + (k : Int) = ((F + k : Nat) : Int) by omega]
  rfl
set_option maxHeartbeats 8000000 in
theorem spec_RingOk0 (r : RingD) (hL : r.cells_.length = 8) (w : World) :
    Calls Try.prog 9 #[.agg r.enc.toArray] w fun e w' => e = .returned (.bool (ringOk r)) ∧ Below w.heap.size w w' := by
  have hl := ring_len hL
  have hl2 : r.enc.toArray.size = 10 := by rw [List.size_toArray, hl]
  have HE := hid (show r.enc = [] ++ r.cells_.flatMap encI ++ [.int .i64 r.from_, .int .i64 r.many_] from rfl)
  have HL := hid hL
  have h8 : r.enc[8]? = some (.int .i64 r.from_) := by rw [HE.out, List.nil_append, List.getElem?_append_right (by rw [ints_len]; omega), ints_len, hL]; rfl
  have h9 : r.enc[9]? = some (.int .i64 r.many_) := by rw [HE.out, List.nil_append, List.getElem?_append_right (by rw [ints_len]; omega), ints_len, hL]; rfl
  generalize hce : r.enc = ce at *
  obtain ⟨L, f, m⟩ := r
  dsimp only at *
  obtain ⟨W1, hW1⟩ : ∃ X, w.alloc (.cells ce.toArray 26) = X := ⟨_, rfl⟩
  have hB1 : Below w.heap.size w W1 := by rw [← hW1]; exact (Below.refl _ _).alloc (Nat.le_refl _) _
  have b0 : BoxF W1 w.heap.size ce := by
    rw [← hW1]
    exact BoxF.alloc w ce.toArray 26
  have c8 : W1.cell? ⟨w.heap.size, 8, none⟩ = some (.int .i64 f) := (b0.1.2 8 (by omega)).trans h8
  have c9 : W1.cell? ⟨w.heap.size, 9, none⟩ = some (.int .i64 m) := (b0.1.2 9 (by omega)).trans h9
  have e8 : ce[8]'(by omega) = .int .i64 f := by rw [List.getElem?_eq_getElem (by omega)] at h8; exact Option.some.inj h8
  have e9 : ce[9]'(by omega) = .int .i64 m := by rw [List.getElem?_eq_getElem (by omega)] at h9; exact Option.some.inj h9
  have HR := hid (show ringOk ⟨L, f, m⟩ = (inB f 0 7 && inB m 0 8 && ringFrom L f m 8 0) from rfl)
  have B0 := hid b0
  have HB1 := hid hB1
  have HW1 := hid hW1
  clear b0 hB1 hce hL h8 h9
  cases hf : inB f 0 7 with
  | false =>
    go_enter Try.func9, Try.ntmps9
    go_wp2_with (first | (go_at_call 26; refine (spec_l1InIs _ _ _ _ _ (by assumption)).mono ?_; rintro e w' ⟨rfl, rfl⟩))
    go_ret
    exact ⟨by rw [HR.out, hf]; rfl, HB1.out⟩
  | true =>
  cases hm : inB m 0 8 with
  | false =>
    go_enter Try.func9, Try.ntmps9
    go_wp2_with (first | (go_at_call 26; refine (spec_l1InIs _ _ _ _ _ (by assumption)).mono ?_; rintro e w' ⟨rfl, rfl⟩))
    go_ret
    exact ⟨by rw [HR.out, hf, hm]; rfl, HB1.out⟩
  | true =>
    have hfb : 0 ≤ f ∧ f ≤ 7 := by simpa [inB] using hf
    have hmb : 0 ≤ m ∧ m ≤ 8 := by simpa [inB] using hm
    obtain ⟨F, rfl⟩ : ∃ F : Nat, f = (F : Int) := ⟨f.toNat, by omega⟩
    have HB := hid (show ringOk ⟨L, F, m⟩ = ringFrom L F m 8 0 by rw [HR.out, hf, hm]; rfl)
    clear HR
    go_enter Try.func9, Try.ntmps9
    go_wp2_with (first | (go_at_call 26; refine (spec_l1InIs _ _ _ _ _ (by assumption)).mono ?_; rintro e w' ⟨rfl, rfl⟩))
    try rw [HW1.out]
    clear hf hm e8 e9
    go_loopw [3] (fun i wr => ∃ k : Nat, k ≤ 8 ∧ i = .int .i64 k ∧ Hid (ringFrom L F m (8 - k) k = ringOk ⟨L, F, m⟩) ∧ wr = W1) (fun i _ => 8 - (intOf i).toNat)
    case atStart => exact ⟨0, by omega, rfl, hid HB.out.symm, rfl⟩
    case round =>
      obtain ⟨k, hk, rfl, HF, hwr⟩ := hrel
      subst hwr
      by_cases hlt : k < 8
      · have hkL : idx8 (F : Int) k < L.length := by rw [HL.out]; exact idx8_lt _ _
        have x0 : wr.cell? ⟨w.heap.size, idx8 (F : Int) k, none⟩ = some (.int .i64 (rAt L (idx8 (F : Int) k))) := by
          have z := int_at (A := []) (by rw [← HE.out]; exact B0.out) (idx8 (F : Int) k) hkL
          rw [rAt_eq hkL]
          simpa using z
        have hrem := idx8_rem F k
        have hil := idx8_lt (F : Int) k
        have hi0 : (0 : Int) ≤ ((idx8 (F : Int) k : Nat) : Int) := by omega
        have hi8 : ((idx8 (F : Int) k : Nat) : Int) < 8 := by omega
        have HF2 := HF.out
        rw [show 8 - k = (8 - (k+1)) + 1 by omega, ringFrom] at HF2
        have HC := hid (show ringCell L F m k = (match decide ((k : Int) < m) with | true => isVal (rAt L (idx8 (F : Int) k)) | false => rAt L (idx8 (F : Int) k) == 0) from rfl)
        obtain ⟨ix, hix⟩ : ∃ i, idx8 (F : Int) k = i := ⟨_, rfl⟩
        rw [hix] at x0 hrem hi0 hi8 HC hil
        obtain ⟨x, hx⟩ : ∃ x, rAt L ix = x := ⟨_, rfl⟩
        rw [hx] at x0 HC
        have HF3 := hid HF2
        clear HF HF2 hix hx hkL
        by_cases hkm : (k : Int) < m
        · cases hv : isVal x with
          | false =>
            have HN := hid (show ringOk ⟨L, F, m⟩ = false by rw [← HF3.out, HC.out, decide_eq_true hkm]; simp [hv])
            go_wp2_with (first | (go_at_call 27; refine (spec_l1ValueIs _ _ _ (by assumption)).mono ?_; rintro e w' ⟨rfl, rfl⟩))
            go_ret
            exact ⟨by rw [HN.out]; rfl, HB1.out⟩
          | true =>
            have HY := hid (show ringFrom L F m (8 - (k+1)) (k+1) = ringOk ⟨L, F, m⟩ by rw [← HF3.out, HC.out, decide_eq_true hkm]; simp [hv])
            go_wp2_with (first | (go_at_call 27; refine (spec_l1ValueIs _ _ _ (by assumption)).mono ?_; rintro e w' ⟨rfl, rfl⟩))
            go_roundw
            case rel => exact ⟨k+1, by omega, by go_num, HY, by trivial⟩
            case measure => simp [intOf]; omega
        · by_cases hx0 : x = 0
          · subst hx0
            have HY := hid (show ringFrom L F m (8 - (k+1)) (k+1) = ringOk ⟨L, F, m⟩ by rw [← HF3.out, HC.out, decide_eq_false hkm]; simp)
            go_wp2_with (first | (go_at_call 27; refine (spec_l1ValueIs _ _ _ (by assumption)).mono ?_; rintro e w' ⟨rfl, rfl⟩))
            go_roundw
            case rel => exact ⟨k+1, by omega, by go_num, HY, by trivial⟩
            case measure => simp [intOf]; omega
          · have HN := hid (show ringOk ⟨L, F, m⟩ = false by rw [← HF3.out, HC.out, decide_eq_false hkm]; simp [hx0])
            go_wp2_with (first | (go_at_call 27; refine (spec_l1ValueIs _ _ _ (by assumption)).mono ?_; rintro e w' ⟨rfl, rfl⟩))
            go_ret
            exact ⟨by rw [HN.out]; rfl, HB1.out⟩
      · obtain rfl : k = 8 := by omega
        have HY := hid (show ringOk ⟨L, F, m⟩ = true by rw [← HF.out]; rfl)
        clear HF
        go_wp2
        go_ret
        exact ⟨by rw [HY.out]; rfl, HB1.out⟩
end Go.Proofs.Ytilbmclhnlkkmaa
