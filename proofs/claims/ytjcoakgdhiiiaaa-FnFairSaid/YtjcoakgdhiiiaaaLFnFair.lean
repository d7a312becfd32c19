/- FnFair, walked (from impl_FairW, impl_Left5W, impl_WaysOfW). -/
import Derived.Test.YtjcoakgdhiiiaaaI5W
import Derived.Test.YtjcoakgdhiiiaaaFf
import Derived.Test.YtjcoakgdhiiiaaaDf
namespace Go.Proofs.Ytjcoakgdhiiiaaa
set_option maxRecDepth 100000
open Go.RowKit Go.Proofs Go.Own
set_option linter.unusedVariables false
set_option linter.unusedSimpArgs false
/-- The first window found below k, or -1. -/
def firstB (ys : List Int) (th w k : Nat) (F : Int) : Prop := (F = -1 ∧ ∀ a, a < k → ¬ noneIn ys th w a) ∨ ∃ a : Nat, a < k ∧ a < 200 ∧ a + w ≤ ys.length ∧ F = (a : Int) ∧ noneIn ys th w a ∧ ∀ b, b < a → ¬ noneIn ys th w b
theorem okW (ys : List Int) (th win : Int) (h : fairOk ys th win = true) : ys.length ≤ 1500 ∧ 1 ≤ th ∧ th ≤ 4 ∧ 1 ≤ win ∧ win ≤ 1500 := by
  unfold fairOk at h; simp [inB] at h; omega
theorem lit_two (w : World) (x y : Int) : Ints (w.alloc (.cells #[.int .i64 x, .int .i64 y] 3)) (.slice (some ⟨w.heap.size, 0, none⟩) 2 2) [x, y] := by
  have h := Flat.of_owns (owns_litN w 3 1 2 #[.int .i64 x, .int .i64 y] 0 (Nat.zero_le _) rfl (by decide))
  simpa [Ints, encI] using h
theorem ways_call {x y m : Nat} (hm : waysC [(x : Int), (y : Int)] = some m) (W : World) :
    Calls Try.prog 14 #[.slice (some ⟨W.heap.size, 0, none⟩) 2 2] (W.alloc (.cells #[.int .i64 x, .int .i64 y] 3)) fun e w' => e = .returned (.tuple #[.int .i64 (m : Int), .bool true]) ∧ Below W.heap.size W w' :=
  (impl_WaysOfW _ [(x : Int), (y : Int)] _ (lit_two W _ _) (by simp)).mono fun e w' ⟨he, hb⟩ => ⟨by rw [he, hm]; rfl, ((Below.refl _ W).alloc (Nat.le_refl _) _).trans (hb.mono (by simp))⟩
theorem ways_call2 (W : World) :
    Calls Try.prog 14 #[.slice (some ⟨W.heap.size, 0, none⟩) 2 2] (W.alloc (.cells #[.int .i64 2, .int .i64 2] 3)) fun e w' => e = .returned (.tuple #[.int .i64 6, .bool true]) ∧ Below W.heap.size W w' := ways_call (x := 2) (y := 2) ways_six W
theorem ways_bound {x y m : Nat} (hm : waysC [(x : Int), (y : Int)] = some m) : True := trivial
set_option maxHeartbeats 8000000 in
theorem law_FnFair (v : Value) (xs : List Int) (w : World) (h : Bytes w v xs) (hin : BytesIn xs) :
    Calls Try.prog 3 #[v] w fun e w' => e = .returned (.bool true) ∧ Below w.heap.size w w' := by
  have h0 := h
  obtain ⟨a, cap, rfl, hl, hm, _⟩ := h.open
  clear h
  by_cases big : (1048576 : Int) < (xs.length : Int)
  · have hd : decide ((1048576 : Int) < (xs.length : Int)) = true := decide_eq_true big
    go_enter Try.func3, Try.ntmps3
    go_wp2_with fail
    refine (law_big _ xs w h0).mono ?_
    rintro e w' ⟨rfl, rfl⟩
    rw [hd]
    go_wp2
    go_ret
    exact ⟨rfl, Below.refl _ _⟩
  have hd : decide ((1048576 : Int) < (xs.length : Int)) = false := decide_eq_false big
  have hx : xs.length ≤ 1048576 := by omega
  go_enter Try.func3, Try.ntmps3
  go_wp2_with fail
  refine (law_big _ xs w h0).mono ?_
  rintro e w' ⟨rfl, rfl⟩
  rw [hd]
  clear hd big
  go_wp2_with fail
  refine (spec_DrawFair w _ xs hx h0 hin).mono ?_
  rintro e w1 ⟨u, ys, th, win, rfl, hy, ith, iwin, o1, b1⟩
  have hF := Flat.of_owns o1
  obtain ⟨p, cp, rfl, hl2, hm2⟩ := hF.form
  clear o1
  go_wp2_with fail
  refine (impl_FairW _ ys th win w1 hF (by omega)).mono ?_
  rintro e w2 ⟨rfl, b2⟩
  have hF2 := Flat.below hF b2
  have e2 := b1.trans (b2.mono b1.size)
  go_wp2_with fail
  refine (spec_FairW _ ys th win w2 hF2 (by omega)).mono ?_
  rintro e w3 ⟨rfl, b3⟩
  have hF3 := Flat.below hF2 b3
  have e3 := e2.trans (b3.mono e2.size)
  clear hF hF2 b1 b2 b3 e2
  cases hok : fairOk ys th win with
  | false =>
    have hk : fairC ys th win = -2 := by unfold fairC; rw [hok]; rfl
    rw [hk]
    go_wp2
    go_ret
    exact ⟨rfl, e3⟩
  | true =>
    obtain ⟨k1, k2, k3, k4, k5⟩ := okW ys th win hok
    obtain ⟨tn, rfl⟩ := Int.eq_ofNat_of_zero_le (by omega : 0 ≤ th)
    obtain ⟨wn, rfl⟩ := Int.eq_ofNat_of_zero_le (by omega : 0 ≤ win)
    have hFirst := hid (fairC_first ys tn wn hok)
    obtain ⟨K, hK⟩ : ∃ K, fairC ys (tn : Int) (wn : Int) = K := ⟨_, rfl⟩
    rw [hK] at hFirst ⊢
    clear hK hok ith iwin
    have k1' : (ys.length : Int) ≤ 1500 := by omega
    have hL := hid (fun (W : World) (bW : Below w3.heap.size w3 W) (t : Nat) (f : Int) => impl_Left5W _ ys (t : Int) f W (Flat.below hF3 bW) (by omega))
    clear hF3
    go_wp2
    go_loopw [10, 11] (fun f i wr => ∃ (k : Nat) (F : Int), i = .int .i64 k ∧ f = .int .i64 F ∧ k ≤ 200 ∧ -1 ≤ F ∧ F ≤ 200 ∧ Hid (firstB ys tn wn k F) ∧ Below w3.heap.size w3 wr) (fun _ i _ => 200 - (intOf i).toNat)
    case atStart => exact ⟨0, -1, rfl, rfl, by omega, by omega, by omega, hid (.inl ⟨rfl, fun a ha => by omega⟩), Below.refl _ _⟩
    case round =>
      obtain ⟨k, F, rfl, rfl, hk2, hF0, hF2, hP, hB⟩ := hrel
      by_cases c1 : (k : Int) + (wn : Int) ≤ (ys.length : Int)
      · by_cases c2 : F < 0
        · by_cases c3 : (k : Int) < 200
          · obtain rfl : F = -1 := by omega
            go_wp2
            go_loopw [10, 12] (fun f i wr => ∃ (t : Nat) (F : Int), i = .int .i64 t ∧ f = .int .i64 F ∧ t ≤ tn ∧ Hid ((F = -1 ∧ ∀ u : Nat, u < t → ¬ countT (u : Int) (ys.drop k) = countT (u : Int) (ys.drop (k + wn))) ∨ (F = (k : Int) ∧ noneIn ys tn wn k)) ∧ Below w3.heap.size w3 wr) (fun _ i _ => tn - (intOf i).toNat)
            case atStart => exact ⟨0, -1, rfl, rfl, by omega, hid (.inl ⟨rfl, fun a ha => by omega⟩), hB⟩
            case round =>
              clear hB
              obtain ⟨t, F, rfl, rfl, ht, hQ, hB⟩ := hrel
              by_cases c4 : (t : Int) < (tn : Int)
              · have q1 := left_count ys t k (by omega)
                have q2 : leftC ys (t : Int) ((k : Int) + (wn : Int)) = (countT (t : Int) (ys.drop (k + wn)) : Nat) := by rw [← left_count ys t (k + wn) (by omega)]; rfl
                have Q1 := hid q1
                have Q2 := hid q2
                clear q1 q2
                go_wp2_with fail
                refine (hL.out wr hB t (k : Int)).mono ?_
                rintro e y1 ⟨rfl, d1⟩
                have B1 := hB.trans (d1.mono hB.size)
                rw [Q1.out]
                go_wp2_with fail
                refine (hL.out y1 B1 t ((k : Int) + (wn : Int))).mono ?_
                rintro e y2 ⟨rfl, d2⟩
                have B2 := B1.trans (d2.mono B1.size)
                rw [Q2.out]
                clear hB B1 d1 d2 Q1 Q2
                by_cases c5 : countT (t : Int) (ys.drop k) = countT (t : Int) (ys.drop (k + wn))
                · rw [← c5]
                  obtain ⟨A, hA⟩ : ∃ A : Nat, Hid (countT (t : Int) (ys.drop k) = A) := ⟨_, hid rfl⟩
                  rw [hA.out]
                  have C5 := hid c5
                  clear c5
                  go_wp2
                  go_roundw
                  case rel => exact ⟨t + 1, k, by go_num, rfl, by omega, hid (.inr ⟨rfl, t, by omega, C5.out⟩), B2⟩
                  case measure => simp [intOf]; omega
                · have c6 : (((countT (t : Int) (ys.drop k) : Nat) : Int) == ((countT (t : Int) (ys.drop (k + wn)) : Nat) : Int)) = false := beq_eq_false_iff_ne.mpr (by omega)
                  have C5 := hid c5
                  clear c5
                  go_wp2
                  go_roundw
                  case rel => exact ⟨t + 1, F, by go_num, rfl, by omega, hid (hQ.out.imp (fun ⟨hf, hu⟩ => ⟨hf, fun u hu1 => by
                    by_cases he : u = t
                    · rw [he]; exact C5.out
                    · exact hu u (by omega)⟩) id), B2⟩
                  case measure => simp [intOf]; omega
              · obtain rfl : t = tn := by omega
                have hp : ∀ a, a < k → ¬ noneIn ys t wn a := by
                  rcases hP.out with ⟨_, hh⟩ | ⟨a, _, _, _, e, _⟩
                  · exact hh
                  · omega
                have hN : Hid (firstB ys t wn (k + 1) F) := by
                  rcases hQ.out with ⟨hf, hu⟩ | ⟨hf, hn⟩
                  · refine hid (.inl ⟨hf, fun a ha => ?_⟩)
                    by_cases he : a = k
                    · rw [he]; exact fun ⟨u, u1, u2⟩ => hu u u1 u2
                    · exact hp a (by omega)
                  · exact hid (.inr ⟨k, by omega, by omega, by omega, hf, hn, fun b hb => hp b hb⟩)
                have hF9 : -1 ≤ F ∧ F ≤ 200 := by
                  rcases hQ.out with ⟨hf, _⟩ | ⟨hf, _⟩ <;> omega
                have hF8 := hF9.1
                have hF7 := hF9.2
                clear hF9
                go_wp2
                go_roundw
                case rel => exact ⟨k + 1, F, by go_num, rfl, by omega, hF8, hF7, hN, hB⟩
                case measure => simp [intOf]; omega
          · have c3' : ¬ (k : Int) < 200 := c3
            have hend : K = F ∨ (F < 0 ∧ 200 ≤ K) := by
              rcases hP.out with ⟨hf, hh⟩ | ⟨a, a1, a2, a3, hf, hn, hb⟩
              · rcases hFirst.out with ⟨hK, _⟩ | ⟨a, a3, hn, hK, _⟩
                · exact .inl (by omega)
                · by_cases ha : a < 200
                  · exact absurd hn (hh a (by omega))
                  · exact .inr ⟨by omega, by omega⟩
              · omega
            have bw := e3.trans (hB.mono e3.size)
            have hcode := Bytes.below h0 bw
            have hE := hid hend
            clear hend
            obtain ⟨x0, hx0⟩ : ∃ x : Nat, atF xs 0 % 9 = x := ⟨_, rfl⟩
            obtain ⟨x1, hx1⟩ : ∃ x : Nat, atF xs 1 % 9 = x := ⟨_, rfl⟩
            have y0 : ((atF xs 0 : Nat) : Int) % 9 = (x0 : Int) := by omega
            have y1 : ((atF xs 1 : Nat) : Int) % 9 = (x1 : Int) := by omega
            have sw := ways_swap x0 x1 (by omega) (by omega)
            obtain ⟨m, hm0⟩ := Option.isSome_iff_exists.1 sw.2
            have HM0 := hid hm0
            have HM1 := hid (sw.1.symm.trans hm0)
            have hm2 := ways_bound hm0
            clear hx0 hx1 hP hFirst sw hm0
            go_wp2_with fail
            refine (law_atF0 _ xs _ hcode hin hx).mono ?_
            rintro e _ ⟨rfl, rfl⟩
            go_wp2_with fail
            refine (law_atF1 _ xs _ hcode hin hx).mono ?_
            rintro e _ ⟨rfl, rfl⟩
            go_wp2_with fail
            refine (ways_call HM0.out _).mono ?_
            rintro e wa ⟨rfl, ba⟩
            have bwa := bw.trans (ba.mono bw.size)
            have hcode2 := Bytes.below h0 bwa
            clear hcode
            go_wp2_with fail
            refine (law_atF1 _ xs _ hcode2 hin hx).mono ?_
            rintro e _ ⟨rfl, rfl⟩
            go_wp2_with fail
            refine (law_atF0 _ xs _ hcode2 hin hx).mono ?_
            rintro e _ ⟨rfl, rfl⟩
            go_wp2_with fail
            refine (ways_call HM1.out _).mono ?_
            rintro e wb ⟨rfl, bb⟩
            have bwb := bwa.trans (bb.mono bwa.size)
            clear hcode2
            go_wp2_with fail
            refine (ways_call2 _).mono ?_
            rintro e wc ⟨rfl, bc⟩
            have bwc := bwb.trans (bc.mono bwb.size)
            clear HM0 HM1 hm2 y0 y1
            by_cases hKF : K = F
            · subst hKF
              go_wp2
              go_ret
              exact ⟨rfl, bwc⟩
            · obtain ⟨n1, n2⟩ : F < 0 ∧ 200 ≤ K := by
                rcases hE.out with e | e
                · exact absurd e hKF
                · exact e
              have n3 : (K == F) = false := beq_eq_false_iff_ne.mpr hKF
              go_wp2
              go_ret
              exact ⟨rfl, bwc⟩
        · have c2' : ¬ F < 0 := c2
          have hend : K = F ∨ (F < 0 ∧ 200 ≤ K) := by
            rcases hP.out with ⟨hf, hh⟩ | ⟨a, a1, a2, a3, hf, hn, hb⟩
            · omega
            · rcases hFirst.out with ⟨hK, hh⟩ | ⟨a', a3', hn', hK, hb'⟩
              · exact absurd hn (hh a a3)
              · have h1 : ¬ a < a' := fun hlt => hb' a hlt hn
                have h2 : ¬ a' < a := fun hlt => hb a' hlt hn'
                exact .inl (by omega)
          have bw := e3.trans (hB.mono e3.size)
          have hcode := Bytes.below h0 bw
          have hE := hid hend
          clear hend
          obtain ⟨x0, hx0⟩ : ∃ x : Nat, atF xs 0 % 9 = x := ⟨_, rfl⟩
          obtain ⟨x1, hx1⟩ : ∃ x : Nat, atF xs 1 % 9 = x := ⟨_, rfl⟩
          have y0 : ((atF xs 0 : Nat) : Int) % 9 = (x0 : Int) := by omega
          have y1 : ((atF xs 1 : Nat) : Int) % 9 = (x1 : Int) := by omega
          have sw := ways_swap x0 x1 (by omega) (by omega)
          obtain ⟨m, hm0⟩ := Option.isSome_iff_exists.1 sw.2
          have HM0 := hid hm0
          have HM1 := hid (sw.1.symm.trans hm0)
          have hm2 := ways_bound hm0
          clear hx0 hx1 hP hFirst sw hm0
          go_wp2_with fail
          refine (law_atF0 _ xs _ hcode hin hx).mono ?_
          rintro e _ ⟨rfl, rfl⟩
          go_wp2_with fail
          refine (law_atF1 _ xs _ hcode hin hx).mono ?_
          rintro e _ ⟨rfl, rfl⟩
          go_wp2_with fail
          refine (ways_call HM0.out _).mono ?_
          rintro e wa ⟨rfl, ba⟩
          have bwa := bw.trans (ba.mono bw.size)
          have hcode2 := Bytes.below h0 bwa
          clear hcode
          go_wp2_with fail
          refine (law_atF1 _ xs _ hcode2 hin hx).mono ?_
          rintro e _ ⟨rfl, rfl⟩
          go_wp2_with fail
          refine (law_atF0 _ xs _ hcode2 hin hx).mono ?_
          rintro e _ ⟨rfl, rfl⟩
          go_wp2_with fail
          refine (ways_call HM1.out _).mono ?_
          rintro e wb ⟨rfl, bb⟩
          have bwb := bwa.trans (bb.mono bwa.size)
          clear hcode2
          go_wp2_with fail
          refine (ways_call2 _).mono ?_
          rintro e wc ⟨rfl, bc⟩
          have bwc := bwb.trans (bc.mono bwb.size)
          clear HM0 HM1 hm2 y0 y1
          by_cases hKF : K = F
          · subst hKF
            go_wp2
            go_ret
            exact ⟨rfl, bwc⟩
          · obtain ⟨n1, n2⟩ : F < 0 ∧ 200 ≤ K := by
              rcases hE.out with e | e
              · exact absurd e hKF
              · exact e
            have n3 : (K == F) = false := beq_eq_false_iff_ne.mpr hKF
            go_wp2
            go_ret
            exact ⟨rfl, bwc⟩
      · have c1' : ¬ (k : Int) + (wn : Int) ≤ (ys.length : Int) := c1
        have hend : K = F ∨ (F < 0 ∧ 200 ≤ K) := by
          rcases hP.out with ⟨hf, hh⟩ | ⟨a, a1, a2, a3, hf, hn, hb⟩
          · rcases hFirst.out with ⟨hK, _⟩ | ⟨a, a3, hn, hK, _⟩
            · exact .inl (by omega)
            · exact absurd hn (hh a (by omega))
          · rcases hFirst.out with ⟨hK, hh⟩ | ⟨a', a3', hn', hK, hb'⟩
            · exact absurd hn (hh a a3)
            · have h1 : ¬ a < a' := fun hlt => hb' a hlt hn
              have h2 : ¬ a' < a := fun hlt => hb a' hlt hn'
              exact .inl (by omega)
        have bw := e3.trans (hB.mono e3.size)
        have hcode := Bytes.below h0 bw
        have hE := hid hend
        clear hend
        obtain ⟨x0, hx0⟩ : ∃ x : Nat, atF xs 0 % 9 = x := ⟨_, rfl⟩
        obtain ⟨x1, hx1⟩ : ∃ x : Nat, atF xs 1 % 9 = x := ⟨_, rfl⟩
        have y0 : ((atF xs 0 : Nat) : Int) % 9 = (x0 : Int) := by omega
        have y1 : ((atF xs 1 : Nat) : Int) % 9 = (x1 : Int) := by omega
        have sw := ways_swap x0 x1 (by omega) (by omega)
        obtain ⟨m, hm0⟩ := Option.isSome_iff_exists.1 sw.2
        have HM0 := hid hm0
        have HM1 := hid (sw.1.symm.trans hm0)
        have hm2 := ways_bound hm0
        clear hx0 hx1 hP hFirst sw hm0
        go_wp2_with fail
        refine (law_atF0 _ xs _ hcode hin hx).mono ?_
        rintro e _ ⟨rfl, rfl⟩
        go_wp2_with fail
        refine (law_atF1 _ xs _ hcode hin hx).mono ?_
        rintro e _ ⟨rfl, rfl⟩
        go_wp2_with fail
        refine (ways_call HM0.out _).mono ?_
        rintro e wa ⟨rfl, ba⟩
        have bwa := bw.trans (ba.mono bw.size)
        have hcode2 := Bytes.below h0 bwa
        clear hcode
        go_wp2_with fail
        refine (law_atF1 _ xs _ hcode2 hin hx).mono ?_
        rintro e _ ⟨rfl, rfl⟩
        go_wp2_with fail
        refine (law_atF0 _ xs _ hcode2 hin hx).mono ?_
        rintro e _ ⟨rfl, rfl⟩
        go_wp2_with fail
        refine (ways_call HM1.out _).mono ?_
        rintro e wb ⟨rfl, bb⟩
        have bwb := bwa.trans (bb.mono bwa.size)
        clear hcode2
        go_wp2_with fail
        refine (ways_call2 _).mono ?_
        rintro e wc ⟨rfl, bc⟩
        have bwc := bwb.trans (bc.mono bwb.size)
        clear HM0 HM1 hm2 y0 y1
        by_cases hKF : K = F
        · subst hKF
          go_wp2
          go_ret
          exact ⟨rfl, bwc⟩
        · obtain ⟨n1, n2⟩ : F < 0 ∧ 200 ≤ K := by
            rcases hE.out with e | e
            · exact absurd e hKF
            · exact e
          have n3 : (K == F) = false := beq_eq_false_iff_ne.mpr hKF
          go_wp2
          go_ret
          exact ⟨rfl, bwc⟩
end Go.Proofs.Ytjcoakgdhiiiaaa
