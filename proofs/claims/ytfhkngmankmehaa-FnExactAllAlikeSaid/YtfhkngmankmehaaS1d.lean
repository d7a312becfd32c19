/- Chapter 1's model functions: two lists of ops. -/
import Derived.Test.YtfhkngmankmehaaF1c
import Derived.Test.YtfhkngmankmehaaS1b
namespace Go.Proofs.Ytfhkngmankmehaa
open Go.RowKit Go.Proofs Go.Own

theorem spec_AllAlike (v : Value) (xs : List Int) (u1 : Value) (a : List WordOp) (u2 : Value) (b : List WordOp) (w : World) (h : Ints w v xs) (hx : xs.length ≤ 1048576) (g1 : WordOps w u1 a) (hg1 : a.length ≤ 1048576) (g2 : WordOps w u2 b) (hg2 : b.length ≤ 1048576) :
    Calls Try.prog 32 #[v, u1, u2] w fun e w' => e = .returned (.tuple #[.bool (alikeF xs a b).1, .bool (alikeF xs a b).2]) ∧ Below w.heap.size w w' := by
  obtain ⟨ad, cap, rfl, hl, hm⟩ := Flat.form h
  obtain ⟨ad1, cap1, rfl, hl1, hm1⟩ := Flat.form g1
  obtain ⟨ad2, cap2, rfl, hl2, hm2⟩ := Flat.form g2
  by_cases hok : (memOk xs && decide (a.length + b.length ≤ 200)) = true
  case neg =>
    have hF := hid (show alikeF xs a b = (false, false) by unfold alikeF; rw [if_neg hok])
    have hcase : memOk xs = false ∨ (memOk xs = true ∧ 200 < (a.length : Int) + b.length) := by
      cases e : memOk xs <;> simp_all; omega
    clear hok
    rcases hcase with e1 | ⟨e1, e2⟩
    all_goals
      go_enter Try.func32, Try.ntmps32
      go_wp2_with (go_at_call 9; refine (spec_MemoryOk0 _ xs _ h).mono ?_; rintro e w' ⟨rfl, rfl⟩)
      go_ret2
      rw [hF.out]
      exact ⟨rfl, Below.refl _ _⟩
  have hF := hid (show alikeF xs a b = (decide (behind xs a b = behind xs b a), true) by unfold alikeF; rw [if_pos hok])
  simp only [Bool.and_eq_true, decide_eq_true_eq] at hok
  obtain ⟨e1, e2⟩ := hok
  have hla := hid (wordsF_len xs a)
  have hlb := hid (wordsF_len xs b)
  go_enter Try.func32, Try.ntmps32
  go_wp2_with (go_at_call 9; refine (spec_MemoryOk0 _ xs _ h).mono ?_; rintro e w' ⟨rfl, rfl⟩)
  refine (spec_Words _ xs _ a _ h hx g1 hg1).mono ?_
  rintro e w1 ⟨v1, t1, rfl, r1, _, b1⟩
  go_wp2_with fail
  refine (spec_Words _ (wordsF xs a).1 _ b _ r1 (by rw [hla.out]; omega) (WordOps.below g2 b1) hg2).mono ?_
  rintro e w2 ⟨v2, t2, rfl, r2, _, b2⟩
  have hB2 := b1.trans (b2.mono b1.size)
  go_wp2_with fail
  refine (spec_Words _ xs _ b _ (Ints.below h hB2) hx (WordOps.below g2 hB2) hg2).mono ?_
  rintro e w3 ⟨v3, t3, rfl, r3, _, b3⟩
  have hB3 := hB2.trans (b3.mono hB2.size)
  go_wp2_with fail
  refine (spec_Words _ (wordsF xs b).1 _ a _ r3 (by rw [hlb.out]; omega) (WordOps.below g1 hB3) hg1).mono ?_
  rintro e w4 ⟨v4, t4, rfl, r4, _, b4⟩
  have hB4 := hB3.trans (b4.mono hB3.size)
  have q2 : Ints w4 v2 (behind xs a b) := Ints.below (Ints.below r2 b3) b4
  have q4 : Ints w4 v4 (behind xs b a) := r4
  have hxl := behind_len xs a b
  have hyl := behind_len xs b a
  generalize behind xs a b = X at *
  generalize behind xs b a = Y at *
  obtain ⟨p2, k2, rfl, hl3, hm3, hc2⟩ := Ints.open q2
  obtain ⟨p4, k4, rfl, hl5, hm5, hc4⟩ := Ints.open q4
  clear r1 r2 r3 r4 q2 q4 b1 b2 b3 b4 hB2 hB3
  have Hxl := hid hxl
  have Hyl := hid hyl
  rw [eqFrom_zero] at hF
  have hxle : X.length ≤ 9223372036854775807 := by omega
  clear hxl hyl
  go_wp2
  go_loopw [14] (fun i wr => ∃ k : Nat, k ≤ X.length ∧ i = .int .i64 k ∧ Same (eqFrom X Y 0) (eqFrom X Y k) ∧ ∃ n, wr = w4.drewN n) (fun i _ => X.length - (intOf i).toNat)
  case atStart => exact ⟨0, by omega, rfl, .rfl, 0, rfl⟩
  case round =>
    obtain ⟨k, hk, rfl, hall, n, rfl⟩ := hrel
    by_cases hlt : k < X.length
    · have hlt2 : k < Y.length := by have := Hxl.out; have := Hyl.out; omega
      obtain ⟨bb, off, rfl, hbs, hcell⟩ := hc2 k hlt
      obtain ⟨bb2, off2, rfl, hbs2, hcell2⟩ := hc4 k hlt2
      have hst := hid (eqFrom_step X Y k hlt hlt2)
      clear hc2 hc4
      go_wp2
      go_quiet (fail)
      go_wp2
      · have hf : (X[k] != Y[k]) = true := by assumption
        go_ret2
        rw [hF.out]
        exact ⟨by rw [hall.out, hst.out, hf]; rfl, below_drewN (below_drewN hB4 n) nq⟩
      · have hf : (X[k] != Y[k]) = false := by assumption
        go_roundw
        case rel => exact ⟨k+1, by omega, by go_num, .mk (by rw [hall.out, hst.out, hf]; rfl), n + nq, rfl⟩
        case measure => simp [intOf]; omega
    · have hst := hid (eqFrom_end X Y k hlt (by have := Hxl.out; have := Hyl.out; omega))
      go_wp2
      go_ret2
      rw [hF.out]
      exact ⟨by rw [hall.out, hst.out]; rfl, below_drewN hB4 n⟩
end Go.Proofs.Ytfhkngmankmehaa
