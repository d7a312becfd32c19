/- Chapter 1's program functions: two lists of ops. -/
import Derived.Test.YtfhkngmankmehaaF1c
import Derived.Test.YtfhkngmankmehaaI1c
namespace Go.Proofs.Ytfhkngmankmehaa
open Go.RowKit Go.Proofs Go.Own

theorem slices_Equal (v u : Value) (xs ys : List Int) (w : World) (h : Ints w v xs) (g : Ints w u ys) :
    Calls Try.prog 45 #[v, u] w fun e w' => e = .returned (.bool (decide (xs = ys))) ∧ ∃ n, w' = w.drewN n := by
  obtain ⟨ad, cap, rfl, hl, hm, hc⟩ := h.open
  obtain ⟨ad2, cap2, rfl, hl2, hm2, hc2⟩ := g.open
  clear h g
  have hlen : xs.length ≤ 9223372036854775807 := by omega
  have hlen2 : ys.length ≤ 9223372036854775807 := by omega
  by_cases he : xs.length = ys.length
  case neg =>
    have hb : ((xs.length : Int) != (ys.length : Int)) = true := by simp; omega
    have Hne := hid he
    clear he
    go_enter Try.func45, Try.ntmps45
    go_wp2
    go_ret
    exact ⟨ret_bool (by symm; rw [decide_eq_false_iff_not]; intro e; exact Hne.out (by rw [e])), 0, rfl⟩
  have hb : ((xs.length : Int) != (ys.length : Int)) = false := by simp; omega
  rw [eqFrom_zero]
  have He := hid he
  clear he
  go_enter Try.func45, Try.ntmps45
  go_wp2
  go_loopw [13] (fun i wr => ∃ k : Nat, k ≤ xs.length ∧ i = .int .i64 k ∧ Same (eqFrom xs ys 0) (eqFrom xs ys k) ∧ ∃ n, wr = w.drewN n) (fun i _ => xs.length - (intOf i).toNat)
  case atStart => exact ⟨0, by omega, rfl, .rfl, 0, rfl⟩
  case round =>
    obtain ⟨k, hk, rfl, hall, n, rfl⟩ := hrel
    by_cases hlt : k < xs.length
    · have hlt2 : k < ys.length := by have := He.out; omega
      obtain ⟨bb, off, rfl, hbs, hcell⟩ := hc k hlt
      obtain ⟨bb2, off2, rfl, hbs2, hcell2⟩ := hc2 k hlt2
      have hst := hid (eqFrom_step xs ys k hlt hlt2)
      clear hc hc2
      go_wp2
      go_quiet (fail)
      go_wp2
      · have hf : (xs[k] != ys[k]) = true := by assumption
        go_ret
        exact ⟨ret_bool (by rw [hall.out, hst.out, hf]; rfl), n + nq, World.drewN_drewN _ _ _⟩
      · have hf : (xs[k] != ys[k]) = false := by assumption
        go_roundw
        case rel => exact ⟨k+1, by omega, by go_num, .mk (by rw [hall.out, hst.out, hf]; rfl), n + nq, rfl⟩
        case measure => simp [intOf]; omega
    · have hst := hid (eqFrom_end xs ys k hlt (by have := He.out; omega))
      go_wp2
      go_ret
      exact ⟨ret_bool (by rw [hall.out, hst.out]), n, rfl⟩

theorem impl_behindBoth (v : Value) (xs : List Int) (u1 : Value) (a : List WordOp) (u2 : Value) (b : List WordOp) (w : World) (h : Ints w v xs) (hx : xs.length ≤ 1048576) (g1 : WordOps w u1 a) (hg1 : a.length ≤ 1048576) (g2 : WordOps w u2 b) (hg2 : b.length ≤ 1048576) :
    Calls Try.prog 46 #[v, u1, u2] w fun e w' => ∃ v', e = .returned v' ∧ Ints w' v' (behind xs a b) ∧ Below w.heap.size w w' := by
  have hl := hid (wordsF_len xs a)
  go_enter Try.func46, Try.ntmps46
  go_wp2_with fail
  refine (impl_Words _ xs _ a _ h hx g1 hg1).mono ?_
  rintro e w1 ⟨v1, t1, rfl, o1, _, _, _, _, b1⟩
  go_wp2_with fail
  refine (impl_Words _ (wordsF xs a).1 _ b _ (Flat.of_owns o1) (by rw [hl.out]; omega) (WordOps.below g2 b1) hg2).mono ?_
  rintro e w2 ⟨v2, t2, rfl, o2, _, _, _, _, b2⟩
  go_wp2
  go_ret
  exact ⟨_, rfl, Flat.of_owns o2, b1.trans (b2.mono b1.size)⟩

theorem impl_AllAlike (v : Value) (xs : List Int) (u1 : Value) (a : List WordOp) (u2 : Value) (b : List WordOp) (w : World) (h : Ints w v xs) (hx : xs.length ≤ 1048576) (g1 : WordOps w u1 a) (hg1 : a.length ≤ 1048576) (g2 : WordOps w u2 b) (hg2 : b.length ≤ 1048576) :
    Calls Try.prog 33 #[v, u1, u2] w fun e w' => e = .returned (.tuple #[.bool (alikeF xs a b).1, .bool (alikeF xs a b).2]) ∧ Below w.heap.size w w' := by
  obtain ⟨ad, cap, rfl, hl, hm⟩ := Flat.form h
  obtain ⟨ad1, cap1, rfl, hl1, hm1⟩ := Flat.form g1
  obtain ⟨ad2, cap2, rfl, hl2, hm2⟩ := Flat.form g2
  by_cases hok : (memOk xs && decide (a.length + b.length ≤ 200)) = true
  case neg =>
    have hF := hid (show alikeF xs a b = (false, false) by unfold alikeF; rw [if_neg hok])
    have hcase : memOk xs = false ∨ (memOk xs = true ∧ 200 < (a.length : Int) + b.length) := by
      cases e : memOk xs <;> simp_all; omega
    clear hok
    rcases hcase with e1 | ⟨e1, e2⟩
    all_goals
      go_enter Try.func33, Try.ntmps33
      go_wp2_with (go_at_call 11; refine (impl_MemoryOk0 _ xs _ h).mono ?_; rintro e w' ⟨rfl, rfl⟩)
      go_ret2
      rw [hF.out]
      exact ⟨rfl, Below.refl _ _⟩
  have hF := hid (show alikeF xs a b = (decide (behind xs a b = behind xs b a), true) by unfold alikeF; rw [if_pos hok])
  simp only [Bool.and_eq_true, decide_eq_true_eq] at hok
  obtain ⟨e1, e2⟩ := hok
  go_enter Try.func33, Try.ntmps33
  go_wp2_with (go_at_call 11; refine (impl_MemoryOk0 _ xs _ h).mono ?_; rintro e w' ⟨rfl, rfl⟩)
  refine (impl_behindBoth _ xs _ a _ b _ h hx g1 hg1 g2 hg2).mono ?_
  rintro e w1 ⟨v1, rfl, r1, b1⟩
  go_wp2_with fail
  refine (impl_behindBoth _ xs _ b _ a _ (Ints.below h b1) hx (WordOps.below g2 b1) hg2 (WordOps.below g1 b1) hg1).mono ?_
  rintro e w2 ⟨v2, rfl, r2, b2⟩
  go_wp2_with fail
  refine (slices_Equal _ _ _ _ _ (Ints.below r1 b2) r2).mono ?_
  rintro e _ ⟨rfl, n, rfl⟩
  go_wp2
  go_ret2
  rw [hF.out]
  exact ⟨rfl, below_drewN (b1.trans (b2.mono b1.size)) n⟩
end Go.Proofs.Ytfhkngmankmehaa
