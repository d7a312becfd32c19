/- Chapter 5's program: ScheduleOk, Left5. -/
import Derived.Test.YtjcoakgdhiiiaaaS5b
import Derived.Test.YtjcoakgdhiiiaaaBx
import Derived.Test.YtjcoakgdhiiiaaaSl
namespace Go.Proofs.Ytjcoakgdhiiiaaa
set_option maxRecDepth 100000
open Go.RowKit Go.Proofs Go.Own
set_option linter.unusedVariables false
set_option linter.unusedSimpArgs false
theorem impl_isThread (t : Int) (w : World) :
    Calls Try.prog 43 #[.int .i64 t] w fun e w' => e = .returned (.bool (inB t 0 3)) ∧ w = w' := by
  go_enter Try.func43, Try.ntmps43
  go_wp2
  all_goals go_ret
  all_goals (simp [inB, *]; try omega)
theorem impl_runOk (r : Run) (w : World) :
    Calls Try.prog 39 #[.agg #[.int .i64 r.thread_, .int .i64 r.many_]] w fun e w' => e = .returned (.bool (runOk r)) ∧ Below w.heap.size w w' := by
  go_enter Try.func39, Try.ntmps39
  go_wp2_with (go_at_call 43; refine (impl_isThread _ _).mono ?_; rintro e w' ⟨rfl, rfl⟩)
  all_goals go_ret
  all_goals refine ⟨ret_bool ?_, (Below.refl _ _).alloc (Nat.le_refl _) _⟩
  · rename_i a b
    simp only [runOk, a, Bool.true_and]
    unfold inB
    simp [b]
  · rename_i a b
    simp only [runOk, a, Bool.true_and]
    unfold inB
    simp
    omega
  · rename_i a
    have a' : inB r.thread_ 0 3 = false := by simpa using a
    simp [runOk, a']
def okP : List Run → Int → Bool
  | [], s => decide (s ≤ 1500)
  | r :: rs, s => if runOk r = true then okP rs (s + r.many_) else false
theorem okP_big : ∀ (xs : List Run) (s : Int), 1500 < s → okP xs s = false
  | [], s, h => decide_eq_false (by omega)
  | r :: rs, s, h => by
    unfold okP
    split
    · rename_i hr
      have := runOk_many hr
      exact okP_big rs _ (by omega)
    · rfl
theorem okP_eq : ∀ (xs : List Run) (s : Int), okP xs s = okFrom xs s
  | [], s => rfl
  | r :: rs, s => by
    unfold okP okFrom
    split
    · rename_i hr
      split
      · exact okP_eq rs _
      · have := runOk_many hr
        exact okP_big rs _ (by omega)
    · rfl
theorem okP_step {xs : List Run} {k : Nat} (h : k < xs.length) (s : Int) : okP (xs.drop k) s = if runOk xs[k] = true then okP (xs.drop (k+1)) (s + xs[k].many_) else false := by
  rw [List.drop_eq_getElem_cons h]; rfl
set_option maxHeartbeats 4000000 in
theorem impl_ScheduleOk (v : Value) (xs : List Run) (w : World) (h : Runs w v xs) :
    Calls Try.prog 19 #[v] w fun e w' => e = .returned (.bool (schedOk xs)) ∧ Below w.heap.size w w' := by
  obtain ⟨ad, cap, rfl, hl, hm, hc⟩ := h.open
  clear h
  have hlen : xs.length ≤ 9223372036854775807 := by omega
  by_cases h60 : (60 : Int) < (xs.length : Int)
  · have Hno := hid (show schedOk xs = false by unfold schedOk; rw [decide_eq_false (by omega)]; rfl)
    go_enter Try.func19, Try.ntmps19
    go_wp2
    go_ret
    exact ⟨ret_bool Hno.out.symm, Below.refl _ _⟩
  have Hy := hid (show schedOk xs = okP xs 0 by unfold schedOk; rw [decide_eq_true (by omega), okP_eq]; rfl)
  go_enter Try.func19, Try.ntmps19
  go_wp2
  go_loopw [3, 11] (fun s i wr => ∃ (k : Nat) (t : Int), k ≤ xs.length ∧ i = .int .i64 k ∧ s = .int .i64 t ∧ 0 ≤ t ∧ t ≤ 500 * (k : Int) ∧ Same (okP (xs.drop k) t) (okP xs 0) ∧ Below w.heap.size w wr) (fun _ i _ => xs.length - (intOf i).toNat)
  case atStart => exact ⟨0, 0, by omega, rfl, rfl, by omega, by omega, .rfl, Below.refl _ _⟩
  case round =>
    obtain ⟨k, t, hk, rfl, rfl, ht0, ht1, hS, hB⟩ := hrel
    by_cases hlt : k < xs.length
    · obtain ⟨bb, off, rfl, hbs, c0, c1⟩ := hc k hlt
      have e0 := (hB.cell (p := ⟨bb, off + k * 2, none⟩) hbs).trans c0
      have e1 := (hB.cell (p := ⟨bb, off + k * 2 + 1, none⟩) hbs).trans c1
      have Hst := hid (okP_step hlt t ▸ hS.out)
      have hs := hB.size
      clear hc c0 c1 hS
      obtain ⟨W1, hW1⟩ : ∃ X, wr.alloc (.cells #[Value.int .i64 xs[k].thread_, Value.int .i64 xs[k].many_] 56) = X := ⟨_, rfl⟩
      have hB1 : Below w.heap.size w W1 := by rw [← hW1]; exact hB.alloc hs _
      have g0 : W1.cell? ⟨wr.heap.size, 0, none⟩ = some (.int .i64 xs[k].thread_) := by rw [← hW1]; simp [go_sem]
      have g1 : W1.cell? ⟨wr.heap.size, 1, none⟩ = some (.int .i64 xs[k].many_) := by rw [← hW1]; simp [go_sem]
      have g2 : wr.heap.size < W1.heap.size := by rw [← hW1]; simp
      cases hr : runOk xs[k] with
      | true =>
        have hmm := runOk_many hr
        have m1 := hmm.1
        have m2 := hmm.2
        clear hmm
        have Hst2 := hid (show okP (xs.drop (k+1)) (t + xs[k].many_) = okP xs 0 by have h9 := Hst.out; rw [if_pos hr] at h9; exact h9)
        clear Hst
        go_wp2_with fail
        refine (impl_runOk xs[k] _).mono ?_
        rintro e W2 ⟨rfl, hB2⟩
        have g3 := (hB2.cell (p := ⟨wr.heap.size, 1, none⟩) g2).trans g1
        have hB3 := hB1.trans (hB2.mono hB1.size)
        clear hW1
        go_wp2
        go_roundw
        case rel => exact ⟨k+1, t + xs[k].many_, by omega, by go_num, by go_num, by omega, by omega, Same.mk Hst2.out, hB3⟩
        case measure => simp [intOf]; omega
      | false =>
        have Hn := hid (show schedOk xs = false by have h9 := Hst.out; rw [hr] at h9; rw [Hy.out, ← h9]; rfl)
        go_wp2_with fail
        refine (impl_runOk xs[k] _).mono ?_
        rintro e W2 ⟨rfl, hB2⟩
        have hB3 := hB1.trans (hB2.mono hB1.size)
        clear hW1
        go_wp2
        go_ret
        exact ⟨ret_bool Hn.out.symm, hB3⟩
    · have Hn := hid (show schedOk xs = decide (t ≤ 1500) by have h9 := hS.out; rw [List.drop_eq_nil_of_le (by omega)] at h9; rw [Hy.out, ← h9]; rfl)
      go_wp2
      go_ret
      exact ⟨ret_bool (by rw [Hn.out]), hB⟩
set_option maxHeartbeats 4000000 in
theorem impl_Left5 (v : Value) (xs : List Int) (t f : Int) (w : World) (h : Ints w v xs) (hx : xs.length ≤ 1048576) :
    Calls Try.prog 13 #[v, .int .i64 t, .int .i64 f] w fun e w' => e = .returned (.int .i64 (leftC xs t f)) ∧ Below w.heap.size w w' := by
  have h0 := h
  obtain ⟨ad, cap, rfl, hl, hm, hc⟩ := h.open
  clear h
  have hlen : xs.length ≤ 9223372036854775807 := by omega
  by_cases h1 : ¬ (0 ≤ f ∧ f ≤ (xs.length : Int))
  · have hno := hid (show leftC xs t f = -1 from if_neg h1)
    clear hc h0
    by_cases f0 : f < 0
    · go_enter Try.func13, Try.ntmps13
      go_wp2
      go_ret
      exact ⟨ret_int hno.out.symm, Below.refl _ _⟩
    · have f1 : (xs.length : Int) < f := by omega
      go_enter Try.func13, Try.ntmps13
      go_wp2
      go_ret
      exact ⟨ret_int hno.out.symm, Below.refl _ _⟩
  have h2 := Decidable.not_not.1 h1
  obtain ⟨i0, hi, hz0, hz1, hz2⟩ := info_parts infoInt5
  have hyes := hid (show leftC xs t f = countT t (xs.drop f.toNat) from if_pos h2)
  obtain ⟨F, rfl⟩ := Int.eq_ofNat_of_zero_le h2.1
  have hF : F ≤ xs.length := by omega
  have hF1 : (F : Int) ≤ (xs.length : Int) := by omega
  have hF0 : (0 : Int) ≤ (F : Int) := by omega
  clear h1 h2
  clear hc
  rw [Int.toNat_natCast] at hyes
  obtain ⟨v', hv1, hv2⟩ := slice_from Try.underlying24 hi hz1 h0 F hF
  rw [drop_flatMap encI 1 (fun _ => rfl)] at hv2
  have hv3 : Ints w v' (xs.drop F) := by unfold Ints; rw [List.length_drop]; exact hv2
  obtain ⟨ad', cap', rfl, hl', hm', hc'⟩ := hv3.open
  have hlen' : (xs.drop F).length ≤ 9223372036854775807 := by rw [List.length_drop]; omega
  clear hv2 hv3 h0
  have hc2 := hid hc'
  clear hc'
  generalize xs.drop F = ys at *
  go_enter Try.func13, Try.ntmps13
  go_wp2
  go_loop [7, 22] (fun n i => ∃ (k m : Nat), k ≤ ys.length ∧ i = .int .i64 k ∧ n = .int .i64 m ∧ m ≤ k ∧ Same (m + countT t (ys.drop k)) (countT t ys)) (fun _ i => ys.length - (intOf i).toNat)
  case atStart => exact ⟨0, 0, by omega, rfl, rfl, by omega, Same.mk (by simp)⟩
  case round =>
    obtain ⟨k, m, hk, rfl, rfl, hm2, hS⟩ := hrel
    by_cases hlt : k < ys.length
    · obtain ⟨bb, off, rfl, hbs, c0⟩ := hc2.out k hlt
      have hst := hid ((countT_step hlt t) ▸ hS.out)
      clear hc2
      by_cases he : ys[k] = t
      · go_wp2
        go_round
        case rel => exact ⟨k+1, m+1, by omega, by go_num, by go_num, by omega, Same.mk (by have := hst.out; rw [if_pos he] at this; omega)⟩
        case measure => simp [intOf]; omega
      · go_wp2
        go_round
        case rel => exact ⟨k+1, m, by omega, by go_num, rfl, by omega, Same.mk (by have := hst.out; rw [if_neg he] at this; omega)⟩
        case measure => simp [intOf]; omega
    · have hst := hid hS.out
      go_wp2
      go_ret
      exact ⟨ret_int (by have := hst.out; rw [List.drop_eq_nil_of_le (by omega : ys.length ≤ k)] at this; rw [hyes.out]; simp only [countT] at this ⊢; omega), Below.refl _ _⟩
end Go.Proofs.Ytjcoakgdhiiiaaa
