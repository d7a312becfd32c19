/- Chapter 5's program: ScheduleOk, Left5. -/
import Derived.Test.YtjcoakgdhiiiaaaDoorS5b
import Derived.Test.YtjcoakgdhiiiaaaDoorBx
import Derived.Test.YtjcoakgdhiiiaaaDoorSl
namespace Go.Proofs.YtjcoakgdhiiiaaaDoor
set_option maxRecDepth 100000
open Go.RowKit Go.Proofs Go.Own
set_option linter.unusedVariables false
set_option linter.unusedSimpArgs false
theorem impl_isThread (t : Int) (w : World) :
    Calls Tryd.prog 32 #[.int .i64 t] w fun e w' => e = .returned (.bool (inB t 0 3)) ∧ w = w' := by
  go_enter Tryd.func32, Tryd.ntmps32
  go_wp2
  all_goals go_ret
  all_goals (simp [inB, *]; try omega)
theorem impl_runOk (r : Run) (w : World) :
    Calls Tryd.prog 25 #[.agg #[.int .i64 r.thread_, .int .i64 r.many_]] w fun e w' => e = .returned (.bool (runOk r)) ∧ Below w.heap.size w w' := by
  go_enter Tryd.func25, Tryd.ntmps25
  go_wp2_with (go_at_call 32; refine (impl_isThread _ _).mono ?_; rintro e w' ⟨rfl, rfl⟩)
  all_goals go_ret
  all_goals refine ⟨ret_bool ?_, (Below.refl _ _).alloc (Nat.le_refl _) _⟩
  · rename_i a b
    simp only [runOk, a, Bool.true_and]
    unfold inB
    simp [b]
  · rename_i a b
    simp only [runOk, a, Bool.true_and]
    unfold inB
    simp
    omega
  · rename_i a
    have a' : inB r.thread_ 0 3 = false := by simpa using a
    simp [runOk, a']
def okP : List Run → Int → Bool
  | [], s => decide (s ≤ 1500)
  | r :: rs, s => if runOk r = true then okP rs (s + r.many_) else false
theorem okP_big : ∀ (xs : List Run) (s : Int), 1500 < s → okP xs s = false
  | [], s, h => decide_eq_false (by omega)
  | r :: rs, s, h => by
    unfold okP
    split
    · rename_i hr
      have := runOk_many hr
      exact okP_big rs _ (by omega)
    · rfl
theorem okP_eq : ∀ (xs : List Run) (s : Int), okP xs s = okFrom xs s
  | [], s => rfl
  | r :: rs, s => by
    unfold okP okFrom
    split
    · rename_i hr
      split
      · exact okP_eq rs _
      · have := runOk_many hr
        exact okP_big rs _ (by omega)
    · rfl
theorem okP_step {xs : List Run} {k : Nat} (h : k < xs.length) (s : Int) : okP (xs.drop k) s = if runOk xs[k] = true then okP (xs.drop (k+1)) (s + xs[k].many_) else false := by
  rw [List.drop_eq_getElem_cons h]; rfl
set_option maxHeartbeats 4000000 in
theorem impl_ScheduleOk (v : Value) (xs : List Run) (w : World) (h : Runs w v xs) :
    Calls Tryd.prog 17 #[v] w fun e w' => e = .returned (.bool (schedOk xs)) ∧ Below w.heap.size w w' := by
  obtain ⟨ad, cap, rfl, hl, hm, hc⟩ := h.open
  clear h
  have hlen : xs.length ≤ 9223372036854775807 := by omega
  by_cases h60 : (60 : Int) < (xs.length : Int)
  · have Hno := hid (show schedOk xs = false by unfold schedOk; rw [decide_eq_false (by omega)]; rfl)
    go_enter Tryd.func17, Tryd.ntmps17
    go_wp2
    go_ret
    exact ⟨ret_bool Hno.out.symm, Below.refl _ _⟩
  have Hy := hid (show schedOk xs = okP xs 0 by unfold schedOk; rw [decide_eq_true (by omega), okP_eq]; rfl)
  go_enter Tryd.func17, Tryd.ntmps17
  go_wp2
  go_loopw [3, 11] (fun s i wr => ∃ (k : Nat) (t : Int), k ≤ xs.length ∧ i = .int .i64 k ∧ s = .int .i64 t ∧ 0 ≤ t ∧ t ≤ 500 * (k : Int) ∧ Same (okP (xs.drop k) t) (okP xs 0) ∧ Below w.heap.size w wr) (fun _ i _ => xs.length - (intOf i).toNat)
  case atStart => exact ⟨0, 0, by omega, rfl, rfl, by omega, by omega, .rfl, Below.refl _ _⟩
  case round =>
    obtain ⟨k, t, hk, rfl, rfl, ht0, ht1, hS, hB⟩ := hrel
    by_cases hlt : k < xs.length
    · obtain ⟨bb, off, rfl, hbs, c0, c1⟩ := hc k hlt
      have e0 := (hB.cell (p := ⟨bb, off + k * 2, none⟩) hbs).trans c0
      have e1 := (hB.cell (p := ⟨bb, off + k * 2 + 1, none⟩) hbs).trans c1
      have Hst := hid (okP_step hlt t ▸ hS.out)
      have hs := hB.size
      clear hc c0 c1 hS
      obtain ⟨W1, hW1⟩ : ∃ X, wr.alloc (.cells #[Value.int .i64 xs[k].thread_, Value.int .i64 xs[k].many_] 37) = X := ⟨_, rfl⟩
      have hB1 : Below w.heap.size w W1 := by rw [← hW1]; exact hB.alloc hs _
      have g0 : W1.cell? ⟨wr.heap.size, 0, none⟩ = some (.int .i64 xs[k].thread_) := by rw [← hW1]; simp [go_sem]
      have g1 : W1.cell? ⟨wr.heap.size, 1, none⟩ = some (.int .i64 xs[k].many_) := by rw [← hW1]; simp [go_sem]
      have g2 : wr.heap.size < W1.heap.size := by rw [← hW1]; simp
      cases hr : runOk xs[k] with
      | true =>
        have hmm := runOk_many hr
        have m1 := hmm.1
        have m2 := hmm.2
        clear hmm
        have Hst2 := hid (show okP (xs.drop (k+1)) (t + xs[k].many_) = okP xs 0 by have h9 := Hst.out; rw [if_pos hr] at h9; exact h9)
        clear Hst
        go_wp2_with fail
        refine (impl_runOk xs[k] _).mono ?_
        rintro e W2 ⟨rfl, hB2⟩
        have g3 := (hB2.cell (p := ⟨wr.heap.size, 1, none⟩) g2).trans g1
        have hB3 := hB1.trans (hB2.mono hB1.size)
        clear hW1
        go_wp2
        go_roundw
        case rel => exact ⟨k+1, t + xs[k].many_, by omega, by go_num, by go_num, by omega, by omega, Same.mk Hst2.out, hB3⟩
        case measure => simp [intOf]; omega
      | false =>
        have Hn := hid (show schedOk xs = false by have h9 := Hst.out; rw [hr] at h9; rw [Hy.out, ← h9]; rfl)
        go_wp2_with fail
        refine (impl_runOk xs[k] _).mono ?_
        rintro e W2 ⟨rfl, hB2⟩
        have hB3 := hB1.trans (hB2.mono hB1.size)
        clear hW1
        go_wp2
        go_ret
        exact ⟨ret_bool Hn.out.symm, hB3⟩
    · have Hn := hid (show schedOk xs = decide (t ≤ 1500) by have h9 := hS.out; rw [List.drop_eq_nil_of_le (by omega)] at h9; rw [Hy.out, ← h9]; rfl)
      go_wp2
      go_ret
      exact ⟨ret_bool (by rw [Hn.out]), hB⟩
end Go.Proofs.YtjcoakgdhiiiaaaDoor
