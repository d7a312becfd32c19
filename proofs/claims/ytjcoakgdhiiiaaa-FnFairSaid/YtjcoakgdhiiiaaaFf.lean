/- Chapter 5: what Fair answers is the first window in which a thread has no step (for FnFair). -/
import Derived.Test.YtjcoakgdhiiiaaaS5d
import Derived.Test.YtjcoakgdhiiiaaaS5e
namespace Go.Proofs.Ytjcoakgdhiiiaaa
set_option maxRecDepth 100000
open Go.RowKit Go.Proofs Go.Own
set_option linter.unusedVariables false
theorem countT_mono (t : Int) (xs : List Int) (a : Nat) : ∀ w, countT t (xs.drop (a + w)) ≤ countT t (xs.drop a)
  | 0 => Nat.le_refl _
  | w+1 => by
    refine Nat.le_trans ?_ (countT_mono t xs a w)
    by_cases h : a + w < xs.length
    · rw [countT_step h t]; exact Nat.le_add_left _ _
    · rw [List.drop_eq_nil_of_le (by omega), List.drop_eq_nil_of_le (by omega)]; exact Nat.le_refl _
theorem miss_iff (t : Int) (xs : List Int) : ∀ (w a : Nat), a + w ≤ xs.length → (countT t (xs.drop a) = countT t (xs.drop (a + w)) ↔ ∀ q, a ≤ q → q < a + w → xs[q]? ≠ some t)
  | 0, a, _ => ⟨fun _ q h1 h2 => by omega, fun _ => rfl⟩
  | w+1, a, h => by
    have ih := miss_iff t xs w (a + 1) (by omega)
    have hm := countT_mono t xs (a + 1) w
    have ha : a < xs.length := by omega
    have e : a + (w + 1) = a + 1 + w := by omega
    rw [e, countT_step ha t]
    constructor
    · intro hh q h1 h2
      by_cases hx : xs[a] = t
      · rw [if_pos hx] at hh; omega
      · rw [if_neg hx] at hh
        by_cases hq : q = a
        · subst hq; rw [List.getElem?_eq_getElem ha]; exact fun e => hx (Option.some.inj e)
        · exact ih.1 (by omega) q (by omega) (by omega)
    · intro hh
      have h1 := ih.2 fun q q1 q2 => hh q (by omega) (by omega)
      have h2 := hh a (Nat.le_refl _) (by omega)
      rw [List.getElem?_eq_getElem ha] at h2
      rw [if_neg fun e => h2 (by rw [e])]
      omega
theorem last_iff (t : Int) (xs : List Int) (c : Int) (hc : -1 ≤ c) : ∀ n : Nat, lastIn xs t n ≤ c ↔ ∀ q : Nat, q < n → c < (q : Int) → xs[q]? ≠ some t
  | 0 => ⟨fun _ q h _ => by omega, fun _ => hc⟩
  | n+1 => by
    have ih := last_iff t xs c hc n
    unfold lastIn
    by_cases hx : xs[n]? = some t
    · rw [if_pos hx]
      constructor
      · intro h q h1 h2 h3; omega
      · intro h
        by_cases hn : c < (n : Int)
        · exact absurd hx (h n (by omega) hn)
        · omega
    · rw [if_neg hx]
      constructor
      · intro h q h1 h2
        by_cases hq : q = n
        · subst hq; exact hx
        · exact ih.1 h q (by omega) h2
      · intro h
        exact ih.2 fun q h1 h2 => h q (by omega) h2
/-- Whether some thread has no step in the window of w steps that begins at a. -/
def noneIn (xs : List Int) (th w a : Nat) : Prop := ∃ t : Nat, t < th ∧ countT (t : Int) (xs.drop a) = countT (t : Int) (xs.drop (a + w))
theorem badAt_iff (xs : List Int) (th w j t : Nat) (hj : j < xs.length) (hw : 1 ≤ w) : badAt xs th (w : Int) j t = true ↔ w ≤ j + 1 ∧ countT (t : Int) (xs.drop (j + 1 - w)) = countT (t : Int) (xs.drop (j + 1 - w + w)) := by
  unfold badAt
  rw [decide_eq_true_iff]
  have hb := lastIn_bound xs (t : Int) (j + 1)
  constructor
  · intro h
    have hwj : w ≤ j + 1 := by omega
    refine ⟨hwj, (miss_iff _ _ _ _ (by omega)).2 fun q q1 q2 => ?_⟩
    exact (last_iff (t : Int) xs ((j : Int) - w) (by omega) (j + 1)).1 (by omega) q (by omega) (by omega)
  · intro h
    have h1 := (miss_iff _ _ _ _ (by omega)).1 h.2
    have h2 := (last_iff (t : Int) xs ((j : Int) - w) (by omega) (j + 1)).2 fun q q1 q2 => h1 q (by omega) (by omega)
    omega
theorem badFf_iff (xs : List Int) (th : Nat) (win : Int) (j : Nat) : ∀ n t, badFrom xs th win j n t = true ↔ ∃ u, t ≤ u ∧ u < t + n ∧ badAt xs th win j u = true
  | 0, t => ⟨fun h => (by cases h), fun ⟨u, h1, h2, _⟩ => by omega⟩
  | n+1, t => by
    unfold badFrom
    by_cases h : badAt xs th win j t = true
    · rw [if_pos h]; exact ⟨fun _ => ⟨t, Nat.le_refl _, by omega, h⟩, fun _ => rfl⟩
    · rw [if_neg h, badFf_iff xs th win j n (t+1)]
      constructor
      · intro ⟨u, h1, h2, h3⟩; exact ⟨u, by omega, by omega, h3⟩
      · intro ⟨u, h1, h2, h3⟩
        by_cases hu : u = t
        · subst hu; exact absurd h3 h
        · exact ⟨u, by omega, by omega, h3⟩
theorem bad_iff (xs : List Int) (th w j : Nat) (hj : j < xs.length) (hw : 1 ≤ w) : badFrom xs th (w : Int) j th 0 = true ↔ w ≤ j + 1 ∧ noneIn xs th w (j + 1 - w) := by
  rw [badFf_iff]
  constructor
  · intro ⟨u, _, h2, h3⟩
    have := (badAt_iff xs th w j u hj hw).1 h3
    exact ⟨this.1, u, by omega, this.2⟩
  · intro ⟨h1, u, h2, h3⟩
    exact ⟨u, by omega, by omega, (badAt_iff xs th w j u hj hw).2 ⟨h1, h3⟩⟩
theorem fairFrom_first (xs : List Int) (th w : Nat) (hw : 1 ≤ w) : ∀ (n i : Nat), i + n = xs.length → (∀ a, a + w ≤ i → ¬ noneIn xs th w a) →
    (fairFrom xs th (w : Int) n i = -1 ∧ ∀ a, a + w ≤ xs.length → ¬ noneIn xs th w a) ∨ ∃ a : Nat, a + w ≤ xs.length ∧ noneIn xs th w a ∧ fairFrom xs th (w : Int) n i = (a : Int) ∧ ∀ b, b < a → ¬ noneIn xs th w b
  | 0, i, h, hp => .inl ⟨rfl, fun a ha => hp a (by omega)⟩
  | n+1, i, h, hp => by
    have hb := bad_iff xs th w i (by omega) hw
    unfold fairFrom
    by_cases hx : badFrom xs th (w : Int) i th 0 = true
    · rw [if_pos hx]
      obtain ⟨h1, h2⟩ := hb.1 hx
      exact .inr ⟨i + 1 - w, by omega, h2, by omega, fun b hb => hp b (by omega)⟩
    · rw [if_neg hx]
      refine fairFrom_first xs th w hw n (i+1) (by omega) fun a ha => ?_
      by_cases he : a + w ≤ i
      · exact hp a he
      · intro hn
        exact hx (hb.2 ⟨by omega, by rw [show i + 1 - w = a by omega]; exact hn⟩)
/-- Fair's answer where it is fine: the first such window, or -1. -/
theorem fairC_first (xs : List Int) (th w : Nat) (h : fairOk xs (th : Int) (w : Int) = true) :
    (fairC xs (th : Int) (w : Int) = -1 ∧ ∀ a, a + w ≤ xs.length → ¬ noneIn xs th w a) ∨ ∃ a : Nat, a + w ≤ xs.length ∧ noneIn xs th w a ∧ fairC xs (th : Int) (w : Int) = (a : Int) ∧ ∀ b, b < a → ¬ noneIn xs th w b := by
  have hw : 1 ≤ w := by unfold fairOk at h; simp [inB] at h; omega
  have e : fairC xs (th : Int) (w : Int) = fairFrom xs th (w : Int) xs.length 0 := by
    unfold fairC; rw [if_pos h]; rfl
  rw [e]
  exact fairFrom_first xs th w hw xs.length 0 (by omega) fun a ha => by omega
theorem ways_swap9 : ∀ x : Fin 9, ∀ y : Fin 9, waysC [((x : Nat) : Int), ((y : Nat) : Int)] = waysC [((y : Nat) : Int), ((x : Nat) : Int)] ∧ (waysC [((x : Nat) : Int), ((y : Nat) : Int)]).isSome = true := by decide +kernel
theorem ways_swap (x y : Nat) (hx : x < 9) (hy : y < 9) : waysC [(x : Int), (y : Int)] = waysC [(y : Int), (x : Int)] ∧ (waysC [(x : Int), (y : Int)]).isSome = true := ways_swap9 ⟨x, hx⟩ ⟨y, hy⟩
theorem ways_six : waysC [2, 2] = some 6 := by decide +kernel
theorem left_count (ys : List Int) (t k : Nat) (h : k ≤ ys.length) : leftC ys (t : Int) (k : Int) = (countT (t : Int) (ys.drop k) : Nat) := by
  unfold leftC; rw [if_pos ⟨by omega, by omega⟩]; rfl
end Go.Proofs.Ytjcoakgdhiiiaaa
