/- What chapter 1 says of many words swapped at once, as functions on lists. -/
import Derived.Test.YtfhkngmankmehaaF1
namespace Go.Proofs.Ytfhkngmankmehaa
open Go.RowKit Go.Proofs Go.Own

/-- x is in xs from the place k on. -/
def hasFrom (xs : List Int) (x : Int) (k : Nat) : Bool := decide (x ∈ xs.drop k)
theorem hasFrom_step (xs : List Int) (x : Int) (k : Nat) (h : k < xs.length) : hasFrom xs x k = ((xs[k] == x) || hasFrom xs x (k+1)) := by
  simp only [hasFrom]
  rw [List.drop_eq_getElem_cons h]
  rw [Bool.eq_iff_iff]
  simp only [List.mem_cons, decide_eq_true_eq, Bool.or_eq_true, beq_iff_eq]
  constructor
  · rintro (e | e)
    · exact .inl e.symm
    · exact .inr e
  · rintro (e | e)
    · exact .inl e.symm
    · exact .inr e
theorem hasFrom_end (xs : List Int) (x : Int) (k : Nat) (h : ¬ k < xs.length) : hasFrom xs x k = false := by
  simp [hasFrom, List.drop_eq_nil_of_le (Nat.le_of_not_lt h)]

/-- The k-th place is one, and stands once so far. -/
def placeOk (n : Nat) (at_ : List Int) (k : Nat) : Bool := inB (at_.getD k 0) 0 (n - 1) && !hasFrom (at_.take k) (at_.getD k 0) 0
def oldOk (m at_ old : List Int) (k : Nat) : Bool := decide (m.getD (at_.getD k 0).toNat 0 = old.getD k 0)
def allUpto (p : Nat → Bool) (n : Nat) : Bool := (List.range n).all p
theorem allUpto_iff (p : Nat → Bool) (n : Nat) : allUpto p n = true ↔ ∀ k, k < n → p k = true := by simp [allUpto, List.all_eq_true]
def swapOk (m at_ old new : List Int) : Bool :=
  memOk m && decide (at_.length = old.length) && decide (at_.length = new.length) && memOk old && memOk new && allUpto (placeOk m.length at_) at_.length && allUpto (oldOk m at_ old) at_.length
def swapAt (m at_ new : List Int) : Nat → List Int
  | 0 => m
  | k+1 => (swapAt m at_ new k).set (at_.getD k 0).toNat (new.getD k 0)
def swapF (m at_ old new : List Int) : List Int × Bool := if swapOk m at_ old new then (swapAt m at_ new at_.length, true) else (m, false)
theorem swapAt_len (m at_ new : List Int) : ∀ k, (swapAt m at_ new k).length = m.length
  | 0 => rfl
  | k+1 => by simp [swapAt, swapAt_len m at_ new k]
theorem swapF_len (m at_ old new : List Int) : (swapF m at_ old new).1.length = m.length := by
  unfold swapF; split
  · exact swapAt_len _ _ _ _
  · rfl
theorem swapF_no (m at_ old new : List Int) (h : swapOk m at_ old new = false) : swapF m at_ old new = (m, false) := by simp [swapF, h]
theorem swapF_yes (m at_ old new : List Int) (h : swapOk m at_ old new = true) : swapF m at_ old new = (swapAt m at_ new at_.length, true) := by simp [swapF, h]

/-- Places below n that stand once are no more than n. -/
theorem few_nats : ∀ (n : Nat) (l : List Nat), l.Nodup → (∀ x ∈ l, x < n) → l.length ≤ n
  | 0, l, _, h => by
    cases l with
    | nil => simp
    | cons x l => exact absurd (h x (by simp)) (by omega)
  | n+1, l, hd, h => by
    have h1 : (l.filter (· ≠ n)).length ≤ n := few_nats n _ (hd.filter _) fun x hx => by
      have h2 := List.mem_filter.1 hx
      have := h x h2.1
      have h3 : x ≠ n := by simpa using h2.2
      omega
    have h2 : ∀ (l : List Nat), l.Nodup → l.length ≤ (l.filter (· ≠ n)).length + 1 := by
      intro l
      induction l with
      | nil => intro _; simp
      | cons x l ih =>
        intro hd
        have hd' := List.nodup_cons.1 hd
        by_cases e : x = n
        · subst e
          have : l.filter (· ≠ x) = l := List.filter_eq_self.2 fun y hy => by
            have : y ≠ x := fun e => hd'.1 (e ▸ hy)
            simpa using this
          rw [List.filter_cons_of_neg (by simp), this]
          simp
        · rw [List.filter_cons_of_pos (by simpa using e)]
          have := ih hd'.2
          simp only [List.length_cons]
          omega
    have := h2 l hd
    omega
theorem places_few {n : Nat} {at_ : List Int} (h : allUpto (placeOk n at_) at_.length = true) : at_.length ≤ n := by
  rw [allUpto_iff] at h
  have hget : ∀ k, (hk : k < at_.length) → at_.getD k 0 = at_[k] := fun k hk => by simp [List.getD, hk]
  have hin : ∀ k, (hk : k < at_.length) → 0 ≤ at_[k] ∧ at_[k] < n := fun k hk => by
    have := h k hk
    simp only [placeOk, Bool.and_eq_true, hget k hk] at this
    have h1 := this.1
    simp [inB] at h1
    omega
  have hnd : (at_.map Int.toNat).Nodup := by
    rw [List.nodup_iff_pairwise_ne, List.pairwise_iff_getElem]
    intro i j hi hj hij e
    simp only [List.length_map] at hi hj
    simp only [List.getElem_map] at e
    have e2 : at_[i] = at_[j] := by have := hin i hi; have := hin j hj; omega
    have := h j hj
    simp only [placeOk, Bool.and_eq_true, hget j hj] at this
    have h2 := this.2
    simp only [hasFrom, List.drop_zero, Bool.not_eq_true', decide_eq_false_iff_not] at h2
    exact h2 (by rw [← e2, List.mem_take_iff_getElem]; exact ⟨i, by omega, rfl⟩)
  have := few_nats n (at_.map Int.toNat) hnd fun x hx => by
    obtain ⟨y, hy, rfl⟩ := List.mem_map.1 hx
    obtain ⟨k, hk, rfl⟩ := List.getElem_of_mem hy
    have := hin k hk
    omega
  simpa using this
/-- The program asks less of the old and the new values: what it asks comes to the same. -/
theorem swapOk_iff (m at_ old new : List Int) : swapOk m at_ old new =
    (memOk m && decide (old.length = at_.length) && decide (new.length = at_.length) && allUpto (placeOk m.length at_) at_.length && allIn old (-1000000000) 1000000000 0 && allIn new (-1000000000) 1000000000 0 && allUpto (oldOk m at_ old) at_.length) := by
  rw [Bool.eq_iff_iff]
  unfold swapOk
  simp only [Bool.and_eq_true, decide_eq_true_eq]
  constructor
  · rintro ⟨⟨⟨⟨⟨⟨h1, h2⟩, h3⟩, h4⟩, h5⟩, h6⟩, h7⟩
    simp only [memOk, Bool.and_eq_true] at h4 h5
    exact ⟨⟨⟨⟨⟨⟨h1, h2.symm⟩, h3.symm⟩, h6⟩, h4.2⟩, h5.2⟩, h7⟩
  · rintro ⟨⟨⟨⟨⟨⟨h1, h2⟩, h3⟩, h6⟩, h4⟩, h5⟩, h7⟩
    have hf := places_few h6
    have hm := h1
    simp only [memOk, Bool.and_eq_true, decide_eq_true_eq] at hm
    exact ⟨⟨⟨⟨⟨⟨h1, h2.symm⟩, h3.symm⟩, by simp only [memOk, Bool.and_eq_true, decide_eq_true_eq]; exact ⟨by omega, h4⟩⟩, by simp only [memOk, Bool.and_eq_true, decide_eq_true_eq]; exact ⟨by omega, h5⟩⟩, h6⟩, h7⟩
end Go.Proofs.Ytfhkngmankmehaa
