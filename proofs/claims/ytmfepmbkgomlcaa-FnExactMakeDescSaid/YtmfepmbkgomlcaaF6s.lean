/- Chapter 6: an open list in order of its objects is one list. -/
import Derived.Test.YtmfepmbkgomlcaaF6
namespace Go.Proofs.Ytmfepmbkgomlcaa
set_option maxRecDepth 100000
open Go.RowKit Go.Proofs Go.Own
theorem asc_unique : ∀ (l1 l2 : List Entry), l1.Pairwise (fun a b => a.object_ < b.object_) → l2.Pairwise (fun a b => a.object_ < b.object_) → (∀ e, e ∈ l1 ↔ e ∈ l2) → l1 = l2
  | [], [], _, _, _ => rfl
  | [], b :: l2, _, _, h => by have := (h b).2 (by simp); simp at this
  | a :: l1, [], _, _, h => by have := (h a).1 (by simp); simp at this
  | a :: l1, b :: l2, h1, h2, h => by
    rw [List.pairwise_cons] at h1 h2
    have hab : a = b := by
      rcases List.mem_cons.1 ((h a).1 (by simp)) with e | e
      · exact e
      · rcases List.mem_cons.1 ((h b).2 (by simp)) with e2 | e2
        · exact e2.symm
        · have p1 := h2.1 a e
          have p2 := h1.1 b e2
          omega
    subst hab
    congr 1
    refine asc_unique l1 l2 h1.2 h2.2 fun e => ⟨fun he => ?_, fun he => ?_⟩
    · rcases List.mem_cons.1 ((h e).1 (by simp [he])) with e1 | e1
      · have := h1.1 e he; subst e1; omega
      · exact e1
    · rcases List.mem_cons.1 ((h e).2 (by simp [he])) with e1 | e1
      · have := h2.1 e he; subst e1; omega
      · exact e1
theorem openOk_inj {xs : List Entry} (ho : openOk xs = true) {i j : Nat} (hi : i < xs.length) (hj : j < xs.length) (he : xs[i].object_ = xs[j].object_) : i = j := by
  rcases Nat.lt_trichotomy i j with h | h | h
  · exact absurd he ((openOk_at ho j hj).2 i h)
  · exact h
  · exact absurd he.symm ((openOk_at ho i hi).2 j h)
theorem sortGo_mem {xs : List Entry} (ho : openOk xs = true) : ∀ (f o : Nat) (e : Entry), e ∈ sortGo xs f o ↔ e ∈ xs ∧ (o : Int) ≤ e.object_ ∧ e.object_ < (o : Int) + f
  | 0, o, e => by simp [sortGo] <;> omega
  | f+1, o, e => by
    rw [sortGo_step, List.mem_append, sortGo_mem ho f (o+1) e]
    constructor
    · rintro (h | h)
      · split at h
        · rename_i hp
          obtain ⟨i, hi, h1, h2, _⟩ := placeC_some hp
          rw [h1, Int.toNat_natCast, List.getElem?_eq_getElem hi] at h
          simp at h
          subst h
          exact ⟨List.getElem_mem hi, by omega, by omega⟩
        · simp at h
      · exact ⟨h.1, by omega, by omega⟩
    · rintro ⟨hm, h1, h2⟩
      by_cases he : e.object_ = (o : Int)
      · left
        obtain ⟨k, hk, hke⟩ := List.getElem_of_mem hm
        have hp : 0 ≤ placeC xs (o : Int) := by
          cases Int.lt_or_le (placeC xs (o : Int)) 0 with
          | inl hn => exact absurd (by rw [hke]; exact he) (placeC_none hn k hk)
          | inr h => exact h
        obtain ⟨i, hi, h3, h4, _⟩ := placeC_some hp
        rw [if_pos hp, h3, Int.toNat_natCast, List.getElem?_eq_getElem hi]
        have : i = k := openOk_inj ho hi hk (by rw [h4, hke, he])
        subst this
        simp [hke]
      · exact .inr ⟨hm, by omega, by omega⟩
theorem sortGo_asc {xs : List Entry} (ho : openOk xs = true) : ∀ (f o : Nat), (sortGo xs f o).Pairwise (fun a b => a.object_ < b.object_)
  | 0, o => by simp [sortGo]
  | f+1, o => by
    rw [sortGo_step, List.pairwise_append]
    refine ⟨?_, sortGo_asc ho f (o+1), fun a ha b hb => ?_⟩
    · split
      · cases xs[(placeC xs (o : Int)).toNat]? <;> simp
      · simp
    · split at ha
      · rename_i hp
        obtain ⟨i, hi, h1, h2, _⟩ := placeC_some hp
        rw [h1, Int.toNat_natCast, List.getElem?_eq_getElem hi] at ha
        simp at ha
        subst ha
        have := ((sortGo_mem ho f (o+1) b).1 hb).2.1
        omega
      · simp at ha
/-- Any order of an open list that is in order of the objects is the one. -/
theorem sortC_of {xs ys : List Entry} (ho : openOk xs = true) (hp : ys.Perm xs) (hs : ∀ i j, (hi : i < j) → (hj : j < ys.length) → ys[i].object_ ≤ ys[j].object_) : ys = sortC xs := by
  have hmem : ∀ e, e ∈ xs → 0 ≤ e.object_ ∧ e.object_ < 8 := fun e he => by
    obtain ⟨k, hk, rfl⟩ := List.getElem_of_mem he
    have := (entryOk_iff.1 (openOk_at ho k hk).1).1
    omega
  have hnd : xs.Pairwise (fun a b => a.object_ ≠ b.object_) := by
    rw [List.pairwise_iff_getElem]
    intro i j hi hj hij
    exact (openOk_at ho j hj).2 i hij
  have hnd2 : ys.Pairwise (fun a b => a.object_ ≠ b.object_) := (hp.symm.pairwise_iff (fun h => Ne.symm h)).1 hnd
  refine asc_unique ys _ ?_ (sortGo_asc ho 8 0) fun e => ?_
  · rw [List.pairwise_iff_getElem] at hnd2 ⊢
    intro i j hi hj hij
    have h1 := hnd2 i j hi hj hij
    have h2 := hs i j hij hj
    omega
  · rw [show sortC xs = sortGo xs 8 0 from rfl, sortGo_mem ho, hp.mem_iff]
    constructor
    · intro h
      have := hmem e h
      exact ⟨h, by omega, by omega⟩
    · exact fun h => h.1
end Go.Proofs.Ytmfepmbkgomlcaa
