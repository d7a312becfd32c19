/- A slice of the call's own that may begin within its block. Of any program. -/
import Derived.Test.YtdnfphpeleakcaaBase2
namespace Go.Own
set_option maxRecDepth 100000
open Go.RowKit
def OwnsAt (w : World) (base e sz : Nat) (v : Value) (n : Nat) (cs : List Value) : Prop :=
  cs.length = n * sz ∧ ((v = .slice none 0 0 ∧ n = 0) ∨ ∃ g off cap cur, v = .slice (some ⟨g, off, none⟩) n cap ∧ base ≤ g ∧ w.heap[g]? = some (.cells cur e (0, 0)) ∧ n ≤ cap ∧ cap ≤ maxLen ∧ off + n * sz ≤ cur.size ∧ ∀ j, j < cs.length → cur[off + j]? = cs[j]?)
theorem OwnsAt.of_row {w : World} {base e sz n : Nat} {v : Value} {cs : List Value} (h : w.ownsRow base e sz v n cs) : OwnsAt w base e sz v n cs := by
  refine ⟨h.1, ?_⟩
  rcases h.2 with h1 | ⟨g, cap, cur, hv, hb, hg, hn, hm, hc, ht⟩
  · exact .inl h1
  · have hle : n * sz ≤ cap * sz := Nat.mul_le_mul_right _ hn
    refine .inr ⟨g, 0, cap, cur, hv, hb, hg, hn, hm, by omega, fun j hj => ?_⟩
    have h1 := h.1
    have e : cs[j]? = (cur.toList.take (n * sz))[j]? := by rw [ht]
    rw [Nat.zero_add, e, List.getElem?_take_of_lt (by omega)]
    simp
theorem OwnsAt.lt {w : World} {base e sz n : Nat} {v : Value} {cs : List Value} (h : OwnsAt w base e sz v n cs) : ∀ k, v.ownBlock = some k → base ≤ k ∧ k < w.heap.size := by
  intro k hk
  rcases h.2 with ⟨rfl, _⟩ | ⟨g, off, cap, cur, rfl, hb, hg, _⟩
  · simp [Value.ownBlock] at hk
  · simp [Value.ownBlock] at hk; subst hk; exact ⟨hb, (Array.getElem?_eq_some_iff.1 hg).1⟩
theorem OwnsAt.kept {w w' : World} {base e sz n : Nat} {v : Value} {cs : List Value} {row : Option Nat} (h : OwnsAt w base e sz v n cs) (hg : w.grownBy w' row) (hne : v.ownBlock = none ∨ v.ownBlock ≠ row) : OwnsAt w' base e sz v n cs := by
  refine ⟨h.1, ?_⟩
  rcases h.2 with hn | ⟨g, off, cap, cur, rfl, hb, hgg, rest⟩
  · exact .inl hn
  · refine .inr ⟨g, off, cap, cur, rfl, hb, ?_, rest⟩
    rw [hg.block g (Array.getElem?_eq_some_iff.1 hgg).1 (by simpa [Value.ownBlock] using hne)]
    exact hgg
theorem OwnsAt.below {w w' : World} {base e sz n : Nat} {v : Value} {cs : List Value} (h : OwnsAt w base e sz v n cs) (hb : Below w.heap.size w w') : OwnsAt w' base e sz v n cs := by
  refine ⟨h.1, ?_⟩
  rcases h.2 with h1 | ⟨g, off, cap, cur, hv, hb', hg, r⟩
  · exact .inl h1
  · exact .inr ⟨g, off, cap, cur, hv, hb', by rw [hb.block g (Array.getElem?_eq_some_iff.1 hg).1]; exact hg, r⟩
theorem OwnsAt.mono {w : World} {base base' e sz n : Nat} {v : Value} {cs : List Value} (h : OwnsAt w base e sz v n cs) (hb : base' ≤ base) : OwnsAt w base' e sz v n cs := by
  refine ⟨h.1, ?_⟩
  rcases h.2 with h1 | ⟨g, off, cap, cur, hv, hb', r⟩
  · exact .inl h1
  · exact .inr ⟨g, off, cap, cur, hv, Nat.le_trans hb hb', r⟩
theorem OwnsAt.alloc {w : World} {base e sz n : Nat} {v : Value} {cs : List Value} (h : OwnsAt w base e sz v n cs) (o : Obj) : OwnsAt (w.alloc o) base e sz v n cs := h.below ((Below.refl _ _).alloc (Nat.le_refl _) _)
theorem OwnsAt.setCell {w : World} {base e sz n : Nat} {v : Value} {cs : List Value} (h : OwnsAt w base e sz v n cs) (p : Addr) (u : Value) (hp : p.block < base) : OwnsAt (w.setCell p u) base e sz v n cs := by
  refine ⟨h.1, ?_⟩
  rcases h.2 with h1 | ⟨g, off, cap, cur, hv, hb', hg, r⟩
  · exact .inl h1
  · exact .inr ⟨g, off, cap, cur, hv, hb', by rw [heap_setCell_other w p g u (by omega)]; exact hg, r⟩
theorem OwnsAt.form {w : World} {base e sz n : Nat} {v : Value} {cs : List Value} (h : OwnsAt w base e sz v n cs) : ∃ a cap, v = .slice a n cap ∧ n ≤ cap ∧ cap ≤ 9223372036854775807 := by
  rcases h.2 with ⟨rfl, rfl⟩ | ⟨g, off, cap, cur, rfl, _, _, hn, hm, _⟩
  · exact ⟨none, 0, rfl, Nat.le_refl _, by omega⟩
  · exact ⟨_, cap, rfl, hn, hm⟩
theorem OwnsAt.form3 {w : World} {base e sz n : Nat} {v : Value} {cs : List Value} (h : OwnsAt w base e sz v n cs) : ∃ a m c, v = .slice a m c := by
  obtain ⟨a, c, e, _, _⟩ := h.form; exact ⟨a, n, c, e⟩
theorem Flat.of_at {w : World} {base e sz n : Nat} {v : Value} {cs : List Value} (h : OwnsAt w base e sz v n cs) : Flat w v n sz cs := by
  refine ⟨h.1, ?_⟩
  rcases h.2 with ⟨rfl, rfl⟩ | ⟨g, off, cap, cur, rfl, hb, hg, hn, hm, hs, ht⟩
  · exact ⟨none, 0, rfl, Nat.le_refl _, by omega, fun _ => rfl, .inl rfl⟩
  · refine ⟨_, cap, rfl, hn, by unfold maxLen at hm; omega, (by intro e; cases e), .inr ⟨g, off, rfl, (Array.getElem?_eq_some_iff.1 hg).1, fun j hj => ?_⟩⟩
    rw [cell_of_row w g (off + j) cur e (0, 0) hg, ht j hj]
    exact List.getElem?_eq_getElem hj
/-- Of a row that was there, a slice that is made later is apart; and the other way about. -/
theorem apartAt {w1 : World} {v u : Value} {lo hi B : Nat} (hv : ∀ k, v.ownBlock = some k → lo ≤ k ∧ k < w1.heap.size) (hB : w1.heap.size ≤ B) (hu : ∀ k, u.ownBlock = some k → B ≤ k ∧ k < hi) : (v.ownBlock = none ∨ v.ownBlock ≠ u.ownBlock) ∧ (u.ownBlock = none ∨ u.ownBlock ≠ v.ownBlock) := by
  constructor
  · cases hvb : v.ownBlock with
    | none => exact .inl rfl
    | some k => refine .inr fun e => ?_; have := (hv k hvb).2; have := (hu k e.symm).1; omega
  · cases hvb : u.ownBlock with
    | none => exact .inl rfl
    | some k => refine .inr fun e => ?_; have := (hv k e.symm).2; have := (hu k hvb).1; omega
theorem below_of_lt {w w' : World} {u : Value} {B N hi : Nat} (hu : ∀ k, u.ownBlock = some k → B ≤ k ∧ k < hi) (hg : w.grownBy w' u.ownBlock) (hN : N ≤ B) (hs : N ≤ w.heap.size) : Below N w w' :=
  ⟨hg.os, hg.tape, hg.output, hg.size, fun k hk => hg.block k (by omega) fun e => by have := (hu k e.symm).1; omega⟩
theorem OwnsAt.stored {w : World} {base e sz n g off cap : Nat} {cs : List Value} (h : OwnsAt w base e sz (.slice (some ⟨g, off, none⟩) n cap) n cs) (j : Nat) (hj : j < cs.length) (u : Value) :
    OwnsAt (w.setCell ⟨g, off + j, none⟩ u) base e sz (.slice (some ⟨g, off, none⟩) n cap) n (cs.set j u) ∧ w.grownBy (w.setCell ⟨g, off + j, none⟩ u) (some g) := by
  rcases h.2 with ⟨h', _⟩ | ⟨g', off', cap', cur, h', hb, hg, hnc, hcm, hcs, ht⟩
  · simp at h'
  · simp only [Value.slice.injEq, Option.some.injEq, Addr.mk.injEq, and_true, true_and] at h'
    obtain ⟨⟨rfl, rfl⟩, rfl⟩ := h'
    have h1 := h.1
    refine ⟨⟨by simpa using h.1, .inr ⟨g, off, cap, cur.setIfInBounds (off + j) u, rfl, hb, heap_setCell_same w g (off + j) cur e u hg, hnc, hcm, by simpa using hcs, fun i hi => ?_⟩⟩,
      ⟨rfl, rfl, rfl, by simp [World.setCell], fun k _ hk => heap_setCell_other w ⟨g, off + j, none⟩ k u (fun e => hk (by simp [e]))⟩⟩
    have hi' : i < cs.length := by simpa using hi
    rw [Array.getElem?_setIfInBounds, List.getElem?_set]
    by_cases e : j = i
    · subst e; rw [if_pos rfl, if_pos rfl, if_pos hj, if_pos (by omega)]
    · rw [if_neg (by omega), if_neg e]; exact ht i hi'
theorem OwnsAt.cell {w : World} {base e sz n g off cap : Nat} {cs : List Value} (h : OwnsAt w base e sz (.slice (some ⟨g, off, none⟩) n cap) n cs) (j : Nat) (hj : j < cs.length) : w.cell? ⟨g, off + j, none⟩ = cs[j]? ∧ w.frozen? ⟨g, off + j, none⟩ = false := by
  rcases h.2 with ⟨h', _⟩ | ⟨g', off', cap', cur, h', hb, hg, hnc, hcm, hcs, ht⟩
  · simp at h'
  · simp only [Value.slice.injEq, Option.some.injEq, Addr.mk.injEq, and_true, true_and] at h'
    obtain ⟨⟨rfl, rfl⟩, rfl⟩ := h'
    exact ⟨by rw [cell_of_row w g (off + j) cur e (0, 0) hg]; exact ht j hj, frozen_of_row w g (off + j) cur e hg⟩
/-- What is left behind the first elements of a row. -/
theorem OwnsAt.cut {w : World} {base e sz n g cap : Nat} {cs : List Value} (h : w.ownsRow base e sz (.slice (some ⟨g, 0, none⟩) n cap) n cs) (i c : Nat) (hi : i ≤ n) (hc : n - i ≤ c) (hm : c ≤ maxLen) : OwnsAt w base e sz (.slice (some ⟨g, i * sz, none⟩) (n - i) c) (n - i) (cs.drop (i * sz)) := by
  have h0 := OwnsAt.of_row h
  rcases h0.2 with ⟨h', _⟩ | ⟨g', off', cap', cur, h', hb, hg, hnc, hcm, hcs, ht⟩
  · simp at h'
  · simp only [Value.slice.injEq, Option.some.injEq, Addr.mk.injEq, and_true, true_and] at h'
    obtain ⟨⟨rfl, e0⟩, rfl⟩ := h'
    subst e0
    have hl := h.1
    have e1 : n * sz = i * sz + (n - i) * sz := by rw [← Nat.add_mul]; congr 1; omega
    refine ⟨by rw [List.length_drop]; omega, .inr ⟨g, i * sz, c, cur, rfl, hb, hg, hc, hm, by omega, fun j hj => ?_⟩⟩
    have hj' : i * sz + j < cs.length := by rw [List.length_drop] at hj; omega
    have := ht (i * sz + j) hj'
    rw [Nat.zero_add] at this
    rw [this, List.getElem?_drop]
/-- 's[1:n:n]', s a row of n elements. -/
theorem slice3_row {P : Program} {t e : TypeId} {ti : TypeInfo} {sz : Nat} (ht : P.underlying t = some (.slice e)) (hi : P.info? e = some ti) (hs : ti.size = sz) {base : Nat} {w : World} {g n cap : Nat} {cs : List Value} (h : w.ownsRow base e sz (.slice (some ⟨g, 0, none⟩) n cap) n cs) (h1 : 1 ≤ n) :
    ∃ off, (∀ w', (Instr.slice t (.slice (some ⟨g, 0, none⟩) n cap) (some (.int .i64 1)) (some (.int .i64 (n : Int))) (some (.int .i64 (n : Int)))).run P w' = .ok (.slice (some ⟨g, off, none⟩) (n - 1) (n - 1)) w') ∧ OwnsAt w base e sz (.slice (some ⟨g, off, none⟩) (n - 1) (n - 1)) (n - 1) (cs.drop sz) := by
  obtain ⟨g', c', hv, hn, hm, _, _, _, _⟩ := owns_at h (by omega)
  simp only [Value.slice.injEq, Option.some.injEq, Addr.mk.injEq, and_true, true_and] at hv
  obtain ⟨rfl, rfl⟩ := hv
  have hcut := OwnsAt.cut h 1 (n - 1) (by omega) (Nat.le_refl _) (by unfold maxLen; omega)
  rw [Nat.one_mul] at hcut
  refine ⟨if n = 1 then 0 else sz, fun w' => ?_, ?_⟩
  · have e1 : (1 : Int) ≤ (n : Int) := by omega
    have e2 : (n : Int) ≤ (cap : Int) := by omega
    have e3 : (0 : Int) ≤ (n : Int) := by omega
    by_cases hn1 : n = 1
    · subst hn1
      simp [Instr.slice, run_underlying ht, Instr.sliceBounds, Instr.sliceBound, asIntOf, sizeOf, typeInfo, hi, hs]
      intro h; omega
    · have hne : ¬ (n : Int) = 1 := by omega
      simp [Instr.slice, run_underlying ht, Instr.sliceBounds, Instr.sliceBound, asIntOf, sizeOf, typeInfo, hi, hs, hn1]
      rw [if_pos hn, if_pos e1]
      simp [Addr.add_lit]
  · by_cases hn1 : n = 1
    · rw [if_pos hn1]
      subst hn1
      refine ⟨hcut.1, ?_⟩
      rcases hcut.2 with ⟨h', _⟩ | ⟨g', off', cap', cur, h', hb, hg, hnc, hcm, hcs, ht⟩
      · simp at h'
      · simp only [Value.slice.injEq, Option.some.injEq, Addr.mk.injEq, and_true, true_and] at h'
        obtain ⟨⟨rfl, _⟩, _⟩ := h'
        exact .inr ⟨g, 0, 0, cur, rfl, hb, hg, Nat.le_refl _, Nat.zero_le _, by simp, fun j hj => by have := hcut.1; omega⟩
    · rw [if_neg hn1]; exact hcut
/-- A slice of the call's own, of which the first j cells are l's. -/
def FillsAt (w : World) (base e sz : Nat) (v : Value) (n : Nat) (l : List Value) (j : Nat) : Prop :=
  ∃ z, z.length = l.length ∧ OwnsAt w base e sz v n (fill l z j)
theorem FillsAt.start {w : World} {base e sz n : Nat} {v : Value} {z l : List Value} (h : OwnsAt w base e sz v n z) (hl : l.length = n * sz) : FillsAt w base e sz v n l 0 :=
  ⟨z, by rw [hl]; exact h.1, by rw [fill_zero]; exact h⟩
theorem FillsAt.at {w : World} {base e sz n j : Nat} {a : Option Addr} {cap : Nat} {l : List Value} (h : FillsAt w base e sz (.slice a n cap) n l j) (hl : l.length = n * sz) (hn : 0 < l.length) :
    ∃ g off, a = some ⟨g, off, none⟩ ∧ base ≤ g ∧ g < w.heap.size ∧ (∀ i, i < l.length → (∃ u, w.cell? ⟨g, off + i, none⟩ = some u) ∧ w.frozen? ⟨g, off + i, none⟩ = false) := by
  obtain ⟨z, hz, h⟩ := h
  have h0 := h
  rcases h.2 with ⟨_, rfl⟩ | ⟨g, off, cap', cur, hv, hb, hg, _⟩
  · rw [Nat.zero_mul] at hl; omega
  · simp only [Value.slice.injEq, true_and] at hv
    obtain ⟨rfl, rfl⟩ := hv
    have hfl : (fill l z j).length = l.length := by rw [h0.1, hl]
    refine ⟨g, off, rfl, hb, (Array.getElem?_eq_some_iff.1 hg).1, fun i hi => ?_⟩
    obtain ⟨h1, h2⟩ := h0.cell i (by omega)
    exact ⟨⟨_, by rw [h1]; exact List.getElem?_eq_getElem (by omega)⟩, h2⟩
theorem FillsAt.store {w : World} {base e sz n j g off cap : Nat} {l : List Value} (h : FillsAt w base e sz (.slice (some ⟨g, off, none⟩) n cap) n l j) (u : Value) (hu : l[j]? = some u) :
    FillsAt (w.setCell ⟨g, off + j, none⟩ u) base e sz (.slice (some ⟨g, off, none⟩) n cap) n l (j+1) ∧ w.grownBy (w.setCell ⟨g, off + j, none⟩ u) (some g) := by
  obtain ⟨hj, hu⟩ := List.getElem?_eq_some_iff.1 hu
  obtain ⟨z, hz, h⟩ := h
  have hfl : (fill l z j).length = l.length := by
    have hkz : j < z.length := by omega
    simp only [fill, List.length_append, List.length_take, List.length_drop]; omega
  refine ⟨⟨z, hz, ?_⟩, (h.stored j (by omega) u).2⟩
  rw [← fill_set l z j hz hj, hu]
  exact (h.stored j (by omega) u).1
theorem FillsAt.done {w : World} {base e sz n j : Nat} {v : Value} {l : List Value} (h : FillsAt w base e sz v n l j) (hj : l.length ≤ j) : OwnsAt w base e sz v n l := by
  obtain ⟨z, hz, h⟩ := h
  rw [fill_all l z j hz hj] at h
  exact h
end Go.Own
