/- Rows in boxes: cells that are there and not frozen. -/
import Derived.Test.YtdgmbcmgjadoiaaBase2
import Derived.Handy
namespace Go.Own
open Go.RowKit
/-- A struct's cells in a block of the call's own, none frozen. -/
def BoxF (w : World) (b : Nat) (cs : List Value) : Prop := Box w b cs ∧ ∀ j, j < cs.length → w.frozen? ⟨b, j, none⟩ = false
theorem BoxF.below {w w' : World} {b : Nat} {cs : List Value} (h : BoxF w b cs) (hb : Below w.heap.size w w') : BoxF w' b cs :=
  ⟨h.1.below hb, fun j hj => (hb.frozen (p := ⟨b, j, none⟩) h.1.1).trans (h.2 j hj)⟩
theorem BoxF.alloc (w : World) (cs : Array Value) (t : TypeId) : BoxF (w.alloc (.cells cs t)) w.heap.size cs.toList :=
  ⟨Box.alloc w cs t, fun j _ => by simp [go_sem]⟩
theorem BoxF.grown {w w' : World} {r : Option Nat} {b : Nat} {cs : List Value} (h : BoxF w b cs) (hg : w.grownBy w' r) (hr : ¬ r = some b) : BoxF w' b cs :=
  ⟨h.1.grown hg hr, fun j hj => by
    have : w'.frozen? ⟨b, j, none⟩ = w.frozen? ⟨b, j, none⟩ := by
      have hblk := hg.block b h.1.1 fun e => hr e.symm
      simp [World.frozen?, hblk]
    exact this.trans (h.2 j hj)⟩
theorem BoxF.other {w : World} {b : Nat} {cs : List Value} (h : BoxF w b cs) (a : Addr) (v : Value) (ha : a.block ≠ b) : BoxF (w.setCell a v) b cs :=
  ⟨⟨by simpa [World.setCell] using h.1.1, fun j hj => by rw [World.cell?_setCell_other _ _ _ _ (by intro e; exact ha (by rw [e]))]; exact h.1.2 j hj⟩, fun j hj => by rw [World.frozen?_setCell]; exact h.2 j hj⟩
theorem BoxF.set {w : World} {b : Nat} {cs : List Value} (h : BoxF w b cs) (j : Nat) (hj : j < cs.length) (v : Value) : BoxF (w.setCell ⟨b, j, none⟩ v) b (cs.set j v) := by
  refine ⟨⟨by simpa [World.setCell] using h.1.1, fun i hi => ?_⟩, fun i hi => by rw [World.frozen?_setCell]; exact h.2 i (by simpa using hi)⟩
  by_cases e : j = i
  · subst e
    have hc := h.1.2 j hj
    rw [List.getElem?_eq_getElem hj] at hc
    rw [World.cell?_setCell_same _ _ _ hc, List.getElem?_set_self hj]
  · rw [World.cell?_setCell_other _ _ _ _ (by intro e'; simp only [Addr.mk.injEq, true_and, and_true] at e'; exact e e'), List.getElem?_set_ne e]
    exact h.1.2 i (by simpa using hi)
theorem owns_lt {w : World} {base e sz n : Nat} {g o c : Nat} {cs : List Value} (h : w.ownsRow base e sz (.slice (some ⟨g, o, none⟩) n c) n cs) : base ≤ g ∧ g < w.heap.size :=
  World.ownsRow.lt h g rfl
/-- A one-cell write into a row of the call's own. -/
theorem owns_put {w : World} {base e sz n g c : Nat} {cs : List Value} (h : w.ownsRow base e sz (.slice (some ⟨g, 0, none⟩) n c) n cs) (j : Nat) (u : Value) :
    (w.setCell ⟨g, j, none⟩ u).ownsRow base e sz (.slice (some ⟨g, 0, none⟩) n c) n (cs.set j u) := (h.stored j u).1
theorem apart_none (v : Value) {o : Option Nat} (h : o = none) : v.ownBlock = none ∨ v.ownBlock ≠ o := by
  subst h; cases v.ownBlock <;> simp
theorem apart_blk {v : Value} {B lo hi : Nat} (h : Hid (∀ k, v.ownBlock = some k → lo ≤ k ∧ k < hi)) (hb : hi ≤ B ∨ B < lo) : v.ownBlock = none ∨ v.ownBlock ≠ some B := by
  cases hv : v.ownBlock with
  | none => exact .inl rfl
  | some k => refine .inr fun e => ?_; have := h.out k hv; have e2 := Option.some.inj e; omega
theorem grownBy_setCell (w : World) (a : Addr) (v : Value) : w.grownBy (w.setCell a v) (some a.block) :=
  ⟨rfl, rfl, rfl, by simp [World.setCell], fun k hk hr => by rw [heap_setCell_other w a k v (fun e => hr (by rw [e]))]⟩
theorem BoxF.ofHeap {w : World} {b : Nat} {cs : Array Value} {t : TypeId} (h : w.heap[b]? = some (.cells cs t (0, 0))) : BoxF w b cs.toList :=
  ⟨⟨(Array.getElem?_eq_some_iff.1 h).1, fun j hj => by rw [cell_of_row w b j cs t (0, 0) h]; simp⟩, fun j _ => frozen_of_row w b j cs t h⟩
theorem owns_ofHeap {w : World} {g e sz n N : Nat} {cs : Array Value} (h : w.heap[g]? = some (.cells cs e (0, 0))) (hN : N ≤ g) (hn : cs.size = n * sz) (hm : n ≤ maxLen) : w.ownsRow N e sz (.slice (some ⟨g, 0, none⟩) n n) n cs.toList :=
  ⟨by simpa using hn, .inr ⟨g, n, cs, rfl, hN, h, Nat.le_refl _, hm, hn, by rw [← hn, ← Array.length_toList, List.take_length]⟩⟩
theorem alloc3 (X : World) (a b c : Obj) : (((X.alloc a).alloc b).alloc c).drew.heap[X.heap.size]? = some a ∧ (((X.alloc a).alloc b).alloc c).drew.heap[X.heap.size + 1]? = some b ∧ (((X.alloc a).alloc b).alloc c).drew.heap[X.heap.size + 1 + 1]? = some c ∧ X.heap.size ≤ (((X.alloc a).alloc b).alloc c).drew.heap.size := by
  have e : (((X.alloc a).alloc b).alloc c).drew.heap = ((X.heap.push a).push b).push c := rfl
  rw [e]
  refine ⟨?_, ?_, ?_, by simp; omega⟩
  · rw [Array.getElem?_push, if_neg (by simp; omega), Array.getElem?_push, if_neg (by simp), Array.getElem?_push, if_pos rfl]
  · rw [Array.getElem?_push, if_neg (by simp), Array.getElem?_push, if_pos (by simp)]
  · rw [Array.getElem?_push, if_pos (by simp)]
/-- A slice literal. -/
theorem owns_litN (w : World) (e sz n : Nat) (cs : Array Value) (N : Nat) (hN : N ≤ w.heap.size) (hn : cs.size = n * sz) (hm : n ≤ maxLen) : (w.alloc (.cells cs e)).ownsRow N e sz (.slice (some ⟨w.heap.size, 0, none⟩) n n) n cs.toList :=
  ⟨by simpa using hn, .inr ⟨w.heap.size, n, cs, rfl, hN, heap_alloc_new w _, Nat.le_refl _, hm, hn, by rw [← hn, ← Array.length_toList, List.take_length]⟩⟩
theorem below_grown {w w' : World} {r : Option Nat} {N : Nat} (hg : w.grownBy w' r) (hN : N ≤ w.heap.size) (hr : ∀ k, r = some k → N ≤ k) : Below N w w' :=
  ⟨hg.os, hg.tape, hg.output, hg.size, fun k hk => hg.block k (by omega) fun e => by have := hr k e.symm; omega⟩
/-- A slice literal of one cell. -/
theorem owns_lit1 (w : World) (e : TypeId) (u : Value) (N : Nat) (hN : N ≤ w.heap.size) : (w.alloc (.cells #[u] e)).ownsRow N e 1 (.slice (some ⟨w.heap.size, 0, none⟩) 1 1) 1 [u] :=
  ⟨by simp, .inr ⟨w.heap.size, 1, #[u], rfl, hN, heap_alloc_new w _, Nat.le_refl _, by decide, by simp, by simp⟩⟩
/-- Some cells of a block of the call's own, from the place o on, none frozen. -/
def CellsO (w : World) (b o : Nat) (cs : List Value) : Prop := b < w.heap.size ∧ ∀ j, j < cs.length → w.cell? ⟨b, o + j, none⟩ = cs[j]? ∧ w.frozen? ⟨b, o + j, none⟩ = false
theorem CellsO.below {w w' : World} {b o : Nat} {cs : List Value} (h : CellsO w b o cs) (hb : Below w.heap.size w w') : CellsO w' b o cs :=
  ⟨Nat.lt_of_lt_of_le h.1 hb.size, fun j hj => ⟨(hb.cell (p := ⟨b, o + j, none⟩) h.1).trans (h.2 j hj).1, (hb.frozen (p := ⟨b, o + j, none⟩) h.1).trans (h.2 j hj).2⟩⟩
theorem CellsO.other {w : World} {b o : Nat} {cs : List Value} (h : CellsO w b o cs) (a : Addr) (v : Value) (ha : a.block ≠ b) : CellsO (w.setCell a v) b o cs :=
  ⟨by simpa [World.setCell] using h.1, fun j hj => ⟨by rw [World.cell?_setCell_other _ _ _ _ (by intro e; exact ha (by rw [e]))]; exact (h.2 j hj).1, by rw [World.frozen?_setCell]; exact (h.2 j hj).2⟩⟩
theorem CellsO.set {w : World} {b o : Nat} {cs : List Value} (h : CellsO w b o cs) (j : Nat) (hj : j < cs.length) (v : Value) : CellsO (w.setCell ⟨b, o + j, none⟩ v) b o (cs.set j v) := by
  refine ⟨by simpa [World.setCell] using h.1, fun i hi => ⟨?_, by rw [World.frozen?_setCell]; exact (h.2 i (by simpa using hi)).2⟩⟩
  by_cases e : j = i
  · subst e
    have hc := (h.2 j hj).1
    rw [List.getElem?_eq_getElem hj] at hc
    rw [World.cell?_setCell_same _ _ _ hc, List.getElem?_set_self hj]
  · rw [World.cell?_setCell_other _ _ _ _ (by intro e'; simp only [Addr.mk.injEq, true_and, and_true] at e'; omega), List.getElem?_set_ne e]
    exact (h.2 i (by simpa using hi)).1
end Go.Own
