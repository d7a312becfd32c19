/- Steps through worlds in a region that draws its order, in which boxes are allocated anywhere: of any program. -/
import Derived.Test.YtdgmbcmgjadoiaaEnc5
namespace Go.Own
set_option linter.unusedVariables false
open Go.RowKit
theorem hop0 {N : Nat} {W X w' : World} (h : Below N W X) (hN : N ≤ X.heap.size) (b : Below X.heap.size X w') : Below N W w' := h.trans (b.mono hN)
theorem hop1 {N : Nat} {W X w' : World} {o : Obj} (h : Below N W X) (hN : N ≤ X.heap.size) (b : Below (X.alloc o).heap.size (X.alloc o) w') : Below N W w' := (h.alloc hN _).trans (b.mono (by simp; omega))
theorem hop2 {N : Nat} {W X w' : World} {o o2 : Obj} (h : Below N W X) (hN : N ≤ X.heap.size) (b : Below ((X.alloc o).alloc o2).heap.size ((X.alloc o).alloc o2) w') : Below N W w' := ((h.alloc hN _).alloc (by simp; omega) _).trans (b.mono (by simp; omega))
theorem at0 {N : Nat} {W X : World} (h : Below N W X) (hN : N ≤ X.heap.size) : Below N W X := h
theorem at1 {N : Nat} {W X : World} {o : Obj} (h : Below N W X) (hN : N ≤ X.heap.size) : Below N W (X.alloc o) := h.alloc hN _
theorem at2 {N : Nat} {W X : World} {o o2 : Obj} (h : Below N W X) (hN : N ≤ X.heap.size) : Below N W ((X.alloc o).alloc o2) := (h.alloc hN _).alloc (by simp; omega) _
theorem le0 {N : Nat} {X w' : World} (hN : N ≤ X.heap.size) (b : Below X.heap.size X w') : N ≤ X.heap.size := hN
theorem le1 {N : Nat} {X w' : World} {o : Obj} (hN : N ≤ X.heap.size) (b : Below (X.alloc o).heap.size (X.alloc o) w') : N ≤ (X.alloc o).heap.size := by simp; omega
theorem le2 {N : Nat} {X w' : World} {o o2 : Obj} (hN : N ≤ X.heap.size) (b : Below ((X.alloc o).alloc o2).heap.size ((X.alloc o).alloc o2) w') : N ≤ ((X.alloc o).alloc o2).heap.size := by simp; omega
theorem boxhop0 {X w' : World} {B : Nat} {cs : List Value} (h : BoxF X B cs) (b : Below X.heap.size X w') : BoxF w' B cs ∧ B < X.heap.size := ⟨h.below b, h.1.1⟩
theorem boxhop1 {X w' : World} {o : Obj} {B : Nat} {cs : List Value} (h : BoxF X B cs) (b : Below (X.alloc o).heap.size (X.alloc o) w') : BoxF w' B cs ∧ B < (X.alloc o).heap.size :=
  boxhop0 (h.below ((Below.refl _ _).alloc (Nat.le_refl _) o)) b
theorem boxnew0 {X w' : World} {cs : Array Value} {t : TypeId} (b : Below (X.alloc (.cells cs t)).heap.size (X.alloc (.cells cs t)) w') : BoxF w' X.heap.size cs.toList ∧ X.heap.size < (X.alloc (.cells cs t)).heap.size := boxhop0 (BoxF.alloc X cs t) b
theorem boxnewd {X w' : World} {cs : Array Value} {t : TypeId} (b : Below (X.drew.alloc (.cells cs t)).heap.size (X.drew.alloc (.cells cs t)) w') : BoxF w' X.heap.size cs.toList ∧ X.heap.size < (X.drew.alloc (.cells cs t)).heap.size := boxhop0 (BoxF.alloc X.drew cs t) b
theorem boxnew1 {X w' : World} {cs : Array Value} {t : TypeId} {o : Obj} (b : Below ((X.alloc (.cells cs t)).alloc o).heap.size ((X.alloc (.cells cs t)).alloc o) w') : BoxF w' X.heap.size cs.toList ∧ X.heap.size < ((X.alloc (.cells cs t)).alloc o).heap.size := boxhop1 (BoxF.alloc X cs t) b
theorem boxnewd1 {X w' : World} {cs : Array Value} {t : TypeId} {o : Obj} (b : Below ((X.drew.alloc (.cells cs t)).alloc o).heap.size ((X.drew.alloc (.cells cs t)).alloc o) w') : BoxF w' X.heap.size cs.toList ∧ X.heap.size < ((X.drew.alloc (.cells cs t)).alloc o).heap.size := boxhop1 (BoxF.alloc X.drew cs t) b
theorem boxnew2 {X w' : World} {cs : Array Value} {t : TypeId} {o : Obj} (b : Below ((X.alloc o).alloc (.cells cs t)).heap.size ((X.alloc o).alloc (.cells cs t)) w') : BoxF w' (X.heap.size + 1) cs.toList ∧ X.heap.size + 1 < ((X.alloc o).alloc (.cells cs t)).heap.size := by
  have h := boxnew0 b
  rw [show (X.alloc o).heap.size = X.heap.size + 1 by simp] at h
  exact h
theorem boxnewd2 {X w' : World} {cs : Array Value} {t : TypeId} {o : Obj} (b : Below ((X.drew.alloc o).alloc (.cells cs t)).heap.size ((X.drew.alloc o).alloc (.cells cs t)) w') : BoxF w' (X.heap.size + 1) cs.toList ∧ X.heap.size + 1 < ((X.drew.alloc o).alloc (.cells cs t)).heap.size := boxnew2 (X := X.drew) b
theorem box_cells2 {w : World} {B : Nat} {a b : Value} (h : BoxF w B [a, b]) : w.cell? ⟨B, 0, none⟩ = some a ∧ w.cell? ⟨B, 1, none⟩ = some b ∧ w.frozen? ⟨B, 0, none⟩ = false ∧ w.frozen? ⟨B, 1, none⟩ = false ∧ B ≠ w.heap.size :=
  ⟨h.1.2 0 (by simp), h.1.2 1 (by simp), h.2 0 (by simp), h.2 1 (by simp), Nat.ne_of_lt h.1.1⟩
theorem box_cells3 {w : World} {B : Nat} {a b c : Value} (h : BoxF w B [a, b, c]) : w.cell? ⟨B, 0, none⟩ = some a ∧ w.cell? ⟨B, 1, none⟩ = some b ∧ w.cell? ⟨B, 2, none⟩ = some c ∧ w.frozen? ⟨B, 0, none⟩ = false ∧ w.frozen? ⟨B, 1, none⟩ = false ∧ w.frozen? ⟨B, 2, none⟩ = false ∧ B ≠ w.heap.size :=
  ⟨h.1.2 0 (by simp), h.1.2 1 (by simp), h.1.2 2 (by simp), h.2 0 (by simp), h.2 1 (by simp), h.2 2 (by simp), Nat.ne_of_lt h.1.1⟩
/-- What a call has made stays at a store into a box that was there ahead of the call. -/
theorem own_set {α : Type} [A : Enc α] {S : Nat → Prop} {w : World} {v : Value} {xs : List α} (h : ownL S w v xs) {B j : Nat} {u : Value} (hB : ∀ b, S b → b ≠ B) : ownL S (w.setCell ⟨B, j, none⟩ u) v xs := h.keep fun b hb => heap_setCell_other _ _ b _ (hB b hb)
theorem own_alloc {α : Type} [A : Enc α] {S : Nat → Prop} {w : World} {v : Value} {xs : List α} (h : ownL S w v xs) {o : Obj} (hB : ∀ b, S b → b < w.heap.size) : ownL S (w.alloc o) v xs := h.keep fun b hb => ((Below.refl w.heap.size w).alloc (Nat.le_refl _) o).block b (hB b hb)
end Go.Own
