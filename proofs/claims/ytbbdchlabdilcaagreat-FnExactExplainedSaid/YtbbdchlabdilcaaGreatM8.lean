/- Texts of the claim. -/
import Derived.Test.YtbbdchlabdilcaaGreatN10o
import Derived.Test.YtbbdchlabdilcaaGreatM2
import Derived.Test.YtbbdchlabdilcaaGreatM7
/- The types of stage 9 lie in N10o from stage 10 on. -/
/- Chapter 9: what its functions answer. -/
namespace Go.Proofs.YtbbdchlabdilcaaGreat
set_option maxRecDepth 100000
open Go.RowKit Go.Proofs Go.Own
/-- An instruction of a program of n lines. -/
def instrOk (e : Instr) (n : Int) : Bool :=
  if e.op_ = 1 then inB e.a_ 0 3 && inB e.b_ 0 7 else
  if e.op_ = 2 then inB e.a_ 0 7 && inB e.b_ 0 3 else
  if e.op_ = 3 then inB e.a_ 0 3 && isVal e.b_ else
  if e.op_ = 4 then inB e.a_ 0 3 && inB e.b_ 0 3 else
  if e.op_ = 5 then inB e.a_ 0 3 && inB e.b_ 0 n else
  if e.op_ = 6 then e.a_ == 0 && e.b_ == 0 else
  if e.op_ = 7 then e.a_ == 0 && e.b_ == 0 else
  if e.op_ = 8 then inB e.a_ 0 n && e.b_ == 0 else false
theorem op_of {e : Instr} {n : Int} (h : instrOk e n = true) : e.op_ = 1 ∨ e.op_ = 2 ∨ e.op_ = 3 ∨ e.op_ = 4 ∨ e.op_ = 5 ∨ e.op_ = 6 ∨ e.op_ = 7 ∨ e.op_ = 8 := by
  unfold instrOk at h
  repeat (split at h; · omega)
  cases h
def progAt (xs : List Instr) (k : Nat) : Bool := (xs.drop k).all fun e => instrOk e xs.length
def progOk (xs : List Instr) : Bool := progAt xs 0 && decide (xs.length ≤ 30)
theorem progAt_step (xs : List Instr) (k : Nat) (h : k < xs.length) : progAt xs k = (instrOk xs[k] xs.length && progAt xs (k+1)) := by
  unfold progAt
  rw [List.drop_eq_getElem_cons h]; rfl
theorem progAt_end (xs : List Instr) (k : Nat) (h : ¬ k < xs.length) : progAt xs k = true := by
  unfold progAt
  rw [List.drop_eq_nil_of_le (by omega)]; rfl
theorem progOk_len {xs : List Instr} (h : progOk xs = true) : xs.length ≤ 30 := by simp [progOk] at h; exact h.2
theorem progOk_get {xs : List Instr} (h : progOk xs = true) (k : Nat) (hk : k < xs.length) : instrOk xs[k] xs.length = true := by
  simp [progOk, progAt] at h; exact h.1 _ (List.getElem_mem hk)
/-- Whether an instruction names the object. -/
def names (e : Instr) (o : Int) : Bool := (e.op_ == 1 && e.b_ == o) || (e.op_ == 2 && e.a_ == o)
def namedAt (xs : List Instr) (o : Int) (k : Nat) : Bool := (xs.take k).any fun e => names e o
theorem namedAt_succ (xs : List Instr) (o : Int) (k : Nat) (h : k < xs.length) : namedAt xs o (k+1) = (namedAt xs o k || names xs[k] o) := by
  unfold namedAt
  rw [List.take_add_one, List.getElem?_eq_getElem h, Option.toList_some, List.any_append]; simp
def named (xs : List Instr) (o : Int) : Bool := namedAt xs o xs.length
/-- The objects below k that are named. -/
def touchTo (xs : List Instr) (k : Nat) : List Int := ((List.range k).filter fun o : Nat => named xs (o : Int)).map fun o : Nat => (o : Int)
theorem touchTo_succ (xs : List Instr) (k : Nat) : touchTo xs (k+1) = touchTo xs k ++ if named xs (k : Int) = true then [(k : Int)] else [] := by
  unfold touchTo
  rw [List.range_succ, List.filter_append, List.map_append]
  by_cases h : named xs (k : Int) = true <;> simp [h]
theorem touchTo_len (xs : List Instr) (k : Nat) : (touchTo xs k).length ≤ k := by
  unfold touchTo
  rw [List.length_map]
  exact Nat.le_trans (List.length_filter_le _ _) (by simp)
def touchL (xs : List Instr) : List Int := if progOk xs = true then touchTo xs 8 else []
theorem touchL_len (xs : List Instr) : (touchL xs).length ≤ 1048576 := by
  unfold touchL; split
  · exact Nat.le_trans (touchTo_len xs 8) (by decide)
  · exact Nat.zero_le _
def isJump (e : Instr) : Bool := e.op_ == 5 || e.op_ == 8
def jumpAt (xs : List Instr) (k : Nat) : Bool := (xs.drop k).any isJump
theorem jumpAt_step (xs : List Instr) (k : Nat) (h : k < xs.length) : jumpAt xs k = (isJump xs[k] || jumpAt xs (k+1)) := by
  unfold jumpAt
  rw [List.drop_eq_getElem_cons h]; rfl
theorem jumpAt_end (xs : List Instr) (k : Nat) (h : ¬ k < xs.length) : jumpAt xs k = false := by
  unfold jumpAt
  rw [List.drop_eq_nil_of_le (by omega)]; rfl
def straightC (xs : List Instr) : Bool := progOk xs && !jumpAt xs 0
end Go.Proofs.YtbbdchlabdilcaaGreat
/- Steps through worlds in a region that draws its order, in which boxes are allocated anywhere: of any program. -/
namespace Go.Own
set_option linter.unusedVariables false
open Go.RowKit
theorem hop0 {N : Nat} {W X w' : World} (h : Below N W X) (hN : N ≤ X.heap.size) (b : Below X.heap.size X w') : Below N W w' := h.trans (b.mono hN)
theorem hop1 {N : Nat} {W X w' : World} {o : Obj} (h : Below N W X) (hN : N ≤ X.heap.size) (b : Below (X.alloc o).heap.size (X.alloc o) w') : Below N W w' := (h.alloc hN _).trans (b.mono (by simp; omega))
theorem hop2 {N : Nat} {W X w' : World} {o o2 : Obj} (h : Below N W X) (hN : N ≤ X.heap.size) (b : Below ((X.alloc o).alloc o2).heap.size ((X.alloc o).alloc o2) w') : Below N W w' := ((h.alloc hN _).alloc (by simp; omega) _).trans (b.mono (by simp; omega))
theorem at0 {N : Nat} {W X : World} (h : Below N W X) (hN : N ≤ X.heap.size) : Below N W X := h
theorem at1 {N : Nat} {W X : World} {o : Obj} (h : Below N W X) (hN : N ≤ X.heap.size) : Below N W (X.alloc o) := h.alloc hN _
theorem at2 {N : Nat} {W X : World} {o o2 : Obj} (h : Below N W X) (hN : N ≤ X.heap.size) : Below N W ((X.alloc o).alloc o2) := (h.alloc hN _).alloc (by simp; omega) _
theorem le0 {N : Nat} {X w' : World} (hN : N ≤ X.heap.size) (b : Below X.heap.size X w') : N ≤ X.heap.size := hN
theorem le1 {N : Nat} {X w' : World} {o : Obj} (hN : N ≤ X.heap.size) (b : Below (X.alloc o).heap.size (X.alloc o) w') : N ≤ (X.alloc o).heap.size := by simp; omega
theorem le2 {N : Nat} {X w' : World} {o o2 : Obj} (hN : N ≤ X.heap.size) (b : Below ((X.alloc o).alloc o2).heap.size ((X.alloc o).alloc o2) w') : N ≤ ((X.alloc o).alloc o2).heap.size := by simp; omega
theorem boxhop0 {X w' : World} {B : Nat} {cs : List Value} (h : BoxF X B cs) (b : Below X.heap.size X w') : BoxF w' B cs ∧ B < X.heap.size := ⟨h.below b, h.1.1⟩
theorem boxhop1 {X w' : World} {o : Obj} {B : Nat} {cs : List Value} (h : BoxF X B cs) (b : Below (X.alloc o).heap.size (X.alloc o) w') : BoxF w' B cs ∧ B < (X.alloc o).heap.size :=
  boxhop0 (h.below ((Below.refl _ _).alloc (Nat.le_refl _) o)) b
theorem boxnew0 {X w' : World} {cs : Array Value} {t : TypeId} (b : Below (X.alloc (.cells cs t)).heap.size (X.alloc (.cells cs t)) w') : BoxF w' X.heap.size cs.toList ∧ X.heap.size < (X.alloc (.cells cs t)).heap.size := boxhop0 (BoxF.alloc X cs t) b
theorem boxnewd {X w' : World} {cs : Array Value} {t : TypeId} (b : Below (X.drew.alloc (.cells cs t)).heap.size (X.drew.alloc (.cells cs t)) w') : BoxF w' X.heap.size cs.toList ∧ X.heap.size < (X.drew.alloc (.cells cs t)).heap.size := boxhop0 (BoxF.alloc X.drew cs t) b
theorem boxnew1 {X w' : World} {cs : Array Value} {t : TypeId} {o : Obj} (b : Below ((X.alloc (.cells cs t)).alloc o).heap.size ((X.alloc (.cells cs t)).alloc o) w') : BoxF w' X.heap.size cs.toList ∧ X.heap.size < ((X.alloc (.cells cs t)).alloc o).heap.size := boxhop1 (BoxF.alloc X cs t) b
theorem boxnewd1 {X w' : World} {cs : Array Value} {t : TypeId} {o : Obj} (b : Below ((X.drew.alloc (.cells cs t)).alloc o).heap.size ((X.drew.alloc (.cells cs t)).alloc o) w') : BoxF w' X.heap.size cs.toList ∧ X.heap.size < ((X.drew.alloc (.cells cs t)).alloc o).heap.size := boxhop1 (BoxF.alloc X.drew cs t) b
theorem boxnew2 {X w' : World} {cs : Array Value} {t : TypeId} {o : Obj} (b : Below ((X.alloc o).alloc (.cells cs t)).heap.size ((X.alloc o).alloc (.cells cs t)) w') : BoxF w' (X.heap.size + 1) cs.toList ∧ X.heap.size + 1 < ((X.alloc o).alloc (.cells cs t)).heap.size := by
  have h := boxnew0 b
  rw [show (X.alloc o).heap.size = X.heap.size + 1 by simp] at h
  exact h
theorem boxnewd2 {X w' : World} {cs : Array Value} {t : TypeId} {o : Obj} (b : Below ((X.drew.alloc o).alloc (.cells cs t)).heap.size ((X.drew.alloc o).alloc (.cells cs t)) w') : BoxF w' (X.heap.size + 1) cs.toList ∧ X.heap.size + 1 < ((X.drew.alloc o).alloc (.cells cs t)).heap.size := boxnew2 (X := X.drew) b
theorem box_cells2 {w : World} {B : Nat} {a b : Value} (h : BoxF w B [a, b]) : w.cell? ⟨B, 0, none⟩ = some a ∧ w.cell? ⟨B, 1, none⟩ = some b ∧ w.frozen? ⟨B, 0, none⟩ = false ∧ w.frozen? ⟨B, 1, none⟩ = false ∧ B ≠ w.heap.size :=
  ⟨h.1.2 0 (by simp), h.1.2 1 (by simp), h.2 0 (by simp), h.2 1 (by simp), Nat.ne_of_lt h.1.1⟩
theorem box_cells3 {w : World} {B : Nat} {a b c : Value} (h : BoxF w B [a, b, c]) : w.cell? ⟨B, 0, none⟩ = some a ∧ w.cell? ⟨B, 1, none⟩ = some b ∧ w.cell? ⟨B, 2, none⟩ = some c ∧ w.frozen? ⟨B, 0, none⟩ = false ∧ w.frozen? ⟨B, 1, none⟩ = false ∧ w.frozen? ⟨B, 2, none⟩ = false ∧ B ≠ w.heap.size :=
  ⟨h.1.2 0 (by simp), h.1.2 1 (by simp), h.1.2 2 (by simp), h.2 0 (by simp), h.2 1 (by simp), h.2 2 (by simp), Nat.ne_of_lt h.1.1⟩
/-- What a call has made stays at a store into a box that was there ahead of the call. -/
theorem own_set {α : Type} [A : Enc α] {S : Nat → Prop} {w : World} {v : Value} {xs : List α} (h : ownL S w v xs) {B j : Nat} {u : Value} (hB : ∀ b, S b → b ≠ B) : ownL S (w.setCell ⟨B, j, none⟩ u) v xs := h.keep fun b hb => heap_setCell_other _ _ b _ (hB b hb)
theorem own_alloc {α : Type} [A : Enc α] {S : Nat → Prop} {w : World} {v : Value} {xs : List α} (h : ownL S w v xs) {o : Obj} (hB : ∀ b, S b → b < w.heap.size) : ownL S (w.alloc o) v xs := h.keep fun b hb => ((Below.refl w.heap.size w).alloc (Nat.le_refl _) o).block b (hB b hb)
end Go.Own
