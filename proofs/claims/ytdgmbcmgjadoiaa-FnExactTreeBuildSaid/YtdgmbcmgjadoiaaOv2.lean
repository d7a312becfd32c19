/- Boxes of many cells, loaded and stored within a fence. Of any program. -/
import Derived.Test.YtdgmbcmgjadoiaaOv
import Derived.Test.YtdgmbcmgjadoiaaAr
namespace Go.Own
open Go Go.RowKit
section
variable {F : Fence} {n : Nat} {P : Program} {ops : Array Oper} {rest : List Oper} {op : Oper} {a : Act} {w : World} {Q : Exit → Act → World → Prop}
theorem inL_load_mid (hgd : op.guard = none) (ty : TypeId) (x : Operand) (ho : op.op = .load ty x)
    (b o : Nat) (hx : a.eval x = .pointer (some ⟨b, o, none⟩)) (cs : List Value) (d : TypeDesc) (hc : w.rangeAt b o cs)
    (hu : P.underlying ty = some d) (hd : d.isRow = true) (hi : (P.info? ty).map (·.size) = some cs.length)
    (h : wpListIn F n P ops Q rest (a.put op.dst (.agg cs.toArray)) w) : wpListIn F n P ops Q (op :: rest) a w := by
  refine wpListIn_plain hgd fun K hK => ?_
  unfold Oper.wpIn
  refine ⟨by simp [Oper.about, ho], ?_⟩
  rw [Oper.semAt_plain F _ _ (by rw [ho]; intro c hc'; cases hc')]
  unfold execOp
  simp only [ho, hx, Instr.loadAt, Instr.sureAddr, Sem.run_bind, Sem.run_pure, Result.andThen_ok, run_loadVar_mid w b o ty cs d hc hu hd hi]
  exact hK _ _ h
theorem inL_store_mid (hgd : op.guard = none) (ty : TypeId) (x y : Operand) (ho : op.op = .store ty x y)
    (b o : Nat) (cells : Array Value) (hx : a.eval x = .pointer (some ⟨b, o, none⟩)) (hy : a.eval y = .agg cells)
    (ht : w.there b o cells.size) (hi : (P.info? ty).map (·.size) = some cells.size) (h1 : cells.all (·.oneCell') = true)
    (h : wpListIn F n P ops Q rest (a.put op.dst undef) (w.setCells b o cells.toList)) : wpListIn F n P ops Q (op :: rest) a w := by
  refine wpListIn_plain hgd fun K hK => ?_
  unfold Oper.wpIn
  refine ⟨by simp [Oper.about, ho], ?_⟩
  rw [Oper.semAt_plain F _ _ (by rw [ho]; intro c hc'; cases hc')]
  unfold execOp
  simp only [ho, hx, hy, Instr.storeAt, Instr.sureAddr, Sem.run_bind, Sem.run_pure, Result.andThen_ok, run_storeVar_mid w b o ty cells ht hi h1]
  exact hK _ _ h
theorem inL_load_box (hgd : op.guard = none) (ty : TypeId) (x : Operand) (ho : op.op = .load ty x)
    (b : Nat) (cs : List Value) (hb : Box w b cs) (hx : a.eval x = .pointer (some ⟨b, 0, none⟩)) (d : TypeDesc) (hu : P.underlying ty = some d) (hd : d.isRow = true) (hi : (P.info? ty).map (·.size) = some cs.length)
    (h : wpListIn F n P ops Q rest (a.put op.dst (.agg cs.toArray)) w) : wpListIn F n P ops Q (op :: rest) a w :=
  inL_load_mid hgd ty x ho b 0 hx cs d hb.range hu hd hi h
theorem inL_load_part (hgd : op.guard = none) (ty : TypeId) (x : Operand) (ho : op.op = .load ty x)
    (b : Nat) (A B C all : List Value) (hb : BoxF w b all) (ha : all = A ++ B ++ C) (hx : a.eval x = .pointer (some ⟨b, A.length, none⟩)) (d : TypeDesc) (hu : P.underlying ty = some d) (hd : d.isRow = true) (hi : (P.info? ty).map (·.size) = some B.length)
    (h : wpListIn F n P ops Q rest (a.put op.dst (.agg B.toArray)) w) : wpListIn F n P ops Q (op :: rest) a w := by
  subst ha
  exact inL_load_mid hgd ty x ho b A.length hx B d (box_range hb) hu hd hi h
theorem inL_store_box (hgd : op.guard = none) (ty : TypeId) (x y : Operand) (ho : op.op = .store ty x y)
    (b : Nat) (cs vs : List Value) (hb : BoxF w b cs) (hx : a.eval x = .pointer (some ⟨b, 0, none⟩)) (hy : a.eval y = .agg vs.toArray) (hl : cs.length = vs.length)
    (hi : (P.info? ty).map (·.size) = some vs.length) (h1 : vs.all (·.oneCell') = true)
    (h : ∀ w', BoxF w' b vs → ChgS (fun k => k = b) w w' → wpListIn F n P ops Q rest (a.put op.dst undef) w') : wpListIn F n P ops Q (op :: rest) a w :=
  inL_store_mid hgd ty x y ho b 0 vs.toArray hx hy (hb.there (by simp [hl])) (by simpa using hi) (all_oneCell_toArray (by simpa using h1))
    (h _ (by simpa using hb.setCells vs hl) (chg_setCells (S := fun k => k = b) b rfl _ 0 w (ChgS.refl _ _)))
theorem inL_index (hgd : op.guard = none) (t : TypeId) (x i : Operand) (ho : op.op = .index t x i)
    (xv iv rv : Value) (hx : a.eval x = xv) (hi : a.eval i = iv) (hrun : ∀ w : World, (Instr.index t xv iv).run P w = .ok rv w) (h : wpListIn F n P ops Q rest (a.put op.dst rv) w) : wpListIn F n P ops Q (op :: rest) a w := by
  refine wpListIn_plain hgd fun K hK => ?_
  unfold Oper.wpIn
  refine ⟨by simp [Oper.about, ho], ?_⟩
  rw [Oper.semAt_plain F _ _ (by rw [ho]; intro c hc'; cases hc')]
  simp [execOp, ho, hx, hi, hrun w, Result.andThen]
  exact hK _ _ h
theorem push_hit {α : Type} (a : Array α) (x : α) (n : Nat) (h : n = a.size) : (a.push x)[n]? = some x := by rw [Array.getElem?_push, if_pos h]
theorem push_miss {α : Type} (a : Array α) (x : α) (n : Nat) (h : n < a.size) : (a.push x)[n]? = a[n]? := by rw [Array.getElem?_push, if_neg (by omega)]
theorem boxF_ng {X Y : World} {row : Option Nat} {b : Nat} {cs : List Value} {B : Nat} (h : BoxF X b cs) (hp : 0 < cs.length) (hg : X.grownBy Y row) (hr : ∀ r, row = some r → B ≤ r ∧ ∃ o : Obj, X.heap[r]? = some o ∧ o.isCells = false) : BoxF Y b cs :=
  (boxF_own b (fun _ : Unit => cs) B () X Y row ⟨h, hp⟩ hg hr).1
theorem below_ng {N B : Nat} {w X Y : World} {row : Option Nat} (h : Below N w X) (hN : N ≤ w.heap.size) (hB : N ≤ B) (hg : X.grownBy Y row) (hr : ∀ r, row = some r → B ≤ r ∧ ∃ o : Obj, X.heap[r]? = some o ∧ o.isCells = false) : Below N w Y :=
  ownFrom_below (β := Unit) hN hB () X Y row h hg hr
theorem flat_part {α : Type} (f : α → List Value) (sz : Nat) (hsz : ∀ x, (f x).length = sz) (L : List α) (k : Nat) (h : k < L.length) : (L.flatMap f).toArray.extract (k * sz) (k * sz + sz) = (f L[k]).toArray := by
  have e := (flatA_set f sz hsz L k h).symm
  rw [e, List.extract_toArray]
  congr 1
  rw [List.extract_eq_take_drop, List.append_assoc, List.drop_append_of_le_length (by rw [take_len f sz hsz L k (by omega)]; exact Nat.le_refl _), List.drop_of_length_le (by rw [take_len f sz hsz L k (by omega)]; exact Nat.le_refl _), List.nil_append, show k * sz + sz - k * sz = sz by omega, List.take_append_of_le_length (by rw [hsz]; exact Nat.le_refl _), List.take_of_length_le (by rw [hsz]; exact Nat.le_refl _)]
end
end Go.Own
