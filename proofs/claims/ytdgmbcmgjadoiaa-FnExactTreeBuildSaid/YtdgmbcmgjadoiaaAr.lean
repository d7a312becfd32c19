/- Arrays of plain structs in boxes: an element stored, a part loaded. Of any program. -/
import Derived.Test.YtdgmbcmgjadoiaaMid2
import Derived.Deep.MidRow
namespace Go.Own
open Go.RowKit
theorem flatA_set {α : Type} (f : α → List Value) (sz : Nat) (hsz : ∀ x, (f x).length = sz) : ∀ (M : List α) (i : Nat) (h : i < M.length), (M.take i).flatMap f ++ f M[i] ++ (M.drop (i+1)).flatMap f = M.flatMap f
  | x :: M, 0, h => by simp
  | x :: M, i+1, h => by
    have ih := flatA_set f sz hsz M i (by simpa using h)
    rw [List.take_succ_cons, List.flatMap_cons, List.flatMap_cons, List.drop_succ_cons, List.getElem_cons_succ, ← ih]
    simp
theorem take_len {α : Type} (f : α → List Value) (sz : Nat) (hsz : ∀ x, (f x).length = sz) (M : List α) (i : Nat) (h : i ≤ M.length) : ((M.take i).flatMap f).length = i * sz := by
  rw [flatMap_len f sz hsz, List.length_take, Nat.min_eq_left h]
theorem boxA_cell {α : Type} (f : α → List Value) (sz : Nat) (hsz : ∀ x, (f x).length = sz) {w : World} {b : Nat} {A Z : List Value} {M : List α} (h : BoxF w b (A ++ M.flatMap f ++ Z)) (i : Nat) (hi : i < M.length) (j : Nat) (hj : j < sz) : w.cell? ⟨b, A.length + i * sz + j, none⟩ = (f M[i])[j]? := by
  have hl := flatMap_len f sz hsz M
  have hb : i * sz + j < M.length * sz := by
    have : (i + 1) * sz ≤ M.length * sz := Nat.mul_le_mul_right sz hi
    rw [Nat.add_mul] at this; omega
  rw [h.1.2 _ (by simp only [List.length_append, hl]; omega), ← flatMap_get f sz hsz M i hi j hj]
  rw [List.append_assoc, List.getElem?_append_right (by omega), List.getElem?_append_left (by rw [hl]; omega)]
  congr 1; omega
theorem box_range {w : World} {b : Nat} {A B C : List Value} (h : BoxF w b (A ++ B ++ C)) : w.rangeAt b A.length B := fun j v hj => by
  have hl : j < B.length := by
    rcases Nat.lt_or_ge j B.length with h9 | h9
    · exact h9
    · rw [List.getElem?_eq_none h9] at hj; cases hj
  rw [h.1.2 _ (by simp only [List.length_append]; omega), List.append_assoc, List.getElem?_append_right (by omega), List.getElem?_append_left (by omega), ← hj]
  congr 1; omega
section
variable {P : Program}
theorem wpList_store_el {α : Type} (f : α → List Value) (sz : Nat) (hsz : ∀ x, (f x).length = sz) {ops : Array Oper} {rest : List Oper} {op : Oper} {a : Act} {w : World} {Q : Exit → Act → World → Prop} (hgd : op.guard = none) (ty : TypeId) (x y : Operand) (ho : op.op = .store ty x y)
    (b o : Nat) (A Z : List Value) (M : List α) (i : Nat) (v : α) (hb : BoxF w b (A ++ M.flatMap f ++ Z)) (hi : i < M.length) (hoff : o = A.length + i * sz) (hx : a.eval x = .pointer (some ⟨b, o, none⟩)) (hy : a.eval y = .agg (f v).toArray)
    (hn : (P.info? ty).map (·.size) = some sz) (h1 : (f v).all (·.oneCell') = true)
    (h : ∀ w', BoxF w' b (A ++ (M.set i v).flatMap f ++ Z) → ChgS (fun k => k = b) w w' → wpList P ops Q rest (a.put op.dst undef) w') : wpList P ops Q (op :: rest) a w := by
  have e1 : A ++ M.flatMap f ++ Z = (A ++ (M.take i).flatMap f) ++ f M[i] ++ ((M.drop (i+1)).flatMap f ++ Z) := by rw [← flatA_set f sz hsz M i hi]; simp
  have e2 : A ++ (M.set i v).flatMap f ++ Z = (A ++ (M.take i).flatMap f) ++ f v ++ ((M.drop (i+1)).flatMap f ++ Z) := by
    rw [← flatA_set f sz hsz (M.set i v) i (by rw [List.length_set]; exact hi), List.getElem_set_self, List.take_set_of_le (Nat.le_refl _), List.drop_set_of_lt (by omega)]; simp
  have hpl : (A ++ (M.take i).flatMap f).length = o := by rw [List.length_append, take_len f sz hsz M i (by omega), hoff]
  refine wpList_store_part hgd ty x y ho b (A ++ (M.take i).flatMap f) (f M[i]) ((M.drop (i+1)).flatMap f ++ Z) (f v) _ hb e1 (by rw [hpl]; exact hx) hy (by rw [hsz, hsz]) (by rw [hsz]; exact hn) h1 ?_
  intro w' B C
  exact h w' (by rw [e2]; exact B) C
/-- A part of a box loaded whole. -/
theorem wpList_load_part {ops : Array Oper} {rest : List Oper} {op : Oper} {a : Act} {w : World} {Q : Exit → Act → World → Prop} (hgd : op.guard = none) (ty : TypeId) (x : Operand) (ho : op.op = .load ty x)
    (b : Nat) (A B C all : List Value) (hb : BoxF w b all) (ha : all = A ++ B ++ C) (hx : a.eval x = .pointer (some ⟨b, A.length, none⟩)) (d : TypeDesc) (hu : P.underlying ty = some d) (hd : d.isRow = true) (hi : (P.info? ty).map (·.size) = some B.length)
    (h : wpList P ops Q rest (a.put op.dst (.agg B.toArray)) w) : wpList P ops Q (op :: rest) a w := by
  subst ha
  exact wpList_load_mid hgd ty x ho b A.length hx B d (box_range hb) hu hd hi h
theorem results_box {fn : Func} {p : Tmp} {ty : TypeId} (h : fn.results = #[.cell p ty]) (tmps : Array Value) (w : World) (b : Nat) (cs : List Value) (hp : tmps.getD p undef = .pointer (some ⟨b, 0, none⟩)) (hb : BoxF w b cs) (d : TypeDesc) (hu : P.underlying ty = some d) (hd : d.isRow = true) (hi : (P.info? ty).map (·.size) = some cs.length) :
    (results fn tmps).run P w = .ok (.agg cs.toArray) w := by
  have hr := run_loadVar_mid (P := P) w b 0 ty cs d hb.1.range hu hd hi
  have hp2 : tmps[p]?.getD undef = .pointer (some ⟨b, 0, none⟩) := by simpa using hp
  simp [results, h, hp2, asAddr, hr]
theorem results_box3 {fn : Func} {p q r : Tmp} {ty : TypeId} (h : fn.results = #[.cell p ty, .tmp q, .tmp r]) (tmps : Array Value) (w : World) (b : Nat) (cs : List Value) (hp : tmps.getD p undef = .pointer (some ⟨b, 0, none⟩)) (hb : BoxF w b cs) (d : TypeDesc) (hu : P.underlying ty = some d) (hd : d.isRow = true) (hi : (P.info? ty).map (·.size) = some cs.length) :
    (results fn tmps).run P w = .ok (.tuple #[.agg cs.toArray, tmps.getD q undef, tmps.getD r undef]) w := by
  have hr := run_loadVar_mid (P := P) w b 0 ty cs d hb.1.range hu hd hi
  have hp2 : tmps[p]?.getD undef = .pointer (some ⟨b, 0, none⟩) := by simpa using hp
  simp [results, h, hp2, asAddr, hr]
end
end Go.Own
