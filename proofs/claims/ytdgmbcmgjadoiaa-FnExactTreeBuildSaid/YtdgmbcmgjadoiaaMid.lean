/- A whole struct out of a box and into it in one step, however many cells it has. Of any program. -/
import Derived.Test.YtdgmbcmgjadoiaaBx
import Derived.Test.YtdgmbcmgjadoiaaEnc5
import Derived.Deep.MidRow
namespace Go.Own
open Go.RowKit
theorem Box.range {w : World} {b : Nat} {cs : List Value} (h : Box w b cs) : w.rangeAt b 0 cs := fun j v hj => by
  have hl : j < cs.length := by
    rcases Nat.lt_or_ge j cs.length with h1 | h1
    · exact h1
    · rw [List.getElem?_eq_none h1] at hj; cases hj
  rw [Nat.zero_add, h.2 j hl]; exact hj
theorem BoxF.there {w : World} {b : Nat} {cs : List Value} {n : Nat} (h : BoxF w b cs) (hn : n = cs.length) : w.there b 0 n := fun j hj => by
  subst hn
  rw [Nat.zero_add]
  exact ⟨by rw [h.1.2 j hj, List.getElem?_eq_getElem hj]; rfl, h.2 j hj⟩
theorem below_setCells {N : Nat} {w0 : World} (b : Nat) (hb : N ≤ b) : ∀ (vs : List Value) (o : Nat) (w : World), Below N w0 w → Below N w0 (w.setCells b o vs)
  | [], _, _, h => h
  | v :: r, o, w, h => below_setCells b hb r (o + 1) _ (h.setCell (p := ⟨b, o, none⟩) hb v)
theorem chg_setCells {S : Nat → Prop} {w0 : World} (b : Nat) (hb : S b) : ∀ (vs : List Value) (o : Nat) (w : World), ChgS S w0 w → ChgS S w0 (w.setCells b o vs)
  | [], _, _, h => h
  | v :: r, o, w, h => chg_setCells b hb r (o + 1) _ (h.set ⟨b, o, none⟩ v hb)
theorem size_setCells (b : Nat) : ∀ (vs : List Value) (o : Nat) (w : World), (w.setCells b o vs).heap.size = w.heap.size
  | [], _, _ => rfl
  | v :: r, o, w => by rw [World.setCells, size_setCells b r (o + 1)]; simp [World.setCell]
theorem box_setGo (b : Nat) : ∀ (vs pre : List Value) (w : World) (cs : List Value), BoxF w b (pre ++ cs) → cs.length = vs.length → BoxF (w.setCells b pre.length vs) b (pre ++ vs)
  | [], pre, w, cs, h, hl => by
    obtain rfl : cs = [] := List.eq_nil_of_length_eq_zero hl
    exact h
  | v :: r, pre, w, [], h, hl => by cases hl
  | v :: r, pre, w, c :: cs, h, hl => by
    have h1 := h.set pre.length (by simp) v
    rw [show (pre ++ c :: cs).set pre.length v = (pre ++ [v]) ++ cs by simp] at h1
    have h2 := box_setGo b r (pre ++ [v]) _ cs h1 (by simpa using hl)
    rw [show (pre ++ [v]).length = pre.length + 1 by simp] at h2
    rw [World.setCells]
    simpa using h2
theorem BoxF.setCells {w : World} {b : Nat} {cs : List Value} (h : BoxF w b cs) (vs : List Value) (hl : cs.length = vs.length) : BoxF (w.setCells b 0 vs) b vs := by
  have := box_setGo b vs [] w cs h hl
  simpa using this
section
variable {P : Program}
/-- A struct stored whole into its box: the box holds it behind that, all else is as it was. -/
theorem wpList_store_box {ops : Array Oper} {rest : List Oper} {op : Oper} {a : Act} {w : World} {Q : Exit → Act → World → Prop} (hgd : op.guard = none) (ty : TypeId) (x y : Operand) (ho : op.op = .store ty x y)
    (b : Nat) (cs vs : List Value) (hb : BoxF w b cs) (hx : a.eval x = .pointer (some ⟨b, 0, none⟩)) (hy : a.eval y = .agg vs.toArray) (hl : cs.length = vs.length)
    (hi : (P.info? ty).map (·.size) = some vs.length) (h1 : vs.all (·.oneCell') = true)
    (h : ∀ w', BoxF w' b vs → ChgS (fun k => k = b) w w' → wpList P ops Q rest (a.put op.dst undef) w') : wpList P ops Q (op :: rest) a w :=
  wpList_store_mid hgd ty x y ho b 0 vs.toArray hx hy (hb.there (by simp [hl])) (by simpa using hi) (all_oneCell_toArray (by simpa using h1))
    (h _ (by simpa using hb.setCells vs hl) (chg_setCells (S := fun k => k = b) b rfl _ 0 w (ChgS.refl _ _)))
/-- A struct loaded whole. -/
theorem wpList_load_box {ops : Array Oper} {rest : List Oper} {op : Oper} {a : Act} {w : World} {Q : Exit → Act → World → Prop} (hgd : op.guard = none) (ty : TypeId) (x : Operand) (ho : op.op = .load ty x)
    (b : Nat) (cs : List Value) (hb : Box w b cs) (hx : a.eval x = .pointer (some ⟨b, 0, none⟩)) (d : TypeDesc) (hu : P.underlying ty = some d) (hd : d.isRow = true) (hi : (P.info? ty).map (·.size) = some cs.length)
    (h : wpList P ops Q rest (a.put op.dst (.agg cs.toArray)) w) : wpList P ops Q (op :: rest) a w :=
  wpList_load_mid hgd ty x ho b 0 hx cs d hb.range hu hd hi h
end
end Go.Own
