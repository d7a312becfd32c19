/- A field of a struct that lies in a box: stored in one step, whatever world comes of it. Of any program. -/
import Derived.Test.YtdgmbcmgjadoiaaMid
namespace Go.Own
open Go.RowKit
theorem run_storeVar_one {P : Program} (w : World) (b o : Nat) (ty : TypeId) (v : Value) (hc : (w.cell? ⟨b, o, none⟩).isSome = true) (hf : w.frozen? ⟨b, o, none⟩ = false) (hi : (P.info? ty).map (·.size) = some 1) (h1 : v.oneCell' = true) (hv : v.cells = #[v]) :
    (storeVar ty ⟨b, o, none⟩ v).run P w = .ok () (w.setCell ⟨b, o, none⟩ v) := by
  have := run_storeCells_cells (P := P) b o [v] 0 w (fun j hj => by
    obtain rfl : j = 0 := by simpa using hj
    simpa using hc) (fun j hj => by
    obtain rfl : j = 0 := by simpa using hj
    simpa using hf) (fun u hu => by
    obtain rfl : u = v := by simpa using hu
    exact h1)
  cases hq : P.info? ty with
  | none => simp [hq] at hi
  | some i =>
    have hs : 1 = i.size := by simp [hq] at hi; omega
    simp only [Nat.add_zero] at this
    simp [storeVar, sizeOf, typeInfo, hq, hv, ← hs, this, World.setCells]
theorem box_setMid (b : Nat) (post : List Value) : ∀ (vs pre : List Value) (w : World) (cs : List Value), BoxF w b (pre ++ cs ++ post) → cs.length = vs.length → BoxF (w.setCells b pre.length vs) b (pre ++ vs ++ post)
  | [], pre, w, cs, h, hl => by
    obtain rfl : cs = [] := List.eq_nil_of_length_eq_zero hl
    exact h
  | v :: r, pre, w, [], h, hl => by cases hl
  | v :: r, pre, w, c :: cs, h, hl => by
    have h1 := h.set pre.length (by simp) v
    rw [show (pre ++ c :: cs ++ post).set pre.length v = (pre ++ [v]) ++ cs ++ post by simp] at h1
    have h2 := box_setMid b post r (pre ++ [v]) _ cs h1 (by simpa using hl)
    rw [show (pre ++ [v]).length = pre.length + 1 by simp] at h2
    rw [World.setCells]
    simpa using h2
section
variable {P : Program}
/-- Some fields of a struct stored as a whole (an array in it). -/
theorem wpList_store_part {ops : Array Oper} {rest : List Oper} {op : Oper} {a : Act} {w : World} {Q : Exit → Act → World → Prop} (hgd : op.guard = none) (ty : TypeId) (x y : Operand) (ho : op.op = .store ty x y)
    (b : Nat) (pre cs post vs all : List Value) (hb : BoxF w b all) (ha : all = pre ++ cs ++ post) (hx : a.eval x = .pointer (some ⟨b, pre.length, none⟩)) (hy : a.eval y = .agg vs.toArray) (hl : cs.length = vs.length)
    (hi : (P.info? ty).map (·.size) = some vs.length) (h1 : vs.all (·.oneCell') = true)
    (h : ∀ w', BoxF w' b (pre ++ vs ++ post) → ChgS (fun k => k = b) w w' → wpList P ops Q rest (a.put op.dst undef) w') : wpList P ops Q (op :: rest) a w := by
  subst ha
  refine wpList_store_mid hgd ty x y ho b pre.length vs.toArray hx hy (fun j hj => ?_) (by simpa using hi) (all_oneCell_toArray (by simpa using h1))
    (h _ (by simpa using box_setMid b post vs pre w cs hb hl) (chg_setCells (S := fun k => k = b) b rfl _ _ w (ChgS.refl _ _)))
  have hj2 : pre.length + j < (pre ++ cs ++ post).length := by simp at hj ⊢; omega
  exact ⟨by rw [hb.1.2 _ hj2, List.getElem?_eq_getElem hj2]; rfl, hb.2 _ hj2⟩
/-- A field stored into its box. -/
theorem wpList_store_cell {ops : Array Oper} {rest : List Oper} {op : Oper} {a : Act} {w : World} {Q : Exit → Act → World → Prop} (hgd : op.guard = none) (ty : TypeId) (x y : Operand) (ho : op.op = .store ty x y)
    (b j : Nat) (cs : List Value) (v : Value) (hb : BoxF w b cs) (hx : a.eval x = .pointer (some ⟨b, j, none⟩)) (hy : a.eval y = v) (hj : j < cs.length)
    (hi : (P.info? ty).map (·.size) = some 1) (h1 : v.oneCell' = true) (hv : v.cells = #[v])
    (h : ∀ w', BoxF w' b (cs.set j v) → ChgS (fun k => k = b) w w' → wpList P ops Q rest (a.put op.dst undef) w') : wpList P ops Q (op :: rest) a w := by
  refine wpList_plain hgd fun K hK => ?_
  unfold Oper.wp execOp
  have hc : (w.cell? ⟨b, j, none⟩).isSome = true := by rw [hb.1.2 j hj, List.getElem?_eq_getElem hj]; rfl
  simp only [ho, hx, hy, Instr.storeAt, Instr.sureAddr, Sem.run_bind, Sem.run_pure, Result.andThen_ok, run_storeVar_one w b j ty v hc (hb.2 j hj) hi h1 hv]
  exact hK _ _ (h _ (hb.set j hj v) ((ChgS.refl _ w).set _ _ rfl))
end
theorem boxF_eq {w : World} {b : Nat} {cs ds : List Value} (h : BoxF w b cs) (e : cs = ds) : BoxF w b ds := by subst e; exact h
end Go.Own
