/- Whole boxes loaded and stored in a region that draws its order. Of any program. -/
import Derived.Test.YtdgmbcmgjadoiaaOv2
import Derived.Test.YtdgmbcmgjadoiaaWr3
namespace Go.Own
open Go Go.RowKit
section
variable {P : Program} {o : Oper} {a : Act} {w : World}
theorem plain_load_mid (ty : TypeId) (x : Operand) (ho : o.op = .load ty x) (b off : Nat) (hx : a.eval x = .pointer (some ⟨b, off, none⟩)) (cs : List Value) (d : TypeDesc) (hc : w.rangeAt b off cs)
    (hu : P.underlying ty = some d) (hd : d.isRow = true) (hi : (P.info? ty).map (·.size) = some cs.length) : o.plainAt P a w (.agg cs.toArray) := by
  unfold Oper.plainAt execOp
  simp only [ho, hx, Instr.loadAt, Instr.sureAddr, Sem.run_bind, Sem.run_pure, Result.andThen_ok, run_loadVar_mid w b off ty cs d hc hu hd hi]
  exact ⟨rfl, rfl⟩
theorem put_box (ty : TypeId) (x y : Operand) (ho : o.op = .store ty x y) (b : Nat) (cs vs : List Value) (hb : BoxF w b cs) (hx : a.eval x = .pointer (some ⟨b, 0, none⟩)) (hy : a.eval y = .agg vs.toArray) (hl : cs.length = vs.length)
    (hi : (P.info? ty).map (·.size) = some vs.length) (h1 : vs.all (·.oneCell') = true) : ∃ w', (execOp a.eval o).run P w = .ok .skip w' ∧ ChgS (fun k => k = b) w w' ∧ BoxF w' b vs := by
  refine ⟨w.setCells b 0 vs, ?_, chg_setCells (S := fun k => k = b) b rfl _ 0 w (ChgS.refl _ _), by simpa using hb.setCells vs hl⟩
  unfold execOp
  have z := run_storeVar_mid (P := P) w b 0 ty vs.toArray (hb.there (by simp [hl])) (by simpa using hi) (all_oneCell_toArray (by simpa using h1))
  simp only [ho, hx, hy, Instr.storeAt, Instr.sureAddr, Sem.run_bind, Sem.run_pure, Result.andThen_ok, z]
theorem put_cell (ty : TypeId) (x y : Operand) (ho : o.op = .store ty x y) (b j : Nat) (cs : List Value) (v : Value) (hb : BoxF w b cs) (hx : a.eval x = .pointer (some ⟨b, j, none⟩)) (hy : a.eval y = v) (hj : j < cs.length)
    (hi : (P.info? ty).map (·.size) = some 1) (h1 : v.oneCell' = true) (hv : v.cells = #[v]) : ∃ w', (execOp a.eval o).run P w = .ok .skip w' ∧ ChgS (fun k => k = b) w w' ∧ BoxF w' b (cs.set j v) := by
  have hc : (w.cell? ⟨b, j, none⟩).isSome = true := by rw [hb.1.2 j hj, List.getElem?_eq_getElem hj]; rfl
  refine ⟨w.setCell ⟨b, j, none⟩ v, ?_, (ChgS.refl _ w).set _ _ rfl, hb.set j hj v⟩
  unfold execOp
  simp only [ho, hx, hy, Instr.storeAt, Instr.sureAddr, Sem.run_bind, Sem.run_pure, Result.andThen_ok, run_storeVar_one w b j ty v hc (hb.2 j hj) hi h1 hv]
end
end Go.Own
