/- Arrays of bools as one row: read, written, compared as wholes. Of any program. -/
import Derived.Test.YtdnfphpeleakcaaBase2
import Derived.Laws.Rows
import Derived.Laws.Tables
import Derived.Laws.StructEq
import Derived.Stop.BytesEq
namespace Go.Own
set_option maxRecDepth 100000
open Go.RowKit

def encBs (xs : List Bool) : Array Value := (xs.map Value.bool).toArray
theorem encBs_size (xs : List Bool) : (encBs xs).size = xs.length := by simp [encBs]
theorem encBs_get (xs : List Bool) (p : Nat) : (encBs xs)[p]? = (xs[p]?).map Value.bool := by simp [encBs]
theorem encBs_set (xs : List Bool) (j : Nat) (b : Bool) : (encBs xs).setIfInBounds j (.bool b) = encBs (xs.set j b) := by
  apply Array.ext_getElem?
  intro i
  rw [Array.getElem?_setIfInBounds, encBs_get, encBs_get, encBs_size, List.getElem?_set]
  by_cases h : j = i
  · subst h
    by_cases hj : j < xs.length <;> simp [hj]
  · simp [h]
theorem encBs_one (xs : List Bool) : (encBs xs).all (·.oneCell') = true := by
  simp [encBs]
  exact ⟨fun _ => rfl, fun _ => rfl⟩
theorem all_range_eqb : ∀ (xs ys : List Bool), xs.length = ys.length → ((List.range xs.length).all fun i => xs.getD i false == ys.getD i false) = (xs == ys)
  | [], [], _ => rfl
  | x :: xs, y :: ys, h => by
    have ih := all_range_eqb xs ys (by simpa using h)
    rw [List.length_cons, List.range_succ_eq_map, List.all_cons, List.all_map]
    simp only [List.getD_cons_zero, Function.comp_def, List.getD_cons_succ, ih]
    simp [List.cons_beq_cons]
  | [], _ :: _, h => by simp at h
  | _ :: _, [], h => by simp at h
theorem run_equalIn_bools {P : Program} (w : World) (d : Nat) (t e : TypeId) (n : Nat) (ht : P.underlying t = some (.array n e)) (he : P.underlying e = some .bool) (hsz : ∀ w, (sizeOf e).run P w = .ok 1 w)
    (xs ys : List Bool) (hx : xs.length = n) (hy : ys.length = n) :
    (Op.equalIn (d + 2) t (.agg (encBs xs)) (.agg (encBs ys))).run P w = .ok (xs == ys) w := by
  rw [← all_range_eqb xs ys (hx.trans hy.symm), hx, List.range_eq_range', Op.equalIn]
  simp only [Sem.run_bind, run_underlying ht, Result.andThen_ok, hsz, Std.Legacy.Range.forIn_eq_forIn_range', Std.Legacy.Range.size, Nat.sub_zero, Nat.add_sub_cancel, Nat.div_one]
  have hl : ∀ i ∈ List.range' 0 n 1, i < n := fun i hi => by simpa using (List.mem_range'_1.1 hi).2
  generalize List.range' 0 n 1 = l at hl ⊢
  induction l with
  | nil => simp
  | cons i l ih =>
    have hi : i < n := hl i (by simp)
    have px : (part e (encBs xs) (i * 1)).run P w = .ok (.bool (xs.getD i false)) w := by
      simp [encBs, part, isAgg, run_underlying he, List.getD, List.getElem?_eq_getElem (show i < xs.length by omega)]
    have py : (part e (encBs ys) (i * 1)).run P w = .ok (.bool (ys.getD i false)) w := by
      simp [encBs, part, isAgg, run_underlying he, List.getD, List.getElem?_eq_getElem (show i < ys.length by omega)]
    have pe : (Op.equalIn (d + 1) e (.bool (xs.getD i false)) (.bool (ys.getD i false))).run P w = .ok (xs.getD i false == ys.getD i false) w := by
      simp [Op.equalIn, Sem.run_bind, run_underlying he]
    simp only [List.forIn_cons, Sem.run_bind, px, py, pe, Result.andThen_ok, List.all_cons]
    cases hb : (xs.getD i false == ys.getD i false)
    · simp
    · simp only [Bool.not_true, Bool.false_eq_true, if_false, Sem.run_pure, Result.andThen_ok, Bool.true_and]
      exact ih fun j hj => hl j (by simp [hj])
theorem run_eql_bools {P : Program} (w : World) (t e : TypeId) (n : Nat) (ht : P.underlying t = some (.array n e)) (he : P.underlying e = some .bool) (hsz : ∀ w, (sizeOf e).run P w = .ok 1 w)
    (xs ys : List Bool) (hx : xs.length = n) (hy : ys.length = n) :
    (binOp .eql t (.agg (encBs xs)) (.agg (encBs ys))).run P w = .ok (.bool (xs == ys)) w := by
  rw [run_eql_struct, run_equalIn_bools w 9998 t e n ht he hsz xs ys hx hy]
  rfl

/-- A block of bools. -/
def RowB (w : World) (B : Nat) (xs : List Bool) : Prop := ∃ t, w.heap[B]? = some (.cells (encBs xs) t (0, 0))
theorem RowB.lt {w : World} {B : Nat} {xs : List Bool} (h : RowB w B xs) : B < w.heap.size := by
  obtain ⟨t, h⟩ := h; exact (Array.getElem?_eq_some_iff.1 h).1
theorem RowB.cell {w : World} {B : Nat} {xs : List Bool} (h : RowB w B xs) (p : Nat) (b : Bool) (hp : xs[p]? = some b) : w.cell? ⟨B, p, none⟩ = some (.bool b) ∧ w.frozen? ⟨B, p, none⟩ = false := by
  obtain ⟨t, h⟩ := h
  exact ⟨by rw [cell_of_row w B p _ t (0, 0) h, encBs_get, hp]; rfl, frozen_of_row w B p _ t h⟩
theorem RowB.below {w w' : World} {B : Nat} {xs : List Bool} (h : RowB w B xs) (hb : Below w.heap.size w w') : RowB w' B xs := by
  have hl := h.lt
  obtain ⟨t, h⟩ := h
  exact ⟨t, by rw [hb.block B hl]; exact h⟩
theorem RowB.belowN {N : Nat} {w w' : World} {B : Nat} {xs : List Bool} (h : RowB w B xs) (hb : Below N w w') (hN : B < N) : RowB w' B xs := by
  obtain ⟨t, h⟩ := h
  exact ⟨t, by rw [hb.block B hN]; exact h⟩
theorem RowB.set {w : World} {B : Nat} {xs : List Bool} (h : RowB w B xs) (j : Nat) (b : Bool) : RowB (w.setCell ⟨B, j, none⟩ (.bool b)) B (xs.set j b) := by
  obtain ⟨t, h⟩ := h
  exact ⟨t, by rw [heap_setCell_same w B j _ t (.bool b) h, encBs_set]⟩
theorem RowB.other {w : World} {B : Nat} {xs : List Bool} (h : RowB w B xs) (a : Addr) (v : Value) (ha : a.block ≠ B) : RowB (w.setCell a v) B xs := by
  obtain ⟨t, h⟩ := h
  exact ⟨t, by rw [heap_setCell_other w a B v (Ne.symm ha)]; exact h⟩
theorem RowB.setRow {w : World} {B : Nat} {xs : List Bool} (h : RowB w B xs) (ys : List Bool) : RowB (w.setRow B (encBs ys)) B ys := by
  obtain ⟨t, h⟩ := h
  exact ⟨t, setRow_heap w B _ _ t _ h⟩
theorem RowB.alloc (w : World) (xs : List Bool) (t : TypeId) (cs : Array Value) (hcs : cs = encBs xs) : RowB (w.alloc (.cells cs t)) w.heap.size xs := ⟨t, by rw [hcs]; exact heap_alloc_new w _⟩
end Go.Own
