/- Rings, read out of the claim's form. (printed by tools/mk_l14.py) -/
import Derived.Test.YtilbmclhnlkkmaaC14
import Derived.Test.YtilbmclhnlkkmaaRead2
namespace Go.Own
open Go.RowKit Go.ChangeShapes Go.WideShapes Go.Deep
theorem list_of_parts {α : Type} (f : α → List Value) (sz : Nat) : ∀ (n : Nat) (cs : List Value), cs.length = n * sz → (∀ i, i < n → ∃ a, (cs.drop (i * sz)).take sz = f a) → ∃ L : List α, L.length = n ∧ cs = L.flatMap f
  | 0, cs, hl, _ => ⟨[], rfl, by simpa using hl⟩
  | n+1, cs, hl, h => by
    obtain ⟨a, ha⟩ := h 0 (by omega)
    obtain ⟨L, h1, h2⟩ := list_of_parts f sz n (cs.drop sz) (by rw [List.length_drop, hl, Nat.add_mul]; omega) (fun i hi => by
      obtain ⟨b, hb⟩ := h (i + 1) (by omega)
      exact ⟨b, by rw [List.drop_drop, show sz + i * sz = (i + 1) * sz by rw [Nat.add_mul]; omega]; exact hb⟩)
    refine ⟨a :: L, by simp [h1], ?_⟩
    rw [List.flatMap_cons, ← h2, ← ha]
    simp
end Go.Own
namespace Go.Proofs.Ytilbmclhnlkkmaa
set_option maxRecDepth 100000
open Go.RowKit Go.Proofs Go.Own
open Go.ChangeShapes Go.WideShapes Go.ChangeAt
set_option linter.unusedVariables false
section
variable {H : Type} {enc : TypeId × Value → H} {w : World} {base : Nat} {spare : Nat → Bool} {held : Bool}
theorem ofRingN {b0 : Nat} {v : Value} {d : DataW H} {p : List MemPlace} (hv : Value.okWide Try.prog w .any b0 24 v) (h : DataW.Trod enc Try.prog w base spare held 24 v d p) : ∃ c : RingD, v = .agg c.enc.toArray ∧ c.cells_.length = 8 := by
  obtain ⟨cs, rfl, hsz⟩ := okWide_struct Try.underlying24 hv
  obtain ⟨n, h⟩ := h
  obtain ⟨l⟩ := cs
  have hC : Try.prog.cellsOf 24 = 10 := by kernel_rfl
  have hl : l.length = 10 := hsz.trans hC
  have h : DataW.trod enc Try.prog w base spare held n 24 l = some (d, p) := h
  obtain ⟨n0, y0, t0⟩ := field_sub Try.underlying24 h 0 _ 0 8 rfl rfl (by kernel_rfl)
  obtain ⟨n1, y1, t1⟩ := field_sub Try.underlying24 h 1 _ 8 1 rfl rfl (by kernel_rfl)
  obtain ⟨n2, y2, t2⟩ := field_sub Try.underlying24 h 2 _ 9 1 rfl rfl (by kernel_rfl)
  have hl0 : ((l.drop 0).take 8).length = 8 * 1 := by rw [List.length_take, List.length_drop]; omega
  have one : ∀ (l : List Value) (h : l.length = 1), ∃ x, l = [x] := fun l h => by match l, h with | [a], _ => exact ⟨a, rfl⟩
  obtain ⟨L, h1, h2⟩ := list_of_parts encI 1 8 ((l.drop 0).take 8) hl0 (fun i hi => by
    obtain ⟨m, y, t⟩ := array_sub Try.underlying22 (k := 1) (by kernel_rfl) t0 i hi
    obtain ⟨x, hx⟩ := one ((((l.drop 0).take 8).drop (i * 1)).take 1) (by rw [List.length_take, List.length_drop, hl0]; omega)
    rw [hx] at t ⊢
    obtain ⟨q, e, _⟩ := DataW.trod_int (cs := [x]) Try.underlying3 t
    obtain rfl := (List.cons.inj e).1
    exact ⟨q, rfl⟩)
  obtain ⟨x, hx⟩ := one ((l.drop 8).take 1) (by rw [List.length_take, List.length_drop]; omega)
  obtain ⟨z, hz⟩ := one ((l.drop 9).take 1) (by rw [List.length_take, List.length_drop]; omega)
  rw [hx] at t1
  rw [hz] at t2
  obtain ⟨q, e, _⟩ := DataW.trod_int (cs := [x]) Try.underlying3 t1
  obtain rfl := (List.cons.inj e).1
  obtain ⟨q2, e2, _⟩ := DataW.trod_int (cs := [z]) Try.underlying3 t2
  obtain rfl := (List.cons.inj e2).1
  refine ⟨⟨L, q, q2⟩, ?_, h1⟩
  congr 1
  show l.toArray = (L.flatMap encI ++ [Value.int .i64 q, Value.int .i64 q2]).toArray
  rw [← h2, List.drop_zero]
  congr 1
  rw [show [Value.int .i64 q, Value.int .i64 q2] = (l.drop 8).take 1 ++ (l.drop 9).take 1 by rw [hx, hz]; rfl, show (l.drop 9).take 1 = (l.drop 8).drop 1 by rw [List.drop_drop]; exact List.take_of_length_le (by rw [List.length_drop]; omega), List.take_append_drop, List.take_append_drop]
end
end Go.Proofs.Ytilbmclhnlkkmaa
