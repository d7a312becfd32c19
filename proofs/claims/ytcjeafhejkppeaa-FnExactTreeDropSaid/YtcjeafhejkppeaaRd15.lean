/- Trees, read out of the claim's form. (printed by tools/mk_l15.py) -/
import Derived.Test.YtcjeafhejkppeaaC15b
import Derived.Test.YtcjeafhejkppeaaRdN15
namespace Go.Own
open Go.RowKit Go.ChangeShapes Go.WideShapes Go.Deep
theorem list_of_parts {α : Type} (f : α → List Value) (sz : Nat) : ∀ (n : Nat) (cs : List Value), cs.length = n * sz → (∀ i, i < n → ∃ a, (cs.drop (i * sz)).take sz = f a) → ∃ L : List α, L.length = n ∧ cs = L.flatMap f
  | 0, cs, hl, _ => ⟨[], rfl, by simpa using hl⟩
  | n+1, cs, hl, h => by
    obtain ⟨a, ha⟩ := h 0 (by omega)
    obtain ⟨L, h1, h2⟩ := list_of_parts f sz n (cs.drop sz) (by rw [List.length_drop, hl, Nat.add_mul]; omega) (fun i hi => by
      obtain ⟨b, hb⟩ := h (i + 1) (by omega)
      exact ⟨b, by rw [List.drop_drop, show sz + i * sz = (i + 1) * sz by rw [Nat.add_mul]; omega]; exact hb⟩)
    refine ⟨a :: L, by simp [h1], ?_⟩
    rw [List.flatMap_cons, ← h2, ← ha]
    simp
end Go.Own
namespace Go.Proofs.Ytcjeafhejkppeaa
set_option maxRecDepth 100000
open Go.RowKit Go.Proofs Go.Own
open Go.ChangeShapes Go.WideShapes Go.ChangeAt
set_option linter.unusedVariables false
section
variable {H : Type} {enc : TypeId × Value → H} {w : World} {base : Nat} {spare : Nat → Bool} {held : Bool}
theorem ofTreeN {b0 : Nat} {v : Value} {d : DataW H} {p : List MemPlace} (hv : Value.okWide Try.prog w .any b0 26 v) (h : DataW.Trod enc Try.prog w base spare held 26 v d p) : ∃ c : TreeD, v = .agg c.enc.toArray ∧ c.twigs_.length = 16 := by
  obtain ⟨cs, rfl, hsz⟩ := okWide_struct Try.underlying26 hv
  obtain ⟨n, h⟩ := h
  obtain ⟨l⟩ := cs
  have hC : Try.prog.cellsOf 26 = 65 := by kernel_rfl
  have hl : l.length = 65 := hsz.trans hC
  have h : DataW.trod enc Try.prog w base spare held n 26 l = some (d, p) := h
  obtain ⟨n0, y0, t0⟩ := field_sub Try.underlying26 h 0 _ 0 64 rfl rfl (by kernel_rfl)
  obtain ⟨n1, y1, t1⟩ := field_sub Try.underlying26 h 1 _ 64 1 rfl rfl (by kernel_rfl)
  have hl0 : ((l.drop 0).take 64).length = 16 * 4 := by rw [List.length_take, List.length_drop]; omega
  obtain ⟨L, h1, h2⟩ := list_of_parts Twig.enc 4 16 ((l.drop 0).take 64) hl0 (fun i hi => by
    obtain ⟨m, y, t⟩ := array_sub Try.underlying24 (k := 4) (by kernel_rfl) t0 i hi
    exact trodTwig m _ y t)
  have hl1 : ((l.drop 64).take 1).length = 1 := by rw [List.length_take, List.length_drop]; omega
  obtain ⟨x, hx⟩ : ∃ x, (l.drop 64).take 1 = [x] := by
    match (l.drop 64).take 1, hl1 with
    | [a], _ => exact ⟨a, rfl⟩
  rw [hx] at t1
  obtain ⟨q, e, _⟩ := DataW.trod_int (cs := [x]) Try.underlying3 t1
  obtain rfl := (List.cons.inj e).1
  refine ⟨⟨L, q⟩, ?_, h1⟩
  congr 1
  show l.toArray = (L.flatMap Twig.enc ++ [Value.int .i64 q]).toArray
  rw [← h2, ← hx, List.drop_zero]
  congr 1
  rw [show (l.drop 64).take 1 = l.drop 64 from List.take_of_length_le (by rw [List.length_drop]; omega), List.take_append_drop]
end
end Go.Proofs.Ytcjeafhejkppeaa
