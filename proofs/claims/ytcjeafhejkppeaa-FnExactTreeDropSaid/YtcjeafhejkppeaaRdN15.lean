/- Texts of the claim. -/
import Derived.Test.YtcjeafhejkppeaaTypes15
import Derived.Test.YtcjeafhejkppeaaRead2
namespace Go.Proofs.Ytcjeafhejkppeaa
set_option maxRecDepth 100000
open Go.RowKit Go.Proofs Go.Own
open Go.ChangeShapes Go.WideShapes Go.ChangeAt
set_option linter.unusedVariables false

theorem trodTwig {H : Type} {enc : TypeId × Value → H} {w : World} {base : Nat} {spare : Nat → Bool} {held : Bool} (n : Nat) (cs : List Value) (y : DataW H × List MemPlace) (h : DataW.trod enc Try.prog w base spare held n 23 cs = some y) : ∃ a : Twig, cs = a.enc := by
  have hC : Try.prog.cellsOf 23 = 4 := by kernel_rfl
  have hl : cs.length = 4 := by obtain ⟨ys, n', _, _, hl, _⟩ := DataW.trod_struct Try.underlying23 h; omega
  obtain ⟨c0, c1, c2, c3, rfl⟩ : ∃ c0 c1 c2 c3, cs = [c0, c1, c2, c3] := by
    match cs, hl with
    | [a0, a1, a2, a3], _ => exact ⟨a0, a1, a2, a3, rfl⟩
  obtain ⟨n0, y0, t0⟩ := field_sub Try.underlying23 h 0 _ 0 1 rfl rfl (by kernel_rfl)
  obtain ⟨u0, e0, _⟩ := DataW.trod_bool (cs := [c0]) Try.underlying4 t0
  obtain ⟨n1, y1, t1⟩ := field_sub Try.underlying23 h 1 _ 1 1 rfl rfl (by kernel_rfl)
  obtain ⟨u1, e1, _⟩ := DataW.trod_int (cs := [c1]) Try.underlying3 t1
  obtain ⟨n2, y2, t2⟩ := field_sub Try.underlying23 h 2 _ 2 1 rfl rfl (by kernel_rfl)
  obtain ⟨u2, e2, _⟩ := DataW.trod_int (cs := [c2]) Try.underlying3 t2
  obtain ⟨n3, y3, t3⟩ := field_sub Try.underlying23 h 3 _ 3 1 rfl rfl (by kernel_rfl)
  obtain ⟨u3, e3, _⟩ := DataW.trod_int (cs := [c3]) Try.underlying3 t3
  obtain rfl := (List.cons.inj e0).1
  obtain rfl := (List.cons.inj e1).1
  obtain rfl := (List.cons.inj e2).1
  obtain rfl := (List.cons.inj e3).1
  exact ⟨⟨u0, u1, u2, u3⟩, rfl⟩
theorem ofTwig {H : Type} {enc : TypeId × Value → H} {w : World} {base : Nat} {spare : Nat → Bool} {held : Bool} {b0 : Nat} {v : Value} {d : DataW H} {p : List MemPlace} (hv : Value.okWide Try.prog w .any b0 23 v) (h : DataW.Trod enc Try.prog w base spare held 23 v d p) : ∃ a : Twig, v = a.val := by
  obtain ⟨cs, rfl, hsz⟩ := okWide_struct Try.underlying23 hv
  obtain ⟨n, h⟩ := h
  obtain ⟨a, ha⟩ := trodTwig n _ _ h
  obtain ⟨l⟩ := cs
  exact ⟨a, by simp only [Value.cells] at ha; rw [ha]; rfl⟩

end Go.Proofs.Ytcjeafhejkppeaa
