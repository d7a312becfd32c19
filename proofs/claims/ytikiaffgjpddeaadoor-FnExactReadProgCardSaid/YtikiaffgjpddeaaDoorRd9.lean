import Derived.Test.YtikiaffgjpddeaaDoorTypes9
import Derived.Test.YtikiaffgjpddeaaDoorRead2
namespace Go.Proofs.YtikiaffgjpddeaaDoor
set_option maxRecDepth 100000
open Go.RowKit Go.Proofs Go.Own
open Go.ChangeShapes Go.WideShapes Go.ChangeAt
set_option linter.unusedVariables false

theorem trodInstr {H : Type} {enc : TypeId × Value → H} {w : World} {base : Nat} {spare : Nat → Bool} {held : Bool} (n : Nat) (cs : List Value) (y : DataW H × List MemPlace) (h : DataW.trod enc Tryd.prog w base spare held n 39 cs = some y) : ∃ a : Instr, cs = a.enc := by
  have hC : Tryd.prog.cellsOf 39 = 3 := by kernel_rfl
  have hl : cs.length = 3 := by obtain ⟨ys, n', _, _, hl, _⟩ := DataW.trod_struct Tryd.underlying39 h; omega
  obtain ⟨c0, c1, c2, rfl⟩ : ∃ c0 c1 c2, cs = [c0, c1, c2] := by
    match cs, hl with
    | [a0, a1, a2], _ => exact ⟨a0, a1, a2, rfl⟩
  obtain ⟨n0, y0, t0⟩ := field_sub Tryd.underlying39 h 0 _ 0 1 rfl rfl (by kernel_rfl)
  obtain ⟨u0, e0, _⟩ := DataW.trod_int (cs := [c0]) Tryd.underlying3 t0
  obtain ⟨n1, y1, t1⟩ := field_sub Tryd.underlying39 h 1 _ 1 1 rfl rfl (by kernel_rfl)
  obtain ⟨u1, e1, _⟩ := DataW.trod_int (cs := [c1]) Tryd.underlying3 t1
  obtain ⟨n2, y2, t2⟩ := field_sub Tryd.underlying39 h 2 _ 2 1 rfl rfl (by kernel_rfl)
  obtain ⟨u2, e2, _⟩ := DataW.trod_int (cs := [c2]) Tryd.underlying3 t2
  obtain rfl := (List.cons.inj e0).1
  obtain rfl := (List.cons.inj e1).1
  obtain rfl := (List.cons.inj e2).1
  exact ⟨⟨u0, u1, u2⟩, rfl⟩
theorem ofInstr {H : Type} {enc : TypeId × Value → H} {w : World} {base : Nat} {spare : Nat → Bool} {held : Bool} {b0 : Nat} {v : Value} {d : DataW H} {p : List MemPlace} (hv : Value.okWide Tryd.prog w .any b0 39 v) (h : DataW.Trod enc Tryd.prog w base spare held 39 v d p) : ∃ a : Instr, v = a.val := by
  obtain ⟨cs, rfl, hsz⟩ := okWide_struct Tryd.underlying39 hv
  obtain ⟨n, h⟩ := h
  obtain ⟨a, ha⟩ := trodInstr n _ _ h
  obtain ⟨l⟩ := cs
  exact ⟨a, by simp only [Value.cells] at ha; rw [ha]; rfl⟩

end Go.Proofs.YtikiaffgjpddeaaDoor
