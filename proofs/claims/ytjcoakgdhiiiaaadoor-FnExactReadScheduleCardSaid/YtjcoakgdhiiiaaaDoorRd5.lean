import Derived.Test.YtjcoakgdhiiiaaaDoorTypes5
import Derived.Test.YtjcoakgdhiiiaaaDoorRead2
namespace Go.Proofs.YtjcoakgdhiiiaaaDoor
set_option maxRecDepth 100000
open Go.RowKit Go.Proofs Go.Own
open Go.ChangeShapes Go.WideShapes Go.ChangeAt
set_option linter.unusedVariables false

theorem trodRun {H : Type} {enc : TypeId × Value → H} {w : World} {base : Nat} {spare : Nat → Bool} {held : Bool} (n : Nat) (cs : List Value) (y : DataW H × List MemPlace) (h : DataW.trod enc Tryd.prog w base spare held n 39 cs = some y) : ∃ a : Run, cs = a.enc := by
  have hC : Tryd.prog.cellsOf 39 = 2 := by kernel_rfl
  have hl : cs.length = 2 := by obtain ⟨ys, n', _, _, hl, _⟩ := DataW.trod_struct Tryd.underlying39 h; omega
  obtain ⟨c0, c1, rfl⟩ : ∃ c0 c1, cs = [c0, c1] := by
    match cs, hl with
    | [a0, a1], _ => exact ⟨a0, a1, rfl⟩
  obtain ⟨n0, y0, t0⟩ := field_sub Tryd.underlying39 h 0 _ 0 1 rfl rfl (by kernel_rfl)
  obtain ⟨u0, e0, _⟩ := DataW.trod_int (cs := [c0]) Tryd.underlying3 t0
  obtain ⟨n1, y1, t1⟩ := field_sub Tryd.underlying39 h 1 _ 1 1 rfl rfl (by kernel_rfl)
  obtain ⟨u1, e1, _⟩ := DataW.trod_int (cs := [c1]) Tryd.underlying3 t1
  obtain rfl := (List.cons.inj e0).1
  obtain rfl := (List.cons.inj e1).1
  exact ⟨⟨u0, u1⟩, rfl⟩
theorem ofRun {H : Type} {enc : TypeId × Value → H} {w : World} {base : Nat} {spare : Nat → Bool} {held : Bool} {b0 : Nat} {v : Value} {d : DataW H} {p : List MemPlace} (hv : Value.okWide Tryd.prog w .any b0 39 v) (h : DataW.Trod enc Tryd.prog w base spare held 39 v d p) : ∃ a : Run, v = a.val := by
  obtain ⟨cs, rfl, hsz⟩ := okWide_struct Tryd.underlying39 hv
  obtain ⟨n, h⟩ := h
  obtain ⟨a, ha⟩ := trodRun n _ _ h
  obtain ⟨l⟩ := cs
  exact ⟨a, by simp only [Value.cells] at ha; rw [ha]; rfl⟩

end Go.Proofs.YtjcoakgdhiiiaaaDoor
