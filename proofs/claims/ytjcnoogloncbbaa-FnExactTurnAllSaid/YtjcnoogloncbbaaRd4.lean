import Derived.Test.YtjcnoogloncbbaaTypes4
import Derived.Test.YtjcnoogloncbbaaFt
import Derived.Test.YtjcnoogloncbbaaRead2
namespace Go.Proofs.Ytjcnoogloncbbaa
set_option maxRecDepth 100000
open Go.RowKit Go.Proofs Go.Own
open Go.ChangeShapes Go.WideShapes Go.ChangeAt
set_option linter.unusedVariables false

theorem trodPhasor {H : Type} {enc : TypeId × Value → H} {w : World} {base : Nat} {spare : Nat → Bool} {held : Bool} (n : Nat) (cs : List Value) (y : DataW H × List MemPlace) (h : DataW.trod enc Try.prog w base spare held n 24 cs = some y) : ∃ a : Phasor, cs = a.enc := by
  have hC : Try.prog.cellsOf 24 = 2 := by kernel_rfl
  have hl : cs.length = 2 := by obtain ⟨ys, n', _, _, hl, _⟩ := DataW.trod_struct Try.underlying24 h; omega
  obtain ⟨c0, c1, rfl⟩ : ∃ c0 c1, cs = [c0, c1] := by
    match cs, hl with
    | [a0, a1], _ => exact ⟨a0, a1, rfl⟩
  obtain ⟨n0, y0, t0⟩ := field_sub Try.underlying24 h 0 _ 0 1 rfl rfl (by kernel_rfl)
  obtain ⟨u0, e0, _⟩ := DataW.trod_float (cs := [c0]) Try.underlying22 t0
  obtain ⟨n1, y1, t1⟩ := field_sub Try.underlying24 h 1 _ 1 1 rfl rfl (by kernel_rfl)
  obtain ⟨u1, e1, _⟩ := DataW.trod_float (cs := [c1]) Try.underlying22 t1
  obtain rfl := (List.cons.inj e0).1
  obtain rfl := (List.cons.inj e1).1
  exact ⟨⟨u0, u1⟩, rfl⟩
theorem ofPhasor {H : Type} {enc : TypeId × Value → H} {w : World} {base : Nat} {spare : Nat → Bool} {held : Bool} {b0 : Nat} {v : Value} {d : DataW H} {p : List MemPlace} (hv : Value.okWide Try.prog w .any b0 24 v) (h : DataW.Trod enc Try.prog w base spare held 24 v d p) : ∃ a : Phasor, v = a.val := by
  obtain ⟨cs, rfl, hsz⟩ := okWide_struct Try.underlying24 hv
  obtain ⟨n, h⟩ := h
  obtain ⟨a, ha⟩ := trodPhasor n _ _ h
  obtain ⟨l⟩ := cs
  exact ⟨a, by simp only [Value.cells] at ha; rw [ha]; rfl⟩

theorem trodSlim {H : Type} {enc : TypeId × Value → H} {w : World} {base : Nat} {spare : Nat → Bool} {held : Bool} (n : Nat) (cs : List Value) (y : DataW H × List MemPlace) (h : DataW.trod enc Try.prog w base spare held n 33 cs = some y) : ∃ a : Slim, cs = a.enc := by
  have hC : Try.prog.cellsOf 33 = 2 := by kernel_rfl
  have hl : cs.length = 2 := by obtain ⟨ys, n', _, _, hl, _⟩ := DataW.trod_struct Try.underlying33 h; omega
  obtain ⟨c0, c1, rfl⟩ : ∃ c0 c1, cs = [c0, c1] := by
    match cs, hl with
    | [a0, a1], _ => exact ⟨a0, a1, rfl⟩
  obtain ⟨n0, y0, t0⟩ := field_sub Try.underlying33 h 0 _ 0 1 rfl rfl (by kernel_rfl)
  obtain ⟨u0, e0, _⟩ := DataW.trod_float (cs := [c0]) Try.underlying25 t0
  obtain ⟨n1, y1, t1⟩ := field_sub Try.underlying33 h 1 _ 1 1 rfl rfl (by kernel_rfl)
  obtain ⟨u1, e1, _⟩ := DataW.trod_float (cs := [c1]) Try.underlying25 t1
  obtain rfl := (List.cons.inj e0).1
  obtain rfl := (List.cons.inj e1).1
  exact ⟨⟨u0, u1⟩, rfl⟩
theorem ofSlim {H : Type} {enc : TypeId × Value → H} {w : World} {base : Nat} {spare : Nat → Bool} {held : Bool} {b0 : Nat} {v : Value} {d : DataW H} {p : List MemPlace} (hv : Value.okWide Try.prog w .any b0 33 v) (h : DataW.Trod enc Try.prog w base spare held 33 v d p) : ∃ a : Slim, v = a.val := by
  obtain ⟨cs, rfl, hsz⟩ := okWide_struct Try.underlying33 hv
  obtain ⟨n, h⟩ := h
  obtain ⟨a, ha⟩ := trodSlim n _ _ h
  obtain ⟨l⟩ := cs
  exact ⟨a, by simp only [Value.cells] at ha; rw [ha]; rfl⟩

theorem trodTurn4 {H : Type} {enc : TypeId × Value → H} {w : World} {base : Nat} {spare : Nat → Bool} {held : Bool} (n : Nat) (cs : List Value) (y : DataW H × List MemPlace) (h : DataW.trod enc Try.prog w base spare held n 44 cs = some y) : ∃ a : Turn4, cs = a.enc := by
  have hC : Try.prog.cellsOf 44 = 5 := by kernel_rfl
  have hl : cs.length = 5 := by obtain ⟨ys, n', _, _, hl, _⟩ := DataW.trod_struct Try.underlying44 h; omega
  obtain ⟨c0, c1, c2, c3, c4, rfl⟩ : ∃ c0 c1 c2 c3 c4, cs = [c0, c1, c2, c3, c4] := by
    match cs, hl with
    | [a0, a1, a2, a3, a4], _ => exact ⟨a0, a1, a2, a3, a4, rfl⟩
  obtain ⟨n0, y0, t0⟩ := field_sub Try.underlying44 h 0 _ 0 1 rfl rfl (by kernel_rfl)
  obtain ⟨u0, e0, _⟩ := DataW.trod_int (cs := [c0]) Try.underlying3 t0
  obtain ⟨n1, y1, t1⟩ := field_sub Try.underlying44 h 1 _ 1 1 rfl rfl (by kernel_rfl)
  obtain ⟨u1, e1, _⟩ := DataW.trod_int (cs := [c1]) Try.underlying3 t1
  obtain ⟨n2, y2, t2⟩ := field_sub Try.underlying44 h 2 _ 2 1 rfl rfl (by kernel_rfl)
  obtain ⟨u2, e2, _⟩ := DataW.trod_int (cs := [c2]) Try.underlying3 t2
  obtain ⟨na, ya, ta⟩ := field_sub Try.underlying44 h 3 _ 3 2 rfl rfl (by kernel_rfl)
  obtain ⟨⟨u3, u4⟩, ea⟩ := trodPhasor na [c3, c4] ya ta
  unfold Phasor.enc at ea
  simp only [List.cons.injEq, and_true] at ea
  obtain ⟨rfl, rfl⟩ := ea
  obtain rfl := (List.cons.inj e0).1
  obtain rfl := (List.cons.inj e1).1
  obtain rfl := (List.cons.inj e2).1
  exact ⟨⟨u0, u1, u2, u3, u4⟩, rfl⟩
theorem ofTurn4 {H : Type} {enc : TypeId × Value → H} {w : World} {base : Nat} {spare : Nat → Bool} {held : Bool} {b0 : Nat} {v : Value} {d : DataW H} {p : List MemPlace} (hv : Value.okWide Try.prog w .any b0 44 v) (h : DataW.Trod enc Try.prog w base spare held 44 v d p) : ∃ a : Turn4, v = a.val := by
  obtain ⟨cs, rfl, hsz⟩ := okWide_struct Try.underlying44 hv
  obtain ⟨n, h⟩ := h
  obtain ⟨a, ha⟩ := trodTurn4 n _ _ h
  obtain ⟨l⟩ := cs
  exact ⟨a, by simp only [Value.cells] at ha; rw [ha]; rfl⟩

end Go.Proofs.Ytjcnoogloncbbaa
