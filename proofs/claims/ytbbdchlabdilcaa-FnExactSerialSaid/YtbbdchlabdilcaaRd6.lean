/- Texts of the claim. -/
import Derived.Test.YtbbdchlabdilcaaTypes6
import Derived.Test.YtbbdchlabdilcaaRead2
namespace Go.Proofs.Ytbbdchlabdilcaa
set_option maxRecDepth 100000
open Go.RowKit Go.Proofs Go.Own
open Go.ChangeShapes Go.WideShapes Go.ChangeAt
set_option linter.unusedVariables false

theorem trodEntry {H : Type} {enc : TypeId × Value → H} {w : World} {base : Nat} {spare : Nat → Bool} {held : Bool} (n : Nat) (cs : List Value) (y : DataW H × List MemPlace) (h : DataW.trod enc Try.prog w base spare held n 74 cs = some y) : ∃ a : Entry, cs = a.enc := by
  have hC : Try.prog.cellsOf 74 = 5 := by kernel_rfl
  have hl : cs.length = 5 := by obtain ⟨ys, n', _, _, hl, _⟩ := DataW.trod_struct Try.underlying74 h; omega
  obtain ⟨c0, c1, c2, c3, c4, rfl⟩ : ∃ c0 c1 c2 c3 c4, cs = [c0, c1, c2, c3, c4] := by
    match cs, hl with
    | [a0, a1, a2, a3, a4], _ => exact ⟨a0, a1, a2, a3, a4, rfl⟩
  obtain ⟨n0, y0, t0⟩ := field_sub Try.underlying74 h 0 _ 0 1 rfl rfl (by kernel_rfl)
  obtain ⟨u0, e0, _⟩ := DataW.trod_int (cs := [c0]) Try.underlying3 t0
  obtain ⟨n1, y1, t1⟩ := field_sub Try.underlying74 h 1 _ 1 1 rfl rfl (by kernel_rfl)
  obtain ⟨u1, e1, _⟩ := DataW.trod_int (cs := [c1]) Try.underlying3 t1
  obtain ⟨n2, y2, t2⟩ := field_sub Try.underlying74 h 2 _ 2 1 rfl rfl (by kernel_rfl)
  obtain ⟨u2, e2, _⟩ := DataW.trod_int (cs := [c2]) Try.underlying3 t2
  obtain ⟨n3, y3, t3⟩ := field_sub Try.underlying74 h 3 _ 3 1 rfl rfl (by kernel_rfl)
  obtain ⟨u3, e3, _⟩ := DataW.trod_int (cs := [c3]) Try.underlying3 t3
  obtain ⟨n4, y4, t4⟩ := field_sub Try.underlying74 h 4 _ 4 1 rfl rfl (by kernel_rfl)
  obtain ⟨u4, e4, _⟩ := DataW.trod_bool (cs := [c4]) Try.underlying4 t4
  obtain rfl := (List.cons.inj e0).1
  obtain rfl := (List.cons.inj e1).1
  obtain rfl := (List.cons.inj e2).1
  obtain rfl := (List.cons.inj e3).1
  obtain rfl := (List.cons.inj e4).1
  exact ⟨⟨u0, u1, u2, u3, u4⟩, rfl⟩
theorem ofEntry {H : Type} {enc : TypeId × Value → H} {w : World} {base : Nat} {spare : Nat → Bool} {held : Bool} {b0 : Nat} {v : Value} {d : DataW H} {p : List MemPlace} (hv : Value.okWide Try.prog w .any b0 74 v) (h : DataW.Trod enc Try.prog w base spare held 74 v d p) : ∃ a : Entry, v = a.val := by
  obtain ⟨cs, rfl, hsz⟩ := okWide_struct Try.underlying74 hv
  obtain ⟨n, h⟩ := h
  obtain ⟨a, ha⟩ := trodEntry n _ _ h
  obtain ⟨l⟩ := cs
  exact ⟨a, by simp only [Value.cells] at ha; rw [ha]; rfl⟩

theorem trodDesc {H : Type} {enc : TypeId × Value → H} {w : World} {base : Nat} {spare : Nat → Bool} {held : Bool} (n : Nat) (cs : List Value) (y : DataW H × List MemPlace) (h : DataW.trod enc Try.prog w base spare held n 40 cs = some y) : ∃ (u0 : Int) (u1 : Int) (c2 : Value) (x2 : List Entry), cs = [.int .i64 u0, .int .i64 u1, c2] ∧ Entrys w c2 x2 := by
  have hC : Try.prog.cellsOf 40 = 3 := by kernel_rfl
  have hl : cs.length = 3 := by obtain ⟨ys, n', _, _, hl, _⟩ := DataW.trod_struct Try.underlying40 h; omega
  obtain ⟨c0, c1, c2, rfl⟩ : ∃ c0 c1 c2, cs = [c0, c1, c2] := by
    match cs, hl with
    | [a0, a1, a2], _ => exact ⟨a0, a1, a2, rfl⟩
  obtain ⟨n0, y0, t0⟩ := field_sub Try.underlying40 h 0 _ 0 1 rfl rfl (by kernel_rfl)
  obtain ⟨u0, e0, _⟩ := DataW.trod_int (cs := [c0]) Try.underlying3 t0
  obtain rfl := (List.cons.inj e0).1
  obtain ⟨n1, y1, t1⟩ := field_sub Try.underlying40 h 1 _ 1 1 rfl rfl (by kernel_rfl)
  obtain ⟨u1, e1, _⟩ := DataW.trod_int (cs := [c1]) Try.underlying3 t1
  obtain rfl := (List.cons.inj e1).1
  obtain ⟨n2, y2, t2⟩ := field_sub Try.underlying40 h 2 _ 2 1 rfl rfl (by kernel_rfl)
  obtain ⟨x2, w2⟩ := flat_of_field Entry.enc 5 (by decide) (c := c2) Try.underlying38 (by kernel_rfl) trodEntry (fun _ => rfl) t2
  exact ⟨u0, u1, _, x2, rfl, w2⟩
theorem ofDesc {H : Type} {enc : TypeId × Value → H} {w : World} {base : Nat} {spare : Nat → Bool} {held : Bool} {b0 : Nat} {v : Value} {d : DataW H} {p : List MemPlace} (hv : Value.okWide Try.prog w .any b0 40 v) (h : DataW.Trod enc Try.prog w base spare held 40 v d p) : ∃ (u0 : Int) (u1 : Int) (c2 : Value) (x2 : List Entry), v = .agg #[.int .i64 u0, .int .i64 u1, c2] ∧ Entrys w c2 x2 := by
  obtain ⟨cs, rfl, hsz⟩ := okWide_struct Try.underlying40 hv
  obtain ⟨n, h⟩ := h
  obtain ⟨l⟩ := cs
  obtain ⟨u0, u1, c2, x2, e, w2⟩ := trodDesc n l _ h
  exact ⟨u0, u1, c2, x2, by rw [e], w2⟩

end Go.Proofs.Ytbbdchlabdilcaa
