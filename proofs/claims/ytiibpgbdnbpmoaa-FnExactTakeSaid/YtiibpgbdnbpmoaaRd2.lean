import Derived.Test.YtiibpgbdnbpmoaaTypes2
import Derived.Test.YtiibpgbdnbpmoaaRead2
namespace Go.Proofs.Ytiibpgbdnbpmoaa
open Go.RowKit Go.Proofs Go.Own
open Go.ChangeShapes Go.WideShapes Go.ChangeAt
set_option linter.unusedVariables false

theorem trodBlock {H : Type} {enc : TypeId × Value → H} {w : World} {base : Nat} {spare : Nat → Bool} {held : Bool} (n : Nat) (cs : List Value) (y : DataW H × List MemPlace) (h : DataW.trod enc Try.prog w base spare held n 72 cs = some y) : ∃ a : Block, cs = a.enc := by
  have hC : Try.prog.cellsOf 72 = 5 := by kernel_rfl
  have hl : cs.length = 5 := by obtain ⟨ys, n', _, _, hl, _⟩ := DataW.trod_struct Try.underlying72 h; omega
  obtain ⟨c0, c1, c2, c3, c4, rfl⟩ : ∃ c0 c1 c2 c3 c4, cs = [c0, c1, c2, c3, c4] := by
    match cs, hl with
    | [a0, a1, a2, a3, a4], _ => exact ⟨a0, a1, a2, a3, a4, rfl⟩
  obtain ⟨n0, y0, t0⟩ := field_sub Try.underlying72 h 0 _ 0 1 rfl rfl (by kernel_rfl)
  obtain ⟨u0, e0, _⟩ := DataW.trod_int (cs := [c0]) Try.underlying3 t0
  obtain ⟨n1, y1, t1⟩ := field_sub Try.underlying72 h 1 _ 1 1 rfl rfl (by kernel_rfl)
  obtain ⟨u1, e1, _⟩ := DataW.trod_bool (cs := [c1]) Try.underlying4 t1
  obtain ⟨na, ya, ta⟩ := field_sub Try.underlying72 h 2 _ 2 3 rfl rfl (by kernel_rfl)
  have ts := array_sub (cs := [c2, c3, c4]) Try.underlying52 (k := 1) (by kernel_rfl) ta
  obtain ⟨n2, y2, t2⟩ := ts 0 (by omega)
  obtain ⟨u2, e2, _⟩ := DataW.trod_int (cs := [c2]) Try.underlying3 t2
  obtain ⟨n3, y3, t3⟩ := ts 1 (by omega)
  obtain ⟨u3, e3, _⟩ := DataW.trod_int (cs := [c3]) Try.underlying3 t3
  obtain ⟨n4, y4, t4⟩ := ts 2 (by omega)
  obtain ⟨u4, e4, _⟩ := DataW.trod_int (cs := [c4]) Try.underlying3 t4
  obtain rfl := (List.cons.inj e0).1
  obtain rfl := (List.cons.inj e1).1
  obtain rfl := (List.cons.inj e2).1
  obtain rfl := (List.cons.inj e3).1
  obtain rfl := (List.cons.inj e4).1
  exact ⟨⟨u0, u1, u2, u3, u4⟩, rfl⟩
theorem ofBlock {H : Type} {enc : TypeId × Value → H} {w : World} {base : Nat} {spare : Nat → Bool} {held : Bool} {b0 : Nat} {v : Value} {d : DataW H} {p : List MemPlace} (hv : Value.okWide Try.prog w .any b0 72 v) (h : DataW.Trod enc Try.prog w base spare held 72 v d p) : ∃ a : Block, v = a.val := by
  obtain ⟨cs, rfl, hsz⟩ := okWide_struct Try.underlying72 hv
  obtain ⟨n, h⟩ := h
  obtain ⟨a, ha⟩ := trodBlock n _ _ h
  obtain ⟨l⟩ := cs
  exact ⟨a, by simp only [Value.cells] at ha; rw [ha]; rfl⟩

theorem trodArena {H : Type} {enc : TypeId × Value → H} {w : World} {base : Nat} {spare : Nat → Bool} {held : Bool} (n : Nat) (cs : List Value) (y : DataW H × List MemPlace) (h : DataW.trod enc Try.prog w base spare held n 25 cs = some y) : ∃ (c0 : Value) (x0 : List Block) (c1 : Value) (x1 : List Int), cs = [c0, c1] ∧ Blocks w c0 x0 ∧ Ints w c1 x1 := by
  have hC : Try.prog.cellsOf 25 = 2 := by kernel_rfl
  have hl : cs.length = 2 := by obtain ⟨ys, n', _, _, hl, _⟩ := DataW.trod_struct Try.underlying25 h; omega
  obtain ⟨c0, c1, rfl⟩ : ∃ c0 c1, cs = [c0, c1] := by
    match cs, hl with
    | [a0, a1], _ => exact ⟨a0, a1, rfl⟩
  obtain ⟨n0, y0, t0⟩ := field_sub Try.underlying25 h 0 _ 0 1 rfl rfl (by kernel_rfl)
  obtain ⟨x0, w0⟩ := flat_of_field Block.enc 5 (by decide) (c := c0) Try.underlying22 (by kernel_rfl) trodBlock (fun _ => rfl) t0
  obtain ⟨n1, y1, t1⟩ := field_sub Try.underlying25 h 1 _ 1 1 rfl rfl (by kernel_rfl)
  obtain ⟨x1, w1⟩ := flat_of_field encI 1 (by decide) (c := c1) Try.underlying23 (by kernel_rfl) (trodI Try.underlying3) (fun _ => rfl) t1
  exact ⟨_, x0, _, x1, rfl, w0, w1⟩
theorem ofArena {H : Type} {enc : TypeId × Value → H} {w : World} {base : Nat} {spare : Nat → Bool} {held : Bool} {b0 : Nat} {v : Value} {d : DataW H} {p : List MemPlace} (hv : Value.okWide Try.prog w .any b0 25 v) (h : DataW.Trod enc Try.prog w base spare held 25 v d p) : ∃ (c0 : Value) (x0 : List Block) (c1 : Value) (x1 : List Int), v = .agg #[c0, c1] ∧ Blocks w c0 x0 ∧ Ints w c1 x1 := by
  obtain ⟨cs, rfl, hsz⟩ := okWide_struct Try.underlying25 hv
  obtain ⟨n, h⟩ := h
  obtain ⟨l⟩ := cs
  obtain ⟨c0, x0, c1, x1, e, w0, w1⟩ := trodArena n l _ h
  exact ⟨c0, x0, c1, x1, by rw [e], w0, w1⟩

end Go.Proofs.Ytiibpgbdnbpmoaa
