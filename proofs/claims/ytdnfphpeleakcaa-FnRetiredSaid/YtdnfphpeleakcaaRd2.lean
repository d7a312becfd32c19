import Derived.Test.YtdnfphpeleakcaaF3
import Derived.Test.YtdnfphpeleakcaaRead2
namespace Go.Proofs.Ytdnfphpeleakcaa
set_option maxRecDepth 100000
open Go.RowKit Go.Proofs Go.Own
open Go.ChangeShapes Go.WideShapes Go.ChangeAt
set_option linter.unusedVariables false

theorem unsub {α : Type} {p : α → Prop} {f : α → List Value} {w : World} {v : Value} {sz : Nat} {xs : List {a : α // p a}} (h : Flat w v xs.length sz (xs.flatMap fun a => f a.1)) : ∃ ys : List α, Flat w v ys.length sz (ys.flatMap f) ∧ ∀ y ∈ ys, p y :=
  ⟨xs.map (·.1), by simpa [List.flatMap_map] using h, by intro y hy; obtain ⟨a, _, rfl⟩ := List.mem_map.1 hy; exact a.2⟩
theorem trodBlock {H : Type} {enc : TypeId × Value → H} {w : World} {base : Nat} {spare : Nat → Bool} {held : Bool} (n : Nat) (cs : List Value) (y : DataW H × List MemPlace) (h : DataW.trod enc Try.prog w base spare held n 128 cs = some y) : ∃ a : Block, cs = a.enc := by
  have hC : Try.prog.cellsOf 128 = 5 := by kernel_rfl
  have hl : cs.length = 5 := by obtain ⟨ys, n', _, _, hl, _⟩ := DataW.trod_struct Try.underlying128 h; omega
  obtain ⟨c0, c1, c2, c3, c4, rfl⟩ : ∃ c0 c1 c2 c3 c4, cs = [c0, c1, c2, c3, c4] := by
    match cs, hl with
    | [a0, a1, a2, a3, a4], _ => exact ⟨a0, a1, a2, a3, a4, rfl⟩
  obtain ⟨n0, y0, t0⟩ := field_sub Try.underlying128 h 0 _ 0 1 rfl rfl (by kernel_rfl)
  obtain ⟨u0, e0, _⟩ := DataW.trod_int (cs := [c0]) Try.underlying3 t0
  obtain ⟨n1, y1, t1⟩ := field_sub Try.underlying128 h 1 _ 1 1 rfl rfl (by kernel_rfl)
  obtain ⟨u1, e1, _⟩ := DataW.trod_bool (cs := [c1]) Try.underlying4 t1
  obtain ⟨na, ya, ta⟩ := field_sub Try.underlying128 h 2 _ 2 3 rfl rfl (by kernel_rfl)
  have ts := array_sub (cs := [c2, c3, c4]) Try.underlying62 (k := 1) (by kernel_rfl) ta
  obtain ⟨n2, y2, t2⟩ := ts 0 (by omega)
  obtain ⟨u2, e2, _⟩ := DataW.trod_int (cs := [c2]) Try.underlying3 t2
  obtain ⟨n3, y3, t3⟩ := ts 1 (by omega)
  obtain ⟨u3, e3, _⟩ := DataW.trod_int (cs := [c3]) Try.underlying3 t3
  obtain ⟨n4, y4, t4⟩ := ts 2 (by omega)
  obtain ⟨u4, e4, _⟩ := DataW.trod_int (cs := [c4]) Try.underlying3 t4
  obtain rfl := (List.cons.inj e0).1
  obtain rfl := (List.cons.inj e1).1
  obtain rfl := (List.cons.inj e2).1
  obtain rfl := (List.cons.inj e3).1
  obtain rfl := (List.cons.inj e4).1
  exact ⟨⟨u0, u1, u2, u3, u4⟩, rfl⟩
theorem ofBlock {H : Type} {enc : TypeId × Value → H} {w : World} {base : Nat} {spare : Nat → Bool} {held : Bool} {b0 : Nat} {v : Value} {d : DataW H} {p : List MemPlace} (hv : Value.okWide Try.prog w .any b0 128 v) (h : DataW.Trod enc Try.prog w base spare held 128 v d p) : ∃ a : Block, v = a.val := by
  obtain ⟨cs, rfl, hsz⟩ := okWide_struct Try.underlying128 hv
  obtain ⟨n, h⟩ := h
  obtain ⟨a, ha⟩ := trodBlock n _ _ h
  obtain ⟨l⟩ := cs
  exact ⟨a, by simp only [Value.cells] at ha; rw [ha]; rfl⟩

theorem trodGone {H : Type} {enc : TypeId × Value → H} {w : World} {base : Nat} {spare : Nat → Bool} {held : Bool} (n : Nat) (cs : List Value) (y : DataW H × List MemPlace) (h : DataW.trod enc Try.prog w base spare held n 115 cs = some y) : ∃ a : Gone, cs = a.enc := by
  have hC : Try.prog.cellsOf 115 = 2 := by kernel_rfl
  have hl : cs.length = 2 := by obtain ⟨ys, n', _, _, hl, _⟩ := DataW.trod_struct Try.underlying115 h; omega
  obtain ⟨c0, c1, rfl⟩ : ∃ c0 c1, cs = [c0, c1] := by
    match cs, hl with
    | [a0, a1], _ => exact ⟨a0, a1, rfl⟩
  obtain ⟨n0, y0, t0⟩ := field_sub Try.underlying115 h 0 _ 0 1 rfl rfl (by kernel_rfl)
  obtain ⟨u0, e0, _⟩ := DataW.trod_int (cs := [c0]) Try.underlying3 t0
  obtain ⟨n1, y1, t1⟩ := field_sub Try.underlying115 h 1 _ 1 1 rfl rfl (by kernel_rfl)
  obtain ⟨u1, e1, _⟩ := DataW.trod_int (cs := [c1]) Try.underlying3 t1
  obtain rfl := (List.cons.inj e0).1
  obtain rfl := (List.cons.inj e1).1
  exact ⟨⟨u0, u1⟩, rfl⟩
theorem trodfitGone {H : Type} {enc : TypeId × Value → H} {w : World} {base : Nat} {spare : Nat → Bool} {held : Bool} (n : Nat) (cs : List Value) (y : DataW H × List MemPlace) (h : DataW.trod enc Try.prog w base spare held n 115 cs = some y) : ∃ a : {a : Gone // InI a.handle_}, cs = a.1.enc := by
  have hC : Try.prog.cellsOf 115 = 2 := by kernel_rfl
  have hl : cs.length = 2 := by obtain ⟨ys, n', _, _, hl, _⟩ := DataW.trod_struct Try.underlying115 h; omega
  obtain ⟨c0, c1, rfl⟩ : ∃ c0 c1, cs = [c0, c1] := by
    match cs, hl with
    | [a0, a1], _ => exact ⟨a0, a1, rfl⟩
  obtain ⟨n0, y0, t0⟩ := field_sub Try.underlying115 h 0 _ 0 1 rfl rfl (by kernel_rfl)
  obtain ⟨u0, e0, _, wf0⟩ := DataW.trod_int (cs := [c0]) Try.underlying3 t0
  obtain ⟨n1, y1, t1⟩ := field_sub Try.underlying115 h 1 _ 1 1 rfl rfl (by kernel_rfl)
  obtain ⟨u1, e1, _⟩ := DataW.trod_int (cs := [c1]) Try.underlying3 t1
  obtain rfl := (List.cons.inj e0).1
  obtain rfl := (List.cons.inj e1).1
  exact ⟨⟨⟨u0, u1⟩, inI_of_wf wf0⟩, rfl⟩
theorem ofGone {H : Type} {enc : TypeId × Value → H} {w : World} {base : Nat} {spare : Nat → Bool} {held : Bool} {b0 : Nat} {v : Value} {d : DataW H} {p : List MemPlace} (hv : Value.okWide Try.prog w .any b0 115 v) (h : DataW.Trod enc Try.prog w base spare held 115 v d p) : ∃ a : Gone, v = a.val := by
  obtain ⟨cs, rfl, hsz⟩ := okWide_struct Try.underlying115 hv
  obtain ⟨n, h⟩ := h
  obtain ⟨a, ha⟩ := trodGone n _ _ h
  obtain ⟨l⟩ := cs
  exact ⟨a, by simp only [Value.cells] at ha; rw [ha]; rfl⟩

theorem trodArena {H : Type} {enc : TypeId × Value → H} {w : World} {base : Nat} {spare : Nat → Bool} {held : Bool} (n : Nat) (cs : List Value) (y : DataW H × List MemPlace) (h : DataW.trod enc Try.prog w base spare held n 43 cs = some y) : ∃ (c0 : Value) (x0 : List Block) (c1 : Value) (x1 : List Int), cs = [c0, c1] ∧ Blocks w c0 x0 ∧ Ints w c1 x1 := by
  have hC : Try.prog.cellsOf 43 = 2 := by kernel_rfl
  have hl : cs.length = 2 := by obtain ⟨ys, n', _, _, hl, _⟩ := DataW.trod_struct Try.underlying43 h; omega
  obtain ⟨c0, c1, rfl⟩ : ∃ c0 c1, cs = [c0, c1] := by
    match cs, hl with
    | [a0, a1], _ => exact ⟨a0, a1, rfl⟩
  obtain ⟨n0, y0, t0⟩ := field_sub Try.underlying43 h 0 _ 0 1 rfl rfl (by kernel_rfl)
  obtain ⟨x0, w0⟩ := flat_of_field Block.enc 5 (by decide) (c := c0) Try.underlying41 (by kernel_rfl) trodBlock (fun _ => rfl) t0
  obtain ⟨n1, y1, t1⟩ := field_sub Try.underlying43 h 1 _ 1 1 rfl rfl (by kernel_rfl)
  obtain ⟨x1, w1⟩ := flat_of_field encI 1 (by decide) (c := c1) Try.underlying25 (by kernel_rfl) (trodI Try.underlying3) (fun _ => rfl) t1
  exact ⟨_, x0, _, x1, rfl, w0, w1⟩
theorem ofArena {H : Type} {enc : TypeId × Value → H} {w : World} {base : Nat} {spare : Nat → Bool} {held : Bool} {b0 : Nat} {v : Value} {d : DataW H} {p : List MemPlace} (hv : Value.okWide Try.prog w .any b0 43 v) (h : DataW.Trod enc Try.prog w base spare held 43 v d p) : ∃ (c0 : Value) (x0 : List Block) (c1 : Value) (x1 : List Int), v = .agg #[c0, c1] ∧ Blocks w c0 x0 ∧ Ints w c1 x1 := by
  obtain ⟨cs, rfl, hsz⟩ := okWide_struct Try.underlying43 hv
  obtain ⟨n, h⟩ := h
  obtain ⟨l⟩ := cs
  obtain ⟨c0, x0, c1, x1, e, w0, w1⟩ := trodArena n l _ h
  exact ⟨c0, x0, c1, x1, by rw [e], w0, w1⟩

theorem trodYard {H : Type} {enc : TypeId × Value → H} {w : World} {base : Nat} {spare : Nat → Bool} {held : Bool} (n : Nat) (cs : List Value) (y : DataW H × List MemPlace) (h : DataW.trod enc Try.prog w base spare held n 46 cs = some y) : ∃ (c0 : Value) (x0 : List Block) (c1 : Value) (x1 : List Int) (c2 : Value) (x2 : List Int) (c3 : Value) (x3 : List Gone) (u4 : Int), cs = [c0, c1, c2, c3, .int .i64 u4] ∧ Blocks w c0 x0 ∧ Ints w c1 x1 ∧ Ints w c2 x2 ∧ Gones w c3 x3 ∧ GonesIn x3 := by
  have hC : Try.prog.cellsOf 46 = 5 := by kernel_rfl
  have hl : cs.length = 5 := by obtain ⟨ys, n', _, _, hl, _⟩ := DataW.trod_struct Try.underlying46 h; omega
  obtain ⟨c0, c1, c2, c3, c4, rfl⟩ : ∃ c0 c1 c2 c3 c4, cs = [c0, c1, c2, c3, c4] := by
    match cs, hl with
    | [a0, a1, a2, a3, a4], _ => exact ⟨a0, a1, a2, a3, a4, rfl⟩
  obtain ⟨n0, y0, t0⟩ := field_sub Try.underlying46 h 0 _ 0 2 rfl rfl (by kernel_rfl)
  obtain ⟨d0, x0, d1, x1, ee0, w0, w1⟩ := trodArena _ [c0, c1] _ t0
  simp only [List.cons.injEq, and_true] at ee0
  obtain ⟨rfl, rfl⟩ := ee0
  obtain ⟨n2, y2, t2⟩ := field_sub Try.underlying46 h 1 _ 2 1 rfl rfl (by kernel_rfl)
  obtain ⟨x2, w2⟩ := flat_of_field encI 1 (by decide) (c := c2) Try.underlying25 (by kernel_rfl) (trodI Try.underlying3) (fun _ => rfl) t2
  obtain ⟨n3, y3, t3⟩ := field_sub Try.underlying46 h 2 _ 3 1 rfl rfl (by kernel_rfl)
  obtain ⟨z3, w3⟩ := flat_of_field (fun a : {a : Gone // InI a.handle_} => Gone.enc a.1) 2 (by decide) (c := c3) Try.underlying44 (by kernel_rfl) trodfitGone (fun _ => rfl) t3
  obtain ⟨x3, w3, g3⟩ := unsub w3
  obtain ⟨n4, y4, t4⟩ := field_sub Try.underlying46 h 3 _ 4 1 rfl rfl (by kernel_rfl)
  obtain ⟨u4, e4, _⟩ := DataW.trod_int (cs := [c4]) Try.underlying3 t4
  obtain rfl := (List.cons.inj e4).1
  exact ⟨_, x0, _, x1, _, x2, _, x3, u4, rfl, w0, w1, w2, w3, g3⟩
theorem ofYard {H : Type} {enc : TypeId × Value → H} {w : World} {base : Nat} {spare : Nat → Bool} {held : Bool} {b0 : Nat} {v : Value} {d : DataW H} {p : List MemPlace} (hv : Value.okWide Try.prog w .any b0 46 v) (h : DataW.Trod enc Try.prog w base spare held 46 v d p) : ∃ (c0 : Value) (x0 : List Block) (c1 : Value) (x1 : List Int) (c2 : Value) (x2 : List Int) (c3 : Value) (x3 : List Gone) (u4 : Int), v = .agg #[c0, c1, c2, c3, .int .i64 u4] ∧ Blocks w c0 x0 ∧ Ints w c1 x1 ∧ Ints w c2 x2 ∧ Gones w c3 x3 ∧ GonesIn x3 := by
  obtain ⟨cs, rfl, hsz⟩ := okWide_struct Try.underlying46 hv
  obtain ⟨n, h⟩ := h
  obtain ⟨l⟩ := cs
  obtain ⟨c0, x0, c1, x1, c2, x2, c3, x3, u4, e, w0, w1, w2, w3, g3⟩ := trodYard n l _ h
  exact ⟨c0, x0, c1, x1, c2, x2, c3, x3, u4, by rw [e], w0, w1, w2, w3, g3⟩

end Go.Proofs.Ytdnfphpeleakcaa
