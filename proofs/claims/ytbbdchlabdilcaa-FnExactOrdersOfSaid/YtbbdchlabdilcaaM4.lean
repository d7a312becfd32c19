/- Readings of structs that hold arrays or slices. -/
import Derived.Test.YtbbdchlabdilcaaRead
import Derived.Test.YtbbdchlabdilcaaTypes6
namespace Go.Own
open Go.RowKit Go.ChangeShapes Go.WideShapes Go.Deep
section
variable {H : Type} {enc : TypeId × Value → H} {P : Program} {w : World} {base : Nat} {spare : Nat → Bool} {held : Bool}
/-- A field's cells. -/
theorem field_sub {t : TypeId} {fs : Array Field} {fuel : Nat} {cs : List Value} {x : DataW H × List MemPlace} (hs : P.underlying t = some (.struct fs)) (h : DataW.trod enc P w base spare held fuel t cs = some x)
    (i : Nat) (fd : Field) (o k : Nat) (hi : fs[i]? = some fd) (ho : fd.offset = o) (hk : P.cellsOf fd.type = k) : ∃ (n : Nat) (y : DataW H × List MemPlace), DataW.trod enc P w base spare held n fd.type ((cs.drop o).take k) = some y := by
  obtain ⟨ys, n, _, _, hl, hyl, hg⟩ := DataW.trod_struct hs h
  have hif : i < fs.size := (Array.getElem?_eq_some_iff.1 hi).1
  have h1 := hg i fd hi
  rw [ho, hk, List.getElem?_eq_getElem (by omega)] at h1
  exact ⟨n, _, h1⟩
/-- An array's elements. -/
theorem array_sub {n : Nat} {t e : TypeId} {fuel k : Nat} {cs : List Value} {x : DataW H × List MemPlace} (ht : P.underlying t = some (.array n e)) (hk : P.cellsOf e = k) (h : DataW.trod enc P w base spare held fuel t cs = some x) :
    ∀ i, i < n → ∃ (m : Nat) (y : DataW H × List MemPlace), DataW.trod enc P w base spare held m e ((cs.drop (i * k)).take k) = some y := by
  obtain ⟨xs, m, _, _, _, hx, hg⟩ := DataW.trod_array ht h
  intro i hi
  have h1 := hg i hi
  rw [hk, List.getElem?_eq_getElem (by omega)] at h1
  exact ⟨m, _, h1⟩
/-- A slice in a field. -/
theorem flat_of_field {α : Type} (f : α → List Value) (sz : Nat) (hsz0 : 0 < sz) {t e : TypeId} {c : Value} {n : Nat} {y : DataW H × List MemPlace} (ht : P.underlying t = some (.slice e)) (hC : P.cellsOf e = sz)
    (hel : ∀ n cs' y, DataW.trod enc P w base spare held n e cs' = some y → ∃ a, cs' = f a) (hf : ∀ a, (f a).length = sz)
    (h : DataW.trod enc P w base spare held n t [c] = some y) : ∃ xs : List α, Flat w c xs.length sz (xs.flatMap f) := by
  have hv : ∃ a l c', c = .slice a l c' := by
    rcases open_slice ht h with ⟨hcs, _⟩ | ⟨a, len, cap, m, n, D, Pl, hcs, _⟩
    · exact ⟨_, _, _, (List.cons.inj hcs).1⟩
    · exact ⟨_, _, _, (List.cons.inj hcs).1⟩
  obtain ⟨d, p⟩ := y
  refine flat_of_trod f sz hsz0 ht hC hel hf hv (d := d) (p := p) ⟨n, ?_⟩
  obtain ⟨a, l, c', rfl⟩ := hv
  exact h
end
end Go.Own
namespace Go.Proofs.Ytbbdchlabdilcaa
set_option maxRecDepth 100000
open Go.RowKit Go.Proofs Go.Own
open Go.ChangeShapes Go.WideShapes Go.ChangeAt
set_option linter.unusedVariables false

theorem trodEntry {H : Type} {enc : TypeId × Value → H} {w : World} {base : Nat} {spare : Nat → Bool} {held : Bool} (n : Nat) (cs : List Value) (y : DataW H × List MemPlace) (h : DataW.trod enc Try.prog w base spare held n 74 cs = some y) : ∃ a : Entry, cs = a.enc := by
  have hC : Try.prog.cellsOf 74 = 5 := by kernel_rfl
  have hl : cs.length = 5 := by obtain ⟨ys, n', _, _, hl, _⟩ := DataW.trod_struct Try.underlying74 h; omega
  obtain ⟨c0, c1, c2, c3, c4, rfl⟩ : ∃ c0 c1 c2 c3 c4, cs = [c0, c1, c2, c3, c4] := by
    match cs, hl with
    | [a0, a1, a2, a3, a4], _ => exact ⟨a0, a1, a2, a3, a4, rfl⟩
  obtain ⟨n0, y0, t0⟩ := field_sub Try.underlying74 h 0 _ 0 1 rfl rfl (by kernel_rfl)
  obtain ⟨u0, e0, _⟩ := DataW.trod_int (cs := [c0]) Try.underlying3 t0
  obtain ⟨n1, y1, t1⟩ := field_sub Try.underlying74 h 1 _ 1 1 rfl rfl (by kernel_rfl)
  obtain ⟨u1, e1, _⟩ := DataW.trod_int (cs := [c1]) Try.underlying3 t1
  obtain ⟨n2, y2, t2⟩ := field_sub Try.underlying74 h 2 _ 2 1 rfl rfl (by kernel_rfl)
  obtain ⟨u2, e2, _⟩ := DataW.trod_int (cs := [c2]) Try.underlying3 t2
  obtain ⟨n3, y3, t3⟩ := field_sub Try.underlying74 h 3 _ 3 1 rfl rfl (by kernel_rfl)
  obtain ⟨u3, e3, _⟩ := DataW.trod_int (cs := [c3]) Try.underlying3 t3
  obtain ⟨n4, y4, t4⟩ := field_sub Try.underlying74 h 4 _ 4 1 rfl rfl (by kernel_rfl)
  obtain ⟨u4, e4, _⟩ := DataW.trod_bool (cs := [c4]) Try.underlying4 t4
  obtain rfl := (List.cons.inj e0).1
  obtain rfl := (List.cons.inj e1).1
  obtain rfl := (List.cons.inj e2).1
  obtain rfl := (List.cons.inj e3).1
  obtain rfl := (List.cons.inj e4).1
  exact ⟨⟨u0, u1, u2, u3, u4⟩, rfl⟩
theorem ofEntry {H : Type} {enc : TypeId × Value → H} {w : World} {base : Nat} {spare : Nat → Bool} {held : Bool} {b0 : Nat} {v : Value} {d : DataW H} {p : List MemPlace} (hv : Value.okWide Try.prog w .any b0 74 v) (h : DataW.Trod enc Try.prog w base spare held 74 v d p) : ∃ a : Entry, v = a.val := by
  obtain ⟨cs, rfl, hsz⟩ := okWide_struct Try.underlying74 hv
  obtain ⟨n, h⟩ := h
  obtain ⟨a, ha⟩ := trodEntry n _ _ h
  obtain ⟨l⟩ := cs
  exact ⟨a, by simp only [Value.cells] at ha; rw [ha]; rfl⟩

theorem trodDesc {H : Type} {enc : TypeId × Value → H} {w : World} {base : Nat} {spare : Nat → Bool} {held : Bool} (n : Nat) (cs : List Value) (y : DataW H × List MemPlace) (h : DataW.trod enc Try.prog w base spare held n 40 cs = some y) : ∃ (u0 : Int) (u1 : Int) (c2 : Value) (x2 : List Entry), cs = [.int .i64 u0, .int .i64 u1, c2] ∧ Entrys w c2 x2 := by
  have hC : Try.prog.cellsOf 40 = 3 := by kernel_rfl
  have hl : cs.length = 3 := by obtain ⟨ys, n', _, _, hl, _⟩ := DataW.trod_struct Try.underlying40 h; omega
  obtain ⟨c0, c1, c2, rfl⟩ : ∃ c0 c1 c2, cs = [c0, c1, c2] := by
    match cs, hl with
    | [a0, a1, a2], _ => exact ⟨a0, a1, a2, rfl⟩
  obtain ⟨n0, y0, t0⟩ := field_sub Try.underlying40 h 0 _ 0 1 rfl rfl (by kernel_rfl)
  obtain ⟨u0, e0, _⟩ := DataW.trod_int (cs := [c0]) Try.underlying3 t0
  obtain rfl := (List.cons.inj e0).1
  obtain ⟨n1, y1, t1⟩ := field_sub Try.underlying40 h 1 _ 1 1 rfl rfl (by kernel_rfl)
  obtain ⟨u1, e1, _⟩ := DataW.trod_int (cs := [c1]) Try.underlying3 t1
  obtain rfl := (List.cons.inj e1).1
  obtain ⟨n2, y2, t2⟩ := field_sub Try.underlying40 h 2 _ 2 1 rfl rfl (by kernel_rfl)
  obtain ⟨x2, w2⟩ := flat_of_field Entry.enc 5 (by decide) (c := c2) Try.underlying38 (by kernel_rfl) trodEntry (fun _ => rfl) t2
  exact ⟨u0, u1, _, x2, rfl, w2⟩
theorem ofDesc {H : Type} {enc : TypeId × Value → H} {w : World} {base : Nat} {spare : Nat → Bool} {held : Bool} {b0 : Nat} {v : Value} {d : DataW H} {p : List MemPlace} (hv : Value.okWide Try.prog w .any b0 40 v) (h : DataW.Trod enc Try.prog w base spare held 40 v d p) : ∃ (u0 : Int) (u1 : Int) (c2 : Value) (x2 : List Entry), v = .agg #[.int .i64 u0, .int .i64 u1, c2] ∧ Entrys w c2 x2 := by
  obtain ⟨cs, rfl, hsz⟩ := okWide_struct Try.underlying40 hv
  obtain ⟨n, h⟩ := h
  obtain ⟨l⟩ := cs
  obtain ⟨u0, u1, c2, x2, e, w2⟩ := trodDesc n l _ h
  exact ⟨u0, u1, c2, x2, by rw [e], w2⟩

end Go.Proofs.Ytbbdchlabdilcaa
