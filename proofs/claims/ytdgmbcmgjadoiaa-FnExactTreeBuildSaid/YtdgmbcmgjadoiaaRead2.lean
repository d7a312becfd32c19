/- Readings of structs that hold arrays or slices. -/
import Derived.Test.YtdgmbcmgjadoiaaRead
namespace Go.Own
open Go.RowKit Go.ChangeShapes Go.WideShapes Go.Deep
section
variable {H : Type} {enc : TypeId × Value → H} {P : Program} {w : World} {base : Nat} {spare : Nat → Bool} {held : Bool}
/-- A field's cells. -/
theorem field_sub {t : TypeId} {fs : Array Field} {fuel : Nat} {cs : List Value} {x : DataW H × List MemPlace} (hs : P.underlying t = some (.struct fs)) (h : DataW.trod enc P w base spare held fuel t cs = some x)
    (i : Nat) (fd : Field) (o k : Nat) (hi : fs[i]? = some fd) (ho : fd.offset = o) (hk : P.cellsOf fd.type = k) : ∃ (n : Nat) (y : DataW H × List MemPlace), DataW.trod enc P w base spare held n fd.type ((cs.drop o).take k) = some y := by
  obtain ⟨ys, n, _, _, hl, hyl, hg⟩ := DataW.trod_struct hs h
  have hif : i < fs.size := (Array.getElem?_eq_some_iff.1 hi).1
  have h1 := hg i fd hi
  rw [ho, hk, List.getElem?_eq_getElem (by omega)] at h1
  exact ⟨n, _, h1⟩
/-- An array's elements. -/
theorem array_sub {n : Nat} {t e : TypeId} {fuel k : Nat} {cs : List Value} {x : DataW H × List MemPlace} (ht : P.underlying t = some (.array n e)) (hk : P.cellsOf e = k) (h : DataW.trod enc P w base spare held fuel t cs = some x) :
    ∀ i, i < n → ∃ (m : Nat) (y : DataW H × List MemPlace), DataW.trod enc P w base spare held m e ((cs.drop (i * k)).take k) = some y := by
  obtain ⟨xs, m, _, _, _, hx, hg⟩ := DataW.trod_array ht h
  intro i hi
  have h1 := hg i hi
  rw [hk, List.getElem?_eq_getElem (by omega)] at h1
  exact ⟨m, _, h1⟩
/-- A slice in a field. -/
theorem flat_of_field {α : Type} (f : α → List Value) (sz : Nat) (hsz0 : 0 < sz) {t e : TypeId} {c : Value} {n : Nat} {y : DataW H × List MemPlace} (ht : P.underlying t = some (.slice e)) (hC : P.cellsOf e = sz)
    (hel : ∀ n cs' y, DataW.trod enc P w base spare held n e cs' = some y → ∃ a, cs' = f a) (hf : ∀ a, (f a).length = sz)
    (h : DataW.trod enc P w base spare held n t [c] = some y) : ∃ xs : List α, Flat w c xs.length sz (xs.flatMap f) := by
  have hv : ∃ a l c', c = .slice a l c' := by
    rcases open_slice ht h with ⟨hcs, _⟩ | ⟨a, len, cap, m, n, D, Pl, hcs, _⟩
    · exact ⟨_, _, _, (List.cons.inj hcs).1⟩
    · exact ⟨_, _, _, (List.cons.inj hcs).1⟩
  obtain ⟨d, p⟩ := y
  refine flat_of_trod f sz hsz0 ht hC hel hf hv (d := d) (p := p) ⟨n, ?_⟩
  obtain ⟨a, l, c', rfl⟩ := hv
  exact h
end
end Go.Own
