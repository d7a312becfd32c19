/- From the claim form's readings to what the walks are told. -/
import Derived.Test.YtdgmbcmgjadoiaaBase
import Derived.Deep.Slices
import Derived.Deep.Fields
import Derived.ChangeSame
import Derived.ProofKit
import Derived.OpenShut
import Derived.ShutString
import Derived.ChangeOld
namespace Go.Own
open Go.RowKit Go.ChangeShapes Go.WideShapes Go.Deep
section
variable {H : Type} {enc : TypeId × Value → H} {P : Program} {w : World} {base : Nat} {spare : Nat → Bool} {held : Bool}
theorem list_choose {α : Type} (Q : Nat → α → Prop) : ∀ n, (∀ i, i < n → ∃ a, Q i a) → ∃ xs : List α, xs.length = n ∧ ∀ i, (h : i < xs.length) → Q i xs[i]
  | 0, _ => ⟨[], rfl, fun i h => by simp at h⟩
  | n+1, hn => by
    obtain ⟨xs, hl, hq⟩ := list_choose Q n fun i hi => hn i (by omega)
    obtain ⟨a, ha⟩ := hn n (by omega)
    refine ⟨xs ++ [a], by simp [hl], fun i hi => ?_⟩
    by_cases h : i < xs.length
    · rw [List.getElem_append_left h]; exact hq i h
    · have : i = n := by simp at hi; omega
      subst this
      rw [List.getElem_append_right (by omega)]
      simpa [hl] using ha

/-- A slice that came in reads as a list, where each of its elements reads as f of something. -/
theorem flat_of_trod {α : Type} (f : α → List Value) (sz : Nat) (hsz0 : 0 < sz) {t e : TypeId} {v : Value} {d : DataW H} {p : List MemPlace} (ht : P.underlying t = some (.slice e)) (hC : P.cellsOf e = sz)
    (hel : ∀ n cs' y, DataW.trod enc P w base spare held n e cs' = some y → ∃ a, cs' = f a) (hf : ∀ a, (f a).length = sz) (hv : ∃ a l c, v = .slice a l c)
    (h : DataW.Trod enc P w base spare held t v d p) : ∃ xs : List α, Flat w v xs.length sz (xs.flatMap f) := by
  obtain ⟨a0, l0, c0, rfl⟩ := hv
  obtain ⟨fuel, h⟩ := h
  rcases open_slice ht h with ⟨hcs, _⟩ | ⟨a, len, cap, m, n, D, Pl, hcs, hb, hl, hm, hmm, hx, hi⟩
  · simp [Value.cells] at hcs
    obtain ⟨rfl, rfl, rfl⟩ := hcs
    exact ⟨[], by simp, none, 0, rfl, Nat.le_refl _, by omega, fun _ => rfl, .inl rfl⟩
  · simp [Value.cells] at hcs
    obtain ⟨rfl, rfl, rfl⟩ := hcs
    have hlm : l0 ≤ m := by rw [hmm]; split <;> omega
    obtain ⟨xs, hxl, hxs⟩ := list_choose (fun i y => w.cells? base (a.add (i * sz)) sz = some (f y)) l0 fun i hi' => by
      obtain ⟨cs', hc, ht'⟩ := hi i (by omega)
      obtain ⟨y, rfl⟩ := hel _ _ _ ht'
      rw [hC] at hc
      exact ⟨y, hc⟩
    have hcell : ∀ i (hi : i < xs.length) r, r < sz → w.cell? (a.add (i * sz + r)) = (f xs[i])[r]? := fun i hi' r hr => by
      obtain ⟨_, _, hat⟩ := World.cells?_some (hxs i hi')
      have := hat r hr
      rw [← this, Go.Deep.add_add]
    have hfl := flatMap_len f sz hf xs
    subst hxl
    refine ⟨xs, hfl, some a, c0, rfl, hl, by unfold maxLen at hm; omega, (by intro e; cases e), ?_⟩
    by_cases h0 : xs.length = 0
    · exact .inl h0
    · obtain ⟨b, off, spot⟩ := a
      have hc0 := hcell 0 (by omega) 0 hsz0
      have hsome : ∃ u, w.cell? ((⟨b, off, spot⟩ : Addr).add (0 * sz + 0)) = some u := by rw [hc0]; exact ⟨_, List.getElem?_eq_getElem (by rw [hf]; exact hsz0)⟩
      obtain ⟨u, hu⟩ := hsome
      have hspot : spot = none := by simpa [Addr.add] using World.cell?_spot hu
      subst hspot
      refine .inr ⟨b, off, rfl, World.block_lt_of_cell? w _ (by simpa [Addr.add] using hu), fun j hj => ?_⟩
      have hdm : j / sz * sz + j % sz = j := by rw [Nat.mul_comm]; exact Nat.div_add_mod j sz
      have hjs : j / sz < xs.length := by rw [Nat.div_lt_iff_lt_mul hsz0]; omega
      have h1 := hcell (j / sz) hjs (j % sz) (Nat.mod_lt _ hsz0)
      rw [hdm, Addr.add_lit] at h1
      rw [h1, ← flatMap_get f sz hf xs (j / sz) hjs (j % sz) (Nat.mod_lt _ hsz0), hdm]
      exact List.getElem?_eq_getElem hj
theorem trodI {t : TypeId} (ht : P.underlying t = some (.int .i64)) (n : Nat) (cs : List Value) (y : DataW H × List MemPlace) (h : DataW.trod enc P w base spare held n t cs = some y) : ∃ a, cs = encI a := by
  obtain ⟨x, rfl, _, _⟩ := DataW.trod_int ht h
  exact ⟨x, rfl⟩
theorem trodB {t : TypeId} (ht : P.underlying t = some .bool) (n : Nat) (cs : List Value) (y : DataW H × List MemPlace) (h : DataW.trod enc P w base spare held n t cs = some y) : ∃ a, cs = encB a := by
  obtain ⟨x, rfl, _⟩ := DataW.trod_bool ht h
  exact ⟨x, rfl⟩
/-- The cell of a struct's field. -/
theorem field_cell {t : TypeId} {fs : Array Field} {fuel : Nat} {cs : List Value} {x : DataW H × List MemPlace} (hs : P.underlying t = some (.struct fs)) (hone : oneCellFields P fs = true) (h : DataW.trod enc P w base spare held fuel t cs = some x)
    (hlen : P.cellsOf t = fs.size) (i : Nat) (fd : Field) (hi : fs[i]? = some fd) : ∃ (hc : i < cs.length) (n : Nat) (y : DataW H × List MemPlace), DataW.trod enc P w base spare held n fd.type [cs[i]] = some y := by
  obtain ⟨ys, n, _, _, hl, hyl, hg⟩ := DataW.trod_struct hs h
  obtain ⟨ho, hk⟩ := hone_of hone i fd hi
  have hif : i < fs.size := (Array.getElem?_eq_some_iff.1 hi).1
  have hc : i < cs.length := by omega
  have h1 := hg i fd hi
  rw [ho, hk] at h1
  have hone' : (cs.drop i).take 1 = [cs[i]] := by
    rw [List.drop_eq_getElem_cons hc]; rfl
  rw [hone', List.getElem?_eq_getElem (by omega)] at h1
  exact ⟨hc, n, _, h1⟩
end
end Go.Own
