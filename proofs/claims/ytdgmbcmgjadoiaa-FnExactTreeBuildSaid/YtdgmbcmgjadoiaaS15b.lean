/- Chapter 15's model: a tree built of its keys (l15Build). -/
import Derived.Test.YtdgmbcmgjadoiaaS15
import Derived.Test.YtdgmbcmgjadoiaaAr
import Derived.Test.YtdgmbcmgjadoiaaF15e
import Derived.Test.YtdgmbcmgjadoiaaCuts
namespace Go.Proofs.Ytdgmbcmgjadoiaa
set_option maxRecDepth 100000
open Go.RowKit Go.Proofs Go.Own
open Go Go.BigFrame
set_option linter.unusedVariables false
set_option linter.unusedSimpArgs false
theorem ints_cell {w : World} {a : Option Addr} {cap : Nat} {ks : List Int} (h : Ints w (.slice a ks.length cap) ks) (hk : 0 < ks.length) : ∃ b off, a = some ⟨b, off, none⟩ ∧ b < w.heap.size ∧ ks.length ≤ cap ∧ cap ≤ 9223372036854775807 ∧ ∀ k (hk : k < ks.length), w.cell? ⟨b, off + k, none⟩ = some (.int .i64 (ks.getD k 0)) := by
  obtain ⟨a', c, e, h1, h2, hc⟩ := Ints.open h
  obtain ⟨rfl, -, rfl⟩ : a = a' ∧ True ∧ cap = c := by simpa using e
  obtain ⟨b, off, rfl, hs, _⟩ := hc 0 hk
  refine ⟨b, off, rfl, hs, h1, h2, fun k hk => ?_⟩
  obtain ⟨b', off', e2, _, hc2⟩ := hc k hk
  simp only [Option.some.injEq, Addr.mk.injEq, and_true] at e2
  obtain ⟨rfl, rfl⟩ := e2
  rw [hc2, List.getD_eq_getElem?_getD, List.getElem?_eq_getElem hk]; rfl
end Go.Proofs.Ytdgmbcmgjadoiaa
