/- Chapter 7's model: NewStore. -/
import Derived.Test.YtambpjjfndnadaaS7d
namespace Go.Proofs.Ytambpjjfndnadaa
set_option maxRecDepth 100000
open Go.RowKit Go.Proofs Go.Own
open Go Go.BigFrame
set_option linter.unusedVariables false
set_option linter.unusedSimpArgs false

theorem BoxF.lower {X w : World} {b M : Nat} {cs : List Value} (h : BoxF X b cs) (hb : Below M X w) (hM : b < M) : BoxF w b cs :=
  ⟨⟨Nat.lt_of_lt_of_le h.1.1 hb.size, fun j hj => (hb.cell (p := ⟨b, j, none⟩) hM).trans (h.1.2 j hj)⟩, fun j hj => (hb.frozen (p := ⟨b, j, none⟩) hM).trans (h.2 j hj)⟩
theorem enc_mk (xs : List Int) (k : Nat) (h : k < xs.length) : ((xs.take (k+1)).map mkHd).flatMap Head.enc = ((xs.take k).map mkHd).flatMap Head.enc ++ Head.enc (mkHd xs[k]) := by
  rw [← List.take_append_getElem h, List.map_append, List.flatMap_append]; simp
end Go.Proofs.Ytambpjjfndnadaa
