/-
  DERIVED. GIVEN WITH THE SEED: THE CARDS: each row of YtmfepmbkgomlcaaDoorRows.lean that lists a variable, with what it lists TIED to the program's text (the seventh form; the later family's looks); each row that meets fmt, with fmt's text TOLD by the authors' own Lean function (tested against real Go, not proved from fmt's source: count such statements apart). THE CARD IS WHAT COUNTS. Prove the row's statement (the work); the ties are given (YtmfepmbkgomlcaaDoorTie.lean); close each card by the builder's one call (the guide's Derived/Test/ToyasCard.lean, 'card_holds'). Laid BY PROGRAM, IN A SANDBOX (cutbox-door.mjs). By AI agents, Wed Nov 11 2026. No macro, syntax, notation, axiom, sorry.
-/
import Derived.Test.YtmfepmbkgomlcaaDoorRows
import GoSem.ClaimSeven
namespace Go.Proofs.YtmfepmbkgomlcaaDoor
namespace Rows

/-- THE TIED CARD OF 'laws.FnExactDescText'. -/
def fnExactDescTextCard : Claim7 := { stood := { row := fnExactDescTextRow, standIns := [], harness := (true, "c077b6bdd52c98984c7de01bcaeb25a8837604b4c073ec32748ad70eb66f9887"), looks := false }, kinds := [], alts := [], laidByText := true, laidKinds := [.data, .data, .data], laidTests := true, laidLooks := .later }
def FnExactDescTextCardSaid : Prop := Claim7.holds Tryd.pinned (.plain (OpenSpec.ofChange fnExactDescTextSpec)) fnExactDescTextCard

/-- THE SECOND FORM's CARD OF 'laws.FnExactDescText'. -/
def fnExactDescTextUptoCard : Claim7 := { stood := { row := fnExactDescTextUptoRow, standIns := [], harness := (true, "c077b6bdd52c98984c7de01bcaeb25a8837604b4c073ec32748ad70eb66f9887"), looks := false }, kinds := [], alts := [], laidByText := true, laidKinds := [.data, .data, .data], laidTests := true, laidLooks := .later }
def FnExactDescTextUptoCardSaid : Prop := Claim7.holds Tryd.pinned (.plain (OpenSpec.upto fnExactDescTextSpec)) fnExactDescTextUptoCard
end Rows
end Go.Proofs.YtmfepmbkgomlcaaDoor
