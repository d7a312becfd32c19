/-
  DERIVED. GIVEN WITH THE SEED: THE CARDS: each row of YtikiaffgjpddeaaDoorRows.lean that lists a variable, with what it lists TIED to the program's text (the seventh form; the later family's looks); each row that meets fmt, with fmt's text TOLD by the authors' own Lean function (tested against real Go, not proved from fmt's source: count such statements apart). THE CARD IS WHAT COUNTS. Prove the row's statement (the work); the ties are given (YtikiaffgjpddeaaDoorTie.lean); close each card by the builder's one call (the guide's Derived/Test/ToyasCard.lean, 'card_holds'). Laid BY PROGRAM, IN A SANDBOX (cutbox-door.mjs). By AI agents, Wed Nov 11 2026. No macro, syntax, notation, axiom, sorry.
-/
import Derived.Test.YtikiaffgjpddeaaDoorRows
import GoSem.ClaimSeven
namespace Go.Proofs.YtikiaffgjpddeaaDoor
namespace Rows

/-- THE TIED CARD OF 'laws.FnExactWriteProg'. -/
def fnExactWriteProgCard : Claim7 := { stood := { row := fnExactWriteProgRow, standIns := [], harness := (true, "22aee3999701f385a13db5726317fc5205646e388211f985eb490f6b9ef56ee8"), looks := true }, kinds := [], alts := [], laidByText := true, laidKinds := [.data, .data, .data], laidTests := true, laidLooks := .later }
def FnExactWriteProgCardSaid : Prop := Claim7.holds Tryd.pinned (.plain (OpenSpec.ofChange fnExactWriteProgSpec)) fnExactWriteProgCard

/-- THE TIED CARD OF 'laws.FnExactReadProg'. -/
def fnExactReadProgCard : Claim7 := { stood := { row := fnExactReadProgRow, standIns := [], harness := (true, "22aee3999701f385a13db5726317fc5205646e388211f985eb490f6b9ef56ee8"), looks := true }, kinds := [], alts := [], laidByText := true, laidKinds := [.data, .data, .data, .sentinel, .sentinel], laidTests := true, laidLooks := .later }
def FnExactReadProgCardSaid : Prop := Claim7.holds Tryd.pinned (.plain (OpenSpec.ofChange fnExactReadProgSpec)) fnExactReadProgCard

/-- THE SECOND FORM's CARD OF 'laws.FnExactWriteProg'. -/
def fnExactWriteProgUptoCard : Claim7 := { stood := { row := fnExactWriteProgUptoRow, standIns := [], harness := (true, "22aee3999701f385a13db5726317fc5205646e388211f985eb490f6b9ef56ee8"), looks := true }, kinds := [], alts := [], laidByText := true, laidKinds := [.data, .data, .data], laidTests := true, laidLooks := .later }
def FnExactWriteProgUptoCardSaid : Prop := Claim7.holds Tryd.pinned (.plain (OpenSpec.upto fnExactWriteProgSpec)) fnExactWriteProgUptoCard

/-- THE SECOND FORM's CARD OF 'laws.FnExactReadProg'. -/
def fnExactReadProgUptoCard : Claim7 := { stood := { row := fnExactReadProgUptoRow, standIns := [], harness := (true, "22aee3999701f385a13db5726317fc5205646e388211f985eb490f6b9ef56ee8"), looks := true }, kinds := [], alts := [], laidByText := true, laidKinds := [.data, .data, .data, .sentinel, .sentinel], laidTests := true, laidLooks := .later }
def FnExactReadProgUptoCardSaid : Prop := Claim7.holds Tryd.pinned (.plain (OpenSpec.upto fnExactReadProgSpec)) fnExactReadProgUptoCard
end Rows
end Go.Proofs.YtikiaffgjpddeaaDoor
