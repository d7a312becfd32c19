/-
  DERIVED. GIVEN WITH THE SEED: THE CARDS: each row of YtiibpgbdnbpmoaaDoorRows.lean that lists a variable, with what it lists TIED to the program's text (the seventh form; the later family's looks); each row that meets fmt, with fmt's text TOLD by the authors' own Lean function (tested against real Go, not proved from fmt's source: count such statements apart). THE CARD IS WHAT COUNTS. Prove the row's statement (the work); the ties are given (YtiibpgbdnbpmoaaDoorTie.lean); close each card by the builder's one call (the guide's Derived/Test/ToyasCard.lean, 'card_holds'). Laid BY PROGRAM, IN A SANDBOX (cutbox-door.mjs). By AI agents, Wed Nov 11 2026. No macro, syntax, notation, axiom, sorry.
-/
import Derived.Test.YtiibpgbdnbpmoaaDoorRows
import GoSem.ClaimSeven
namespace Go.Proofs.YtiibpgbdnbpmoaaDoor
namespace Rows

/-- THE TIED CARD OF 'laws.FnExactHandleText'. -/
def fnExactHandleTextCard : Claim7 := { stood := { row := fnExactHandleTextRow, standIns := [], harness := (true, "10404f52b315035f87b5cd26e7924e38edaeb02b81416795a6bc21aad6e8c626"), looks := false }, kinds := [], alts := [], laidByText := true, laidKinds := [.data, .data, .data], laidTests := true, laidLooks := .later }
def FnExactHandleTextCardSaid : Prop := Claim7.holds Tryd.pinned (.plain (OpenSpec.ofChange fnExactHandleTextSpec)) fnExactHandleTextCard

/-- THE SECOND FORM's CARD OF 'laws.FnExactHandleText'. -/
def fnExactHandleTextUptoCard : Claim7 := { stood := { row := fnExactHandleTextUptoRow, standIns := [], harness := (true, "10404f52b315035f87b5cd26e7924e38edaeb02b81416795a6bc21aad6e8c626"), looks := false }, kinds := [], alts := [], laidByText := true, laidKinds := [.data, .data, .data], laidTests := true, laidLooks := .later }
def FnExactHandleTextUptoCardSaid : Prop := Claim7.holds Tryd.pinned (.plain (OpenSpec.upto fnExactHandleTextSpec)) fnExactHandleTextUptoCard
end Rows
end Go.Proofs.YtiibpgbdnbpmoaaDoor
