/-
  No cell of these rows narrows 'for every input' (looked for: loops, veiled, ifaces, maps, wideKeys, modest, calm, conditions, laid).
  DERIVED. THE GIVEN ROWS OF THIS SEAT. 3 by the template 'for every input the law returns true; each argument reads behind the call as it read before'; 0 by the template 'total and deterministic' (their statements: YtikiaffgjpddeaaTotals.lean).
  GIVEN WITH THE SEED: the statements are not yours to turn. If you find one false, say at which input.
  Laid BY PROGRAM, IN A SANDBOX (cutbox-rows.mjs): the forced cells as the released guide's own fill.sh prints them over the translation b5b186acfcda7adc… (all of the seat's roots in one cut). By AI agents, Wed Nov 11 2026. No macro, syntax, notation, axiom, sorry.
-/
import Derived.Test.YtikiaffgjpddeaaChecked
import GoSem.Claim
import GoSem.ClaimJoined
import GoSem.ClaimMapViews
import Derived.JoinedTies
import Derived.KernelRfl
namespace Go.Proofs.Ytikiaffgjpddeaa
/- THE CELL 'sum', in the pinned program and in every row, IS THE sha256 OF THE DUMP (.gsa) THAT YtikiaffgjpddeaaProg.lean LOADS. Nothing in Lean hashes anything: it is a label: what it is worth is what the hold of that sum in a sandbox is worth. -/
noncomputable def Try.pinned : Pinned := { name := "ytikiaffgjpddeaa", sum := "b5b186acfcda7adcaa00acb2ed13404cff7d8c245a3cbbfd6a31976c6322a66e", checked := Try.checked }
namespace Rows
def none {H : Type} : Left H := { results := [], args := [] }

/-- 'laws.FnExactThreadOk': WHATEVER THE INPUT: true; the input reads as it did. -/
def fnExactThreadOkSpec : ChangeSpec := { name := "fnExactThreadOk", fn := fun _ => fun
  | [d1, d2] => { results := [.lit (.bool true)], args := [d1, d2] }
  | _ => none }
def fnExactThreadOkRow : OpenClaim := { program := "ytikiaffgjpddeaa", sum := "b5b186acfcda7adcaa00acb2ed13404cff7d8c245a3cbbfd6a31976c6322a66e", func := "loop.example/g00087/laws.FnExactThreadOk", spec := "fnExactThreadOk", unfollowed := true, recurses := true, apart := false }
def FnExactThreadOkSaid : Prop := fnExactThreadOkRow.holds Try.pinned (OpenSpec.ofChange fnExactThreadOkSpec)

/-- ITS FALSE NEIGHBOUR: 'it returns false'. Refute it at one input. -/
def fnExactThreadOkWrong : ChangeSpec := { name := "fnExactThreadOk", fn := fun _ => fun
  | [d1, d2] => { results := [.lit (.bool false)], args := [d1, d2] }
  | _ => none }
def FnExactThreadOkWrongFalsely : Prop := fnExactThreadOkRow.holds Try.pinned (OpenSpec.ofChange fnExactThreadOkWrong)

/-- 'laws.FnExactNewThread': WHATEVER THE INPUT: true; the input reads as it did. -/
def fnExactNewThreadSpec : ChangeSpec := { name := "fnExactNewThread", fn := fun _ => fun
  | [d1, d2] => { results := [.lit (.bool true)], args := [d1, d2] }
  | _ => none }
def fnExactNewThreadRow : OpenClaim := { program := "ytikiaffgjpddeaa", sum := "b5b186acfcda7adcaa00acb2ed13404cff7d8c245a3cbbfd6a31976c6322a66e", func := "loop.example/g00087/laws.FnExactNewThread", spec := "fnExactNewThread", unfollowed := true, recurses := true, apart := false }
def FnExactNewThreadSaid : Prop := fnExactNewThreadRow.holds Try.pinned (OpenSpec.ofChange fnExactNewThreadSpec)

/-- ITS FALSE NEIGHBOUR: 'it returns false'. Refute it at one input. -/
def fnExactNewThreadWrong : ChangeSpec := { name := "fnExactNewThread", fn := fun _ => fun
  | [d1, d2] => { results := [.lit (.bool false)], args := [d1, d2] }
  | _ => none }
def FnExactNewThreadWrongFalsely : Prop := fnExactNewThreadRow.holds Try.pinned (OpenSpec.ofChange fnExactNewThreadWrong)

/-- 'laws.FnExactIdle': WHATEVER THE INPUT: true; the input reads as it did. -/
def fnExactIdleSpec : ChangeSpec := { name := "fnExactIdle", fn := fun _ => fun
  | [d] => { results := [.lit (.bool true)], args := [d] }
  | _ => none }
def fnExactIdleRow : OpenClaim := { program := "ytikiaffgjpddeaa", sum := "b5b186acfcda7adcaa00acb2ed13404cff7d8c245a3cbbfd6a31976c6322a66e", func := "loop.example/g00087/laws.FnExactIdle", spec := "fnExactIdle", apart := false }
def FnExactIdleSaid : Prop := fnExactIdleRow.holds Try.pinned (OpenSpec.ofChange fnExactIdleSpec)

/-- ITS FALSE NEIGHBOUR: 'it returns false'. Refute it at one input. -/
def fnExactIdleWrong : ChangeSpec := { name := "fnExactIdle", fn := fun _ => fun
  | [d] => { results := [.lit (.bool false)], args := [d] }
  | _ => none }
def FnExactIdleWrongFalsely : Prop := fnExactIdleRow.holds Try.pinned (OpenSpec.ofChange fnExactIdleWrong)

/- THE SECOND FORM. 'bulk': how many values and letters a reading holds, each counted each time it is reached (what is shared counts as often as it is met; a slice's spare places count too). A statement '..UptoSaid' is the law's where the arguments, and the package variables that the reading takes, are together of bulk at most 1048576: NARROWER than '..Said'. Prove '..Said' where nothing that the law and all that it calls make is longer than what came in: it says more and counts as full. Else prove '..UptoSaid'. A law counts once. -/
mutual
def uptoBulk {H : Type} : DataW H → Nat
  | .lit (.string bytes) => bytes.length + 1
  | .lit _ => 1
  | .nil => 1
  | .ptr d => uptoBulk d + 1
  | .slice elems spare => uptoBulkAll elems + uptoBulkAll spare + 1
  | .agg parts => uptoBulkAll parts + 1
  | .iface _ d => uptoBulk d + 1
  | .map entries => uptoBulkEntries entries + 1
  | .held _ => 1
def uptoBulkAll {H : Type} : List (DataW H) → Nat
  | [] => 0
  | d :: r => uptoBulk d + uptoBulkAll r
def uptoBulkEntries {H : Type} : List (Lit × DataW H) → Nat
  | [] => 0
  | x :: r => uptoBulkEntry x + uptoBulkEntries r
def uptoBulkEntry {H : Type} : Lit × DataW H → Nat
  | (.string bytes, d) => bytes.length + uptoBulk d + 1
  | (_, d) => uptoBulk d + 1
 end
def uptoSmall : (H : Type) → List (DataW H) → Bool := fun _ ds => decide (uptoBulkAll ds ≤ 1048576)
def OpenSpec.upto (s : _root_.Go.ChangeSpec) : _root_.Go.OpenSpec := { _root_.Go.OpenSpec.ofChange s with cond := some uptoSmall }

/-- 'laws.FnExactThreadOk', WHERE WHAT IT READS IS OF BULK AT MOST 1048576: true; the input reads as it did. -/
def fnExactThreadOkUptoRow : OpenClaim := { program := "ytikiaffgjpddeaa", sum := "b5b186acfcda7adcaa00acb2ed13404cff7d8c245a3cbbfd6a31976c6322a66e", func := "loop.example/g00087/laws.FnExactThreadOk", spec := "fnExactThreadOk", unfollowed := true, recurses := true, apart := false, narrowed := true }
def FnExactThreadOkUptoSaid : Prop := fnExactThreadOkUptoRow.holds Try.pinned (OpenSpec.upto fnExactThreadOkSpec)

/-- 'laws.FnExactNewThread', WHERE WHAT IT READS IS OF BULK AT MOST 1048576: true; the input reads as it did. -/
def fnExactNewThreadUptoRow : OpenClaim := { program := "ytikiaffgjpddeaa", sum := "b5b186acfcda7adcaa00acb2ed13404cff7d8c245a3cbbfd6a31976c6322a66e", func := "loop.example/g00087/laws.FnExactNewThread", spec := "fnExactNewThread", unfollowed := true, recurses := true, apart := false, narrowed := true }
def FnExactNewThreadUptoSaid : Prop := fnExactNewThreadUptoRow.holds Try.pinned (OpenSpec.upto fnExactNewThreadSpec)

/-- 'laws.FnExactIdle', WHERE WHAT IT READS IS OF BULK AT MOST 1048576: true; the input reads as it did. -/
def fnExactIdleUptoRow : OpenClaim := { program := "ytikiaffgjpddeaa", sum := "b5b186acfcda7adcaa00acb2ed13404cff7d8c245a3cbbfd6a31976c6322a66e", func := "loop.example/g00087/laws.FnExactIdle", spec := "fnExactIdle", apart := false, narrowed := true }
def FnExactIdleUptoSaid : Prop := fnExactIdleUptoRow.holds Try.pinned (OpenSpec.upto fnExactIdleSpec)

end Rows
end Go.Proofs.Ytikiaffgjpddeaa
