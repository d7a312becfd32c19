/-
  No cell of these rows narrows 'for every input' (looked for: loops, veiled, ifaces, maps, wideKeys, modest, calm, conditions, laid).
  DERIVED. THE GIVEN ROWS OF THIS SEAT. 7 by the template 'for every input the law returns true; each argument reads behind the call as it read before'; 0 by the template 'total and deterministic' (their statements: YtambpjjfndnadaaTotals.lean).
  GIVEN WITH THE SEED: the statements are not yours to turn. If you find one false, say at which input.
  Laid BY PROGRAM, IN A SANDBOX (cutbox-rows.mjs): the forced cells as the released guide's own fill.sh prints them over the translation 2b89ef09ca52318f… (all of the seat's roots in one cut). By AI agents, Wed Nov 11 2026. No macro, syntax, notation, axiom, sorry.
-/
import Derived.Test.YtambpjjfndnadaaChecked
import GoSem.Claim
import GoSem.ClaimJoined
import GoSem.ClaimMapViews
import Derived.JoinedTies
import Derived.KernelRfl
namespace Go.Proofs.Ytambpjjfndnadaa
/- THE CELL 'sum', in the pinned program and in every row, IS THE sha256 OF THE DUMP (.gsa) THAT YtambpjjfndnadaaProg.lean LOADS. Nothing in Lean hashes anything: it is a label: what it is worth is what the hold of that sum in a sandbox is worth. -/
noncomputable def Try.pinned : Pinned := { name := "ytambpjjfndnadaa", sum := "2b89ef09ca52318f0370f99e8e8e046b74835e5d1126c7b22daaf66ceb9b55b0", checked := Try.checked }
namespace Rows
def none {H : Type} : Left H := { results := [], args := [] }

/-- 'laws.FnExactDrive': WHATEVER THE INPUT: true; the input reads as it did. -/
def fnExactDriveSpec : ChangeSpec := { name := "fnExactDrive", fn := fun _ => fun
  | [d1, d2] => { results := [.lit (.bool true)], args := [d1, d2] }
  | _ => none }
def fnExactDriveRow : OpenClaim := { program := "ytambpjjfndnadaa", sum := "2b89ef09ca52318f0370f99e8e8e046b74835e5d1126c7b22daaf66ceb9b55b0", func := "loop.example/g00087/laws.FnExactDrive", spec := "fnExactDrive", unfollowed := true, recurses := true, apart := false }
def FnExactDriveSaid : Prop := fnExactDriveRow.holds Try.pinned (OpenSpec.ofChange fnExactDriveSpec)

/-- ITS FALSE NEIGHBOUR: 'it returns false'. Refute it at one input. -/
def fnExactDriveWrong : ChangeSpec := { name := "fnExactDrive", fn := fun _ => fun
  | [d1, d2] => { results := [.lit (.bool false)], args := [d1, d2] }
  | _ => none }
def FnExactDriveWrongFalsely : Prop := fnExactDriveRow.holds Try.pinned (OpenSpec.ofChange fnExactDriveWrong)

/-- 'laws.FnExactStackOk': WHATEVER THE INPUT: true; the input reads as it did. -/
def fnExactStackOkSpec : ChangeSpec := { name := "fnExactStackOk", fn := fun _ => fun
  | [d1, d2] => { results := [.lit (.bool true)], args := [d1, d2] }
  | _ => none }
def fnExactStackOkRow : OpenClaim := { program := "ytambpjjfndnadaa", sum := "2b89ef09ca52318f0370f99e8e8e046b74835e5d1126c7b22daaf66ceb9b55b0", func := "loop.example/g00087/laws.FnExactStackOk", spec := "fnExactStackOk", unfollowed := true, recurses := true, apart := false }
def FnExactStackOkSaid : Prop := fnExactStackOkRow.holds Try.pinned (OpenSpec.ofChange fnExactStackOkSpec)

/-- ITS FALSE NEIGHBOUR: 'it returns false'. Refute it at one input. -/
def fnExactStackOkWrong : ChangeSpec := { name := "fnExactStackOk", fn := fun _ => fun
  | [d1, d2] => { results := [.lit (.bool false)], args := [d1, d2] }
  | _ => none }
def FnExactStackOkWrongFalsely : Prop := fnExactStackOkRow.holds Try.pinned (OpenSpec.ofChange fnExactStackOkWrong)

/-- 'laws.FnExactHelp': WHATEVER THE INPUT: true; the input reads as it did. -/
def fnExactHelpSpec : ChangeSpec := { name := "fnExactHelp", fn := fun _ => fun
  | [d1, d2] => { results := [.lit (.bool true)], args := [d1, d2] }
  | _ => none }
def fnExactHelpRow : OpenClaim := { program := "ytambpjjfndnadaa", sum := "2b89ef09ca52318f0370f99e8e8e046b74835e5d1126c7b22daaf66ceb9b55b0", func := "loop.example/g00087/laws.FnExactHelp", spec := "fnExactHelp", unfollowed := true, recurses := true, apart := false }
def FnExactHelpSaid : Prop := fnExactHelpRow.holds Try.pinned (OpenSpec.ofChange fnExactHelpSpec)

/-- ITS FALSE NEIGHBOUR: 'it returns false'. Refute it at one input. -/
def fnExactHelpWrong : ChangeSpec := { name := "fnExactHelp", fn := fun _ => fun
  | [d1, d2] => { results := [.lit (.bool false)], args := [d1, d2] }
  | _ => none }
def FnExactHelpWrongFalsely : Prop := fnExactHelpRow.holds Try.pinned (OpenSpec.ofChange fnExactHelpWrong)

/-- 'laws.FnExactFinish': WHATEVER THE INPUT: true; the input reads as it did. -/
def fnExactFinishSpec : ChangeSpec := { name := "fnExactFinish", fn := fun _ => fun
  | [d1, d2, d3] => { results := [.lit (.bool true)], args := [d1, d2, d3] }
  | _ => none }
def fnExactFinishRow : OpenClaim := { program := "ytambpjjfndnadaa", sum := "2b89ef09ca52318f0370f99e8e8e046b74835e5d1126c7b22daaf66ceb9b55b0", func := "loop.example/g00087/laws.FnExactFinish", spec := "fnExactFinish", unfollowed := true, recurses := true, apart := false }
def FnExactFinishSaid : Prop := fnExactFinishRow.holds Try.pinned (OpenSpec.ofChange fnExactFinishSpec)

/-- ITS FALSE NEIGHBOUR: 'it returns false'. Refute it at one input. -/
def fnExactFinishWrong : ChangeSpec := { name := "fnExactFinish", fn := fun _ => fun
  | [d1, d2, d3] => { results := [.lit (.bool false)], args := [d1, d2, d3] }
  | _ => none }
def FnExactFinishWrongFalsely : Prop := fnExactFinishRow.holds Try.pinned (OpenSpec.ofChange fnExactFinishWrong)

/-- 'laws.FnExactFinishAll': WHATEVER THE INPUT: true; the input reads as it did. -/
def fnExactFinishAllSpec : ChangeSpec := { name := "fnExactFinishAll", fn := fun _ => fun
  | [d] => { results := [.lit (.bool true)], args := [d] }
  | _ => none }
def fnExactFinishAllRow : OpenClaim := { program := "ytambpjjfndnadaa", sum := "2b89ef09ca52318f0370f99e8e8e046b74835e5d1126c7b22daaf66ceb9b55b0", func := "loop.example/g00087/laws.FnExactFinishAll", spec := "fnExactFinishAll", unfollowed := true, recurses := true, apart := false }
def FnExactFinishAllSaid : Prop := fnExactFinishAllRow.holds Try.pinned (OpenSpec.ofChange fnExactFinishAllSpec)

/-- ITS FALSE NEIGHBOUR: 'it returns false'. Refute it at one input. -/
def fnExactFinishAllWrong : ChangeSpec := { name := "fnExactFinishAll", fn := fun _ => fun
  | [d] => { results := [.lit (.bool false)], args := [d] }
  | _ => none }
def FnExactFinishAllWrongFalsely : Prop := fnExactFinishAllRow.holds Try.pinned (OpenSpec.ofChange fnExactFinishAllWrong)

/-- 'laws.FnExactTogether': WHATEVER THE INPUT: true; the input reads as it did. -/
def fnExactTogetherSpec : ChangeSpec := { name := "fnExactTogether", fn := fun _ => fun
  | [d1, d2, d3, d4] => { results := [.lit (.bool true)], args := [d1, d2, d3, d4] }
  | _ => none }
def fnExactTogetherRow : OpenClaim := { program := "ytambpjjfndnadaa", sum := "2b89ef09ca52318f0370f99e8e8e046b74835e5d1126c7b22daaf66ceb9b55b0", func := "loop.example/g00087/laws.FnExactTogether", spec := "fnExactTogether", unfollowed := true, recurses := true, apart := false }
def FnExactTogetherSaid : Prop := fnExactTogetherRow.holds Try.pinned (OpenSpec.ofChange fnExactTogetherSpec)

/-- ITS FALSE NEIGHBOUR: 'it returns false'. Refute it at one input. -/
def fnExactTogetherWrong : ChangeSpec := { name := "fnExactTogether", fn := fun _ => fun
  | [d1, d2, d3, d4] => { results := [.lit (.bool false)], args := [d1, d2, d3, d4] }
  | _ => none }
def FnExactTogetherWrongFalsely : Prop := fnExactTogetherRow.holds Try.pinned (OpenSpec.ofChange fnExactTogetherWrong)

/-- 'laws.FnExactDepth': WHATEVER THE INPUT: true; the input reads as it did. -/
def fnExactDepthSpec : ChangeSpec := { name := "fnExactDepth", fn := fun _ => fun
  | [d1, d2] => { results := [.lit (.bool true)], args := [d1, d2] }
  | _ => none }
def fnExactDepthRow : OpenClaim := { program := "ytambpjjfndnadaa", sum := "2b89ef09ca52318f0370f99e8e8e046b74835e5d1126c7b22daaf66ceb9b55b0", func := "loop.example/g00087/laws.FnExactDepth", spec := "fnExactDepth", unfollowed := true, recurses := true, apart := false }
def FnExactDepthSaid : Prop := fnExactDepthRow.holds Try.pinned (OpenSpec.ofChange fnExactDepthSpec)

/-- ITS FALSE NEIGHBOUR: 'it returns false'. Refute it at one input. -/
def fnExactDepthWrong : ChangeSpec := { name := "fnExactDepth", fn := fun _ => fun
  | [d1, d2] => { results := [.lit (.bool false)], args := [d1, d2] }
  | _ => none }
def FnExactDepthWrongFalsely : Prop := fnExactDepthRow.holds Try.pinned (OpenSpec.ofChange fnExactDepthWrong)

/- THE SECOND FORM. 'bulk': how many values and letters a reading holds, each counted each time it is reached (what is shared counts as often as it is met; a slice's spare places count too). A statement '..UptoSaid' is the law's where the arguments, and the package variables that the reading takes, are together of bulk at most 1048576: NARROWER than '..Said'. Prove '..Said' where nothing that the law and all that it calls make is longer than what came in: it says more and counts as full. Else prove '..UptoSaid'. A law counts once. -/
mutual
def uptoBulk {H : Type} : DataW H → Nat
  | .lit (.string bytes) => bytes.length + 1
  | .lit _ => 1
  | .nil => 1
  | .ptr d => uptoBulk d + 1
  | .slice elems spare => uptoBulkAll elems + uptoBulkAll spare + 1
  | .agg parts => uptoBulkAll parts + 1
  | .iface _ d => uptoBulk d + 1
  | .map entries => uptoBulkEntries entries + 1
  | .held _ => 1
def uptoBulkAll {H : Type} : List (DataW H) → Nat
  | [] => 0
  | d :: r => uptoBulk d + uptoBulkAll r
def uptoBulkEntries {H : Type} : List (Lit × DataW H) → Nat
  | [] => 0
  | x :: r => uptoBulkEntry x + uptoBulkEntries r
def uptoBulkEntry {H : Type} : Lit × DataW H → Nat
  | (.string bytes, d) => bytes.length + uptoBulk d + 1
  | (_, d) => uptoBulk d + 1
 end
def uptoSmall : (H : Type) → List (DataW H) → Bool := fun _ ds => decide (uptoBulkAll ds ≤ 1048576)
def OpenSpec.upto (s : _root_.Go.ChangeSpec) : _root_.Go.OpenSpec := { _root_.Go.OpenSpec.ofChange s with cond := some uptoSmall }

/-- 'laws.FnExactDrive', WHERE WHAT IT READS IS OF BULK AT MOST 1048576: true; the input reads as it did. -/
def fnExactDriveUptoRow : OpenClaim := { program := "ytambpjjfndnadaa", sum := "2b89ef09ca52318f0370f99e8e8e046b74835e5d1126c7b22daaf66ceb9b55b0", func := "loop.example/g00087/laws.FnExactDrive", spec := "fnExactDrive", unfollowed := true, recurses := true, apart := false, narrowed := true }
def FnExactDriveUptoSaid : Prop := fnExactDriveUptoRow.holds Try.pinned (OpenSpec.upto fnExactDriveSpec)

/-- 'laws.FnExactStackOk', WHERE WHAT IT READS IS OF BULK AT MOST 1048576: true; the input reads as it did. -/
def fnExactStackOkUptoRow : OpenClaim := { program := "ytambpjjfndnadaa", sum := "2b89ef09ca52318f0370f99e8e8e046b74835e5d1126c7b22daaf66ceb9b55b0", func := "loop.example/g00087/laws.FnExactStackOk", spec := "fnExactStackOk", unfollowed := true, recurses := true, apart := false, narrowed := true }
def FnExactStackOkUptoSaid : Prop := fnExactStackOkUptoRow.holds Try.pinned (OpenSpec.upto fnExactStackOkSpec)

/-- 'laws.FnExactHelp', WHERE WHAT IT READS IS OF BULK AT MOST 1048576: true; the input reads as it did. -/
def fnExactHelpUptoRow : OpenClaim := { program := "ytambpjjfndnadaa", sum := "2b89ef09ca52318f0370f99e8e8e046b74835e5d1126c7b22daaf66ceb9b55b0", func := "loop.example/g00087/laws.FnExactHelp", spec := "fnExactHelp", unfollowed := true, recurses := true, apart := false, narrowed := true }
def FnExactHelpUptoSaid : Prop := fnExactHelpUptoRow.holds Try.pinned (OpenSpec.upto fnExactHelpSpec)

/-- 'laws.FnExactFinish', WHERE WHAT IT READS IS OF BULK AT MOST 1048576: true; the input reads as it did. -/
def fnExactFinishUptoRow : OpenClaim := { program := "ytambpjjfndnadaa", sum := "2b89ef09ca52318f0370f99e8e8e046b74835e5d1126c7b22daaf66ceb9b55b0", func := "loop.example/g00087/laws.FnExactFinish", spec := "fnExactFinish", unfollowed := true, recurses := true, apart := false, narrowed := true }
def FnExactFinishUptoSaid : Prop := fnExactFinishUptoRow.holds Try.pinned (OpenSpec.upto fnExactFinishSpec)

/-- 'laws.FnExactFinishAll', WHERE WHAT IT READS IS OF BULK AT MOST 1048576: true; the input reads as it did. -/
def fnExactFinishAllUptoRow : OpenClaim := { program := "ytambpjjfndnadaa", sum := "2b89ef09ca52318f0370f99e8e8e046b74835e5d1126c7b22daaf66ceb9b55b0", func := "loop.example/g00087/laws.FnExactFinishAll", spec := "fnExactFinishAll", unfollowed := true, recurses := true, apart := false, narrowed := true }
def FnExactFinishAllUptoSaid : Prop := fnExactFinishAllUptoRow.holds Try.pinned (OpenSpec.upto fnExactFinishAllSpec)

/-- 'laws.FnExactTogether', WHERE WHAT IT READS IS OF BULK AT MOST 1048576: true; the input reads as it did. -/
def fnExactTogetherUptoRow : OpenClaim := { program := "ytambpjjfndnadaa", sum := "2b89ef09ca52318f0370f99e8e8e046b74835e5d1126c7b22daaf66ceb9b55b0", func := "loop.example/g00087/laws.FnExactTogether", spec := "fnExactTogether", unfollowed := true, recurses := true, apart := false, narrowed := true }
def FnExactTogetherUptoSaid : Prop := fnExactTogetherUptoRow.holds Try.pinned (OpenSpec.upto fnExactTogetherSpec)

/-- 'laws.FnExactDepth', WHERE WHAT IT READS IS OF BULK AT MOST 1048576: true; the input reads as it did. -/
def fnExactDepthUptoRow : OpenClaim := { program := "ytambpjjfndnadaa", sum := "2b89ef09ca52318f0370f99e8e8e046b74835e5d1126c7b22daaf66ceb9b55b0", func := "loop.example/g00087/laws.FnExactDepth", spec := "fnExactDepth", unfollowed := true, recurses := true, apart := false, narrowed := true }
def FnExactDepthUptoSaid : Prop := fnExactDepthUptoRow.holds Try.pinned (OpenSpec.upto fnExactDepthSpec)

end Rows
end Go.Proofs.Ytambpjjfndnadaa
