/-
  No cell of these rows narrows 'for every input' (looked for: loops, veiled, ifaces, maps, wideKeys, modest, calm, conditions, laid).
  DERIVED. THE GIVEN ROWS OF THIS SEAT. 8 by the template 'for every input the law returns true; each argument reads behind the call as it read before'; 0 by the template 'total and deterministic' (their statements: YtcjeafhejkppeaaTotals.lean).
  GIVEN WITH THE SEED: the statements are not yours to turn. If you find one false, say at which input.
  Laid BY PROGRAM, IN A SANDBOX (cutbox-rows.mjs): the forced cells as the released guide's own fill.sh prints them over the translation b7616efd957c0316… (all of the seat's roots in one cut). By AI agents, Wed Nov 11 2026. No macro, syntax, notation, axiom, sorry.
-/
import Derived.Test.YtcjeafhejkppeaaChecked
import GoSem.Claim
import GoSem.ClaimJoined
import GoSem.ClaimMapViews
import Derived.JoinedTies
import Derived.KernelRfl
namespace Go.Proofs.Ytcjeafhejkppeaa
/- THE CELL 'sum', in the pinned program and in every row, IS THE sha256 OF THE DUMP (.gsa) THAT YtcjeafhejkppeaaProg.lean LOADS. Nothing in Lean hashes anything: it is a label: what it is worth is what the hold of that sum in a sandbox is worth. -/
noncomputable def Try.pinned : Pinned := { name := "ytcjeafhejkppeaa", sum := "b7616efd957c031675fe5a9c889b749560a0070288f8fc9edc5baecb24ddca0e", checked := Try.checked }
namespace Rows
def none {H : Type} : Left H := { results := [], args := [] }

/-- 'laws.FnExactTreeOk': WHATEVER THE INPUT: true; the input reads as it did. -/
def fnExactTreeOkSpec : ChangeSpec := { name := "fnExactTreeOk", fn := fun _ => fun
  | [d] => { results := [.lit (.bool true)], args := [d] }
  | _ => none }
def fnExactTreeOkRow : OpenClaim := { program := "ytcjeafhejkppeaa", sum := "b7616efd957c031675fe5a9c889b749560a0070288f8fc9edc5baecb24ddca0e", func := "loop.example/g00087/laws.FnExactTreeOk", spec := "fnExactTreeOk", recurses := true, apart := false }
def FnExactTreeOkSaid : Prop := fnExactTreeOkRow.holds Try.pinned (OpenSpec.ofChange fnExactTreeOkSpec)

/-- ITS FALSE NEIGHBOUR: 'it returns false'. Refute it at one input. -/
def fnExactTreeOkWrong : ChangeSpec := { name := "fnExactTreeOk", fn := fun _ => fun
  | [d] => { results := [.lit (.bool false)], args := [d] }
  | _ => none }
def FnExactTreeOkWrongFalsely : Prop := fnExactTreeOkRow.holds Try.pinned (OpenSpec.ofChange fnExactTreeOkWrong)

/-- 'laws.FnExactNewTree': WHATEVER THE INPUT: true; the input reads as it did. -/
def fnExactNewTreeSpec : ChangeSpec := { name := "fnExactNewTree", fn := fun _ => fun
  | [] => { results := [.lit (.bool true)], args := [] }
  | _ => none }
def fnExactNewTreeRow : OpenClaim := { program := "ytcjeafhejkppeaa", sum := "b7616efd957c031675fe5a9c889b749560a0070288f8fc9edc5baecb24ddca0e", func := "loop.example/g00087/laws.FnExactNewTree", spec := "fnExactNewTree", apart := false }
def FnExactNewTreeSaid : Prop := fnExactNewTreeRow.holds Try.pinned (OpenSpec.ofChange fnExactNewTreeSpec)

/-- ITS FALSE NEIGHBOUR: 'it returns false'. Refute it at one input. -/
def fnExactNewTreeWrong : ChangeSpec := { name := "fnExactNewTree", fn := fun _ => fun
  | [] => { results := [.lit (.bool false)], args := [] }
  | _ => none }
def FnExactNewTreeWrongFalsely : Prop := fnExactNewTreeRow.holds Try.pinned (OpenSpec.ofChange fnExactNewTreeWrong)

/-- 'laws.FnExactTreeFind': WHATEVER THE INPUT: true; the input reads as it did. -/
def fnExactTreeFindSpec : ChangeSpec := { name := "fnExactTreeFind", fn := fun _ => fun
  | [d1, d2] => { results := [.lit (.bool true)], args := [d1, d2] }
  | _ => none }
def fnExactTreeFindRow : OpenClaim := { program := "ytcjeafhejkppeaa", sum := "b7616efd957c031675fe5a9c889b749560a0070288f8fc9edc5baecb24ddca0e", func := "loop.example/g00087/laws.FnExactTreeFind", spec := "fnExactTreeFind", recurses := true, apart := false }
def FnExactTreeFindSaid : Prop := fnExactTreeFindRow.holds Try.pinned (OpenSpec.ofChange fnExactTreeFindSpec)

/-- ITS FALSE NEIGHBOUR: 'it returns false'. Refute it at one input. -/
def fnExactTreeFindWrong : ChangeSpec := { name := "fnExactTreeFind", fn := fun _ => fun
  | [d1, d2] => { results := [.lit (.bool false)], args := [d1, d2] }
  | _ => none }
def FnExactTreeFindWrongFalsely : Prop := fnExactTreeFindRow.holds Try.pinned (OpenSpec.ofChange fnExactTreeFindWrong)

/-- 'laws.FnExactTreeAdd': WHATEVER THE INPUT: true; the input reads as it did. -/
def fnExactTreeAddSpec : ChangeSpec := { name := "fnExactTreeAdd", fn := fun _ => fun
  | [d1, d2] => { results := [.lit (.bool true)], args := [d1, d2] }
  | _ => none }
def fnExactTreeAddRow : OpenClaim := { program := "ytcjeafhejkppeaa", sum := "b7616efd957c031675fe5a9c889b749560a0070288f8fc9edc5baecb24ddca0e", func := "loop.example/g00087/laws.FnExactTreeAdd", spec := "fnExactTreeAdd", recurses := true, apart := false }
def FnExactTreeAddSaid : Prop := fnExactTreeAddRow.holds Try.pinned (OpenSpec.ofChange fnExactTreeAddSpec)

/-- ITS FALSE NEIGHBOUR: 'it returns false'. Refute it at one input. -/
def fnExactTreeAddWrong : ChangeSpec := { name := "fnExactTreeAdd", fn := fun _ => fun
  | [d1, d2] => { results := [.lit (.bool false)], args := [d1, d2] }
  | _ => none }
def FnExactTreeAddWrongFalsely : Prop := fnExactTreeAddRow.holds Try.pinned (OpenSpec.ofChange fnExactTreeAddWrong)

/-- 'laws.FnExactTreeDrop': WHATEVER THE INPUT: true; the input reads as it did. -/
def fnExactTreeDropSpec : ChangeSpec := { name := "fnExactTreeDrop", fn := fun _ => fun
  | [d1, d2] => { results := [.lit (.bool true)], args := [d1, d2] }
  | _ => none }
def fnExactTreeDropRow : OpenClaim := { program := "ytcjeafhejkppeaa", sum := "b7616efd957c031675fe5a9c889b749560a0070288f8fc9edc5baecb24ddca0e", func := "loop.example/g00087/laws.FnExactTreeDrop", spec := "fnExactTreeDrop", recurses := true, apart := false }
def FnExactTreeDropSaid : Prop := fnExactTreeDropRow.holds Try.pinned (OpenSpec.ofChange fnExactTreeDropSpec)

/-- ITS FALSE NEIGHBOUR: 'it returns false'. Refute it at one input. -/
def fnExactTreeDropWrong : ChangeSpec := { name := "fnExactTreeDrop", fn := fun _ => fun
  | [d1, d2] => { results := [.lit (.bool false)], args := [d1, d2] }
  | _ => none }
def FnExactTreeDropWrongFalsely : Prop := fnExactTreeDropRow.holds Try.pinned (OpenSpec.ofChange fnExactTreeDropWrong)

/-- 'laws.FnExactTreeKeys': WHATEVER THE INPUT: true; the input reads as it did. -/
def fnExactTreeKeysSpec : ChangeSpec := { name := "fnExactTreeKeys", fn := fun _ => fun
  | [d] => { results := [.lit (.bool true)], args := [d] }
  | _ => none }
def fnExactTreeKeysRow : OpenClaim := { program := "ytcjeafhejkppeaa", sum := "b7616efd957c031675fe5a9c889b749560a0070288f8fc9edc5baecb24ddca0e", func := "loop.example/g00087/laws.FnExactTreeKeys", spec := "fnExactTreeKeys", recurses := true, apart := false }
def FnExactTreeKeysSaid : Prop := fnExactTreeKeysRow.holds Try.pinned (OpenSpec.ofChange fnExactTreeKeysSpec)

/-- ITS FALSE NEIGHBOUR: 'it returns false'. Refute it at one input. -/
def fnExactTreeKeysWrong : ChangeSpec := { name := "fnExactTreeKeys", fn := fun _ => fun
  | [d] => { results := [.lit (.bool false)], args := [d] }
  | _ => none }
def FnExactTreeKeysWrongFalsely : Prop := fnExactTreeKeysRow.holds Try.pinned (OpenSpec.ofChange fnExactTreeKeysWrong)

/-- 'laws.FnExactTreeHigh': WHATEVER THE INPUT: true; the input reads as it did. -/
def fnExactTreeHighSpec : ChangeSpec := { name := "fnExactTreeHigh", fn := fun _ => fun
  | [d] => { results := [.lit (.bool true)], args := [d] }
  | _ => none }
def fnExactTreeHighRow : OpenClaim := { program := "ytcjeafhejkppeaa", sum := "b7616efd957c031675fe5a9c889b749560a0070288f8fc9edc5baecb24ddca0e", func := "loop.example/g00087/laws.FnExactTreeHigh", spec := "fnExactTreeHigh", recurses := true, apart := false }
def FnExactTreeHighSaid : Prop := fnExactTreeHighRow.holds Try.pinned (OpenSpec.ofChange fnExactTreeHighSpec)

/-- ITS FALSE NEIGHBOUR: 'it returns false'. Refute it at one input. -/
def fnExactTreeHighWrong : ChangeSpec := { name := "fnExactTreeHigh", fn := fun _ => fun
  | [d] => { results := [.lit (.bool false)], args := [d] }
  | _ => none }
def FnExactTreeHighWrongFalsely : Prop := fnExactTreeHighRow.holds Try.pinned (OpenSpec.ofChange fnExactTreeHighWrong)

/-- 'laws.FnExactTreeBuild': WHATEVER THE INPUT: true; the input reads as it did. -/
def fnExactTreeBuildSpec : ChangeSpec := { name := "fnExactTreeBuild", fn := fun _ => fun
  | [d] => { results := [.lit (.bool true)], args := [d] }
  | _ => none }
def fnExactTreeBuildRow : OpenClaim := { program := "ytcjeafhejkppeaa", sum := "b7616efd957c031675fe5a9c889b749560a0070288f8fc9edc5baecb24ddca0e", func := "loop.example/g00087/laws.FnExactTreeBuild", spec := "fnExactTreeBuild", recurses := true, apart := false }
def FnExactTreeBuildSaid : Prop := fnExactTreeBuildRow.holds Try.pinned (OpenSpec.ofChange fnExactTreeBuildSpec)

/-- ITS FALSE NEIGHBOUR: 'it returns false'. Refute it at one input. -/
def fnExactTreeBuildWrong : ChangeSpec := { name := "fnExactTreeBuild", fn := fun _ => fun
  | [d] => { results := [.lit (.bool false)], args := [d] }
  | _ => none }
def FnExactTreeBuildWrongFalsely : Prop := fnExactTreeBuildRow.holds Try.pinned (OpenSpec.ofChange fnExactTreeBuildWrong)

/- THE SECOND FORM. 'bulk': how many values and letters a reading holds, each counted each time it is reached (what is shared counts as often as it is met; a slice's spare places count too). A statement '..UptoSaid' is the law's where the arguments, and the package variables that the reading takes, are together of bulk at most 1048576: NARROWER than '..Said'. Prove '..Said' where nothing that the law and all that it calls make is longer than what came in: it says more and counts as full. Else prove '..UptoSaid'. A law counts once. -/
mutual
def uptoBulk {H : Type} : DataW H → Nat
  | .lit (.string bytes) => bytes.length + 1
  | .lit _ => 1
  | .nil => 1
  | .ptr d => uptoBulk d + 1
  | .slice elems spare => uptoBulkAll elems + uptoBulkAll spare + 1
  | .agg parts => uptoBulkAll parts + 1
  | .iface _ d => uptoBulk d + 1
  | .map entries => uptoBulkEntries entries + 1
  | .held _ => 1
def uptoBulkAll {H : Type} : List (DataW H) → Nat
  | [] => 0
  | d :: r => uptoBulk d + uptoBulkAll r
def uptoBulkEntries {H : Type} : List (Lit × DataW H) → Nat
  | [] => 0
  | x :: r => uptoBulkEntry x + uptoBulkEntries r
def uptoBulkEntry {H : Type} : Lit × DataW H → Nat
  | (.string bytes, d) => bytes.length + uptoBulk d + 1
  | (_, d) => uptoBulk d + 1
 end
def uptoSmall : (H : Type) → List (DataW H) → Bool := fun _ ds => decide (uptoBulkAll ds ≤ 1048576)
def OpenSpec.upto (s : _root_.Go.ChangeSpec) : _root_.Go.OpenSpec := { _root_.Go.OpenSpec.ofChange s with cond := some uptoSmall }

/-- 'laws.FnExactTreeOk', WHERE WHAT IT READS IS OF BULK AT MOST 1048576: true; the input reads as it did. -/
def fnExactTreeOkUptoRow : OpenClaim := { program := "ytcjeafhejkppeaa", sum := "b7616efd957c031675fe5a9c889b749560a0070288f8fc9edc5baecb24ddca0e", func := "loop.example/g00087/laws.FnExactTreeOk", spec := "fnExactTreeOk", recurses := true, apart := false, narrowed := true }
def FnExactTreeOkUptoSaid : Prop := fnExactTreeOkUptoRow.holds Try.pinned (OpenSpec.upto fnExactTreeOkSpec)

/-- 'laws.FnExactNewTree', WHERE WHAT IT READS IS OF BULK AT MOST 1048576: true; the input reads as it did. -/
def fnExactNewTreeUptoRow : OpenClaim := { program := "ytcjeafhejkppeaa", sum := "b7616efd957c031675fe5a9c889b749560a0070288f8fc9edc5baecb24ddca0e", func := "loop.example/g00087/laws.FnExactNewTree", spec := "fnExactNewTree", apart := false, narrowed := true }
def FnExactNewTreeUptoSaid : Prop := fnExactNewTreeUptoRow.holds Try.pinned (OpenSpec.upto fnExactNewTreeSpec)

/-- 'laws.FnExactTreeFind', WHERE WHAT IT READS IS OF BULK AT MOST 1048576: true; the input reads as it did. -/
def fnExactTreeFindUptoRow : OpenClaim := { program := "ytcjeafhejkppeaa", sum := "b7616efd957c031675fe5a9c889b749560a0070288f8fc9edc5baecb24ddca0e", func := "loop.example/g00087/laws.FnExactTreeFind", spec := "fnExactTreeFind", recurses := true, apart := false, narrowed := true }
def FnExactTreeFindUptoSaid : Prop := fnExactTreeFindUptoRow.holds Try.pinned (OpenSpec.upto fnExactTreeFindSpec)

/-- 'laws.FnExactTreeAdd', WHERE WHAT IT READS IS OF BULK AT MOST 1048576: true; the input reads as it did. -/
def fnExactTreeAddUptoRow : OpenClaim := { program := "ytcjeafhejkppeaa", sum := "b7616efd957c031675fe5a9c889b749560a0070288f8fc9edc5baecb24ddca0e", func := "loop.example/g00087/laws.FnExactTreeAdd", spec := "fnExactTreeAdd", recurses := true, apart := false, narrowed := true }
def FnExactTreeAddUptoSaid : Prop := fnExactTreeAddUptoRow.holds Try.pinned (OpenSpec.upto fnExactTreeAddSpec)

/-- 'laws.FnExactTreeDrop', WHERE WHAT IT READS IS OF BULK AT MOST 1048576: true; the input reads as it did. -/
def fnExactTreeDropUptoRow : OpenClaim := { program := "ytcjeafhejkppeaa", sum := "b7616efd957c031675fe5a9c889b749560a0070288f8fc9edc5baecb24ddca0e", func := "loop.example/g00087/laws.FnExactTreeDrop", spec := "fnExactTreeDrop", recurses := true, apart := false, narrowed := true }
def FnExactTreeDropUptoSaid : Prop := fnExactTreeDropUptoRow.holds Try.pinned (OpenSpec.upto fnExactTreeDropSpec)

/-- 'laws.FnExactTreeKeys', WHERE WHAT IT READS IS OF BULK AT MOST 1048576: true; the input reads as it did. -/
def fnExactTreeKeysUptoRow : OpenClaim := { program := "ytcjeafhejkppeaa", sum := "b7616efd957c031675fe5a9c889b749560a0070288f8fc9edc5baecb24ddca0e", func := "loop.example/g00087/laws.FnExactTreeKeys", spec := "fnExactTreeKeys", recurses := true, apart := false, narrowed := true }
def FnExactTreeKeysUptoSaid : Prop := fnExactTreeKeysUptoRow.holds Try.pinned (OpenSpec.upto fnExactTreeKeysSpec)

/-- 'laws.FnExactTreeHigh', WHERE WHAT IT READS IS OF BULK AT MOST 1048576: true; the input reads as it did. -/
def fnExactTreeHighUptoRow : OpenClaim := { program := "ytcjeafhejkppeaa", sum := "b7616efd957c031675fe5a9c889b749560a0070288f8fc9edc5baecb24ddca0e", func := "loop.example/g00087/laws.FnExactTreeHigh", spec := "fnExactTreeHigh", recurses := true, apart := false, narrowed := true }
def FnExactTreeHighUptoSaid : Prop := fnExactTreeHighUptoRow.holds Try.pinned (OpenSpec.upto fnExactTreeHighSpec)

/-- 'laws.FnExactTreeBuild', WHERE WHAT IT READS IS OF BULK AT MOST 1048576: true; the input reads as it did. -/
def fnExactTreeBuildUptoRow : OpenClaim := { program := "ytcjeafhejkppeaa", sum := "b7616efd957c031675fe5a9c889b749560a0070288f8fc9edc5baecb24ddca0e", func := "loop.example/g00087/laws.FnExactTreeBuild", spec := "fnExactTreeBuild", recurses := true, apart := false, narrowed := true }
def FnExactTreeBuildUptoSaid : Prop := fnExactTreeBuildUptoRow.holds Try.pinned (OpenSpec.upto fnExactTreeBuildSpec)

end Rows
end Go.Proofs.Ytcjeafhejkppeaa
