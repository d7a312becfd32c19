/-
  No cell of these rows narrows 'for every input' (looked for: loops, veiled, ifaces, maps, wideKeys, modest, calm, conditions, laid).
  DERIVED. THE GIVEN ROWS OF THIS SEAT. 7 by the template 'for every input the law returns true; each argument reads behind the call as it read before'; 0 by the template 'total and deterministic' (their statements: YtadbgfaboafkeaaTotals.lean).
  GIVEN WITH THE SEED: the statements are not yours to turn. If you find one false, say at which input.
  Laid BY PROGRAM, IN A SANDBOX (cutbox-rows.mjs): the forced cells as the released guide's own fill.sh prints them over the translation 7245f4d72f32f10b… (all of the seat's roots in one cut). By AI agents, Wed Nov 11 2026. No macro, syntax, notation, axiom, sorry.
-/
import Derived.Test.YtadbgfaboafkeaaChecked
import GoSem.Claim
import GoSem.ClaimJoined
import GoSem.ClaimMapViews
import Derived.JoinedTies
import Derived.KernelRfl
namespace Go.Proofs.Ytadbgfaboafkeaa
/- THE CELL 'sum', in the pinned program and in every row, IS THE sha256 OF THE DUMP (.gsa) THAT YtadbgfaboafkeaaProg.lean LOADS. Nothing in Lean hashes anything: it is a label: what it is worth is what the hold of that sum in a sandbox is worth. -/
noncomputable def Try.pinned : Pinned := { name := "ytadbgfaboafkeaa", sum := "7245f4d72f32f10bd958627e90a6a114afbee7252b26ad483622e763cfd06615", checked := Try.checked }
namespace Rows
def none {H : Type} : Left H := { results := [], args := [] }

/-- 'laws.FnExactChainOk': WHATEVER THE INPUT: true; the input reads as it did. -/
def fnExactChainOkSpec : ChangeSpec := { name := "fnExactChainOk", fn := fun _ => fun
  | [d] => { results := [.lit (.bool true)], args := [d] }
  | _ => none }
def fnExactChainOkRow : OpenClaim := { program := "ytadbgfaboafkeaa", sum := "7245f4d72f32f10bd958627e90a6a114afbee7252b26ad483622e763cfd06615", func := "loop.example/g00087/laws.FnExactChainOk", spec := "fnExactChainOk", unfollowed := true, recurses := true, apart := false }
def FnExactChainOkSaid : Prop := fnExactChainOkRow.holds Try.pinned (OpenSpec.ofChange fnExactChainOkSpec)

/-- ITS FALSE NEIGHBOUR: 'it returns false'. Refute it at one input. -/
def fnExactChainOkWrong : ChangeSpec := { name := "fnExactChainOk", fn := fun _ => fun
  | [d] => { results := [.lit (.bool false)], args := [d] }
  | _ => none }
def FnExactChainOkWrongFalsely : Prop := fnExactChainOkRow.holds Try.pinned (OpenSpec.ofChange fnExactChainOkWrong)

/-- 'laws.FnExactNewChain': WHATEVER THE INPUT: true; the input reads as it did. -/
def fnExactNewChainSpec : ChangeSpec := { name := "fnExactNewChain", fn := fun _ => fun
  | [] => { results := [.lit (.bool true)], args := [] }
  | _ => none }
def fnExactNewChainRow : OpenClaim := { program := "ytadbgfaboafkeaa", sum := "7245f4d72f32f10bd958627e90a6a114afbee7252b26ad483622e763cfd06615", func := "loop.example/g00087/laws.FnExactNewChain", spec := "fnExactNewChain", apart := false }
def FnExactNewChainSaid : Prop := fnExactNewChainRow.holds Try.pinned (OpenSpec.ofChange fnExactNewChainSpec)

/-- ITS FALSE NEIGHBOUR: 'it returns false'. Refute it at one input. -/
def fnExactNewChainWrong : ChangeSpec := { name := "fnExactNewChain", fn := fun _ => fun
  | [] => { results := [.lit (.bool false)], args := [] }
  | _ => none }
def FnExactNewChainWrongFalsely : Prop := fnExactNewChainRow.holds Try.pinned (OpenSpec.ofChange fnExactNewChainWrong)

/-- 'laws.FnExactMapPut': WHATEVER THE INPUT: true; the input reads as it did. -/
def fnExactMapPutSpec : ChangeSpec := { name := "fnExactMapPut", fn := fun _ => fun
  | [d1, d2, d3] => { results := [.lit (.bool true)], args := [d1, d2, d3] }
  | _ => none }
def fnExactMapPutRow : OpenClaim := { program := "ytadbgfaboafkeaa", sum := "7245f4d72f32f10bd958627e90a6a114afbee7252b26ad483622e763cfd06615", func := "loop.example/g00087/laws.FnExactMapPut", spec := "fnExactMapPut", unfollowed := true, recurses := true, apart := false }
def FnExactMapPutSaid : Prop := fnExactMapPutRow.holds Try.pinned (OpenSpec.ofChange fnExactMapPutSpec)

/-- ITS FALSE NEIGHBOUR: 'it returns false'. Refute it at one input. -/
def fnExactMapPutWrong : ChangeSpec := { name := "fnExactMapPut", fn := fun _ => fun
  | [d1, d2, d3] => { results := [.lit (.bool false)], args := [d1, d2, d3] }
  | _ => none }
def FnExactMapPutWrongFalsely : Prop := fnExactMapPutRow.holds Try.pinned (OpenSpec.ofChange fnExactMapPutWrong)

/-- 'laws.FnExactMapDrop': WHATEVER THE INPUT: true; the input reads as it did. -/
def fnExactMapDropSpec : ChangeSpec := { name := "fnExactMapDrop", fn := fun _ => fun
  | [d1, d2] => { results := [.lit (.bool true)], args := [d1, d2] }
  | _ => none }
def fnExactMapDropRow : OpenClaim := { program := "ytadbgfaboafkeaa", sum := "7245f4d72f32f10bd958627e90a6a114afbee7252b26ad483622e763cfd06615", func := "loop.example/g00087/laws.FnExactMapDrop", spec := "fnExactMapDrop", unfollowed := true, recurses := true, apart := false }
def FnExactMapDropSaid : Prop := fnExactMapDropRow.holds Try.pinned (OpenSpec.ofChange fnExactMapDropSpec)

/-- ITS FALSE NEIGHBOUR: 'it returns false'. Refute it at one input. -/
def fnExactMapDropWrong : ChangeSpec := { name := "fnExactMapDrop", fn := fun _ => fun
  | [d1, d2] => { results := [.lit (.bool false)], args := [d1, d2] }
  | _ => none }
def FnExactMapDropWrongFalsely : Prop := fnExactMapDropRow.holds Try.pinned (OpenSpec.ofChange fnExactMapDropWrong)

/-- 'laws.FnExactMapGet': WHATEVER THE INPUT: true; the input reads as it did. -/
def fnExactMapGetSpec : ChangeSpec := { name := "fnExactMapGet", fn := fun _ => fun
  | [d1, d2] => { results := [.lit (.bool true)], args := [d1, d2] }
  | _ => none }
def fnExactMapGetRow : OpenClaim := { program := "ytadbgfaboafkeaa", sum := "7245f4d72f32f10bd958627e90a6a114afbee7252b26ad483622e763cfd06615", func := "loop.example/g00087/laws.FnExactMapGet", spec := "fnExactMapGet", unfollowed := true, recurses := true, apart := false }
def FnExactMapGetSaid : Prop := fnExactMapGetRow.holds Try.pinned (OpenSpec.ofChange fnExactMapGetSpec)

/-- ITS FALSE NEIGHBOUR: 'it returns false'. Refute it at one input. -/
def fnExactMapGetWrong : ChangeSpec := { name := "fnExactMapGet", fn := fun _ => fun
  | [d1, d2] => { results := [.lit (.bool false)], args := [d1, d2] }
  | _ => none }
def FnExactMapGetWrongFalsely : Prop := fnExactMapGetRow.holds Try.pinned (OpenSpec.ofChange fnExactMapGetWrong)

/-- 'laws.FnExactMapPairs': WHATEVER THE INPUT: true; the input reads as it did. -/
def fnExactMapPairsSpec : ChangeSpec := { name := "fnExactMapPairs", fn := fun _ => fun
  | [d] => { results := [.lit (.bool true)], args := [d] }
  | _ => none }
def fnExactMapPairsRow : OpenClaim := { program := "ytadbgfaboafkeaa", sum := "7245f4d72f32f10bd958627e90a6a114afbee7252b26ad483622e763cfd06615", func := "loop.example/g00087/laws.FnExactMapPairs", spec := "fnExactMapPairs", unfollowed := true, recurses := true, apart := false }
def FnExactMapPairsSaid : Prop := fnExactMapPairsRow.holds Try.pinned (OpenSpec.ofChange fnExactMapPairsSpec)

/-- ITS FALSE NEIGHBOUR: 'it returns false'. Refute it at one input. -/
def fnExactMapPairsWrong : ChangeSpec := { name := "fnExactMapPairs", fn := fun _ => fun
  | [d] => { results := [.lit (.bool false)], args := [d] }
  | _ => none }
def FnExactMapPairsWrongFalsely : Prop := fnExactMapPairsRow.holds Try.pinned (OpenSpec.ofChange fnExactMapPairsWrong)

/-- 'laws.FnExactMapRange': WHATEVER THE INPUT: true; the input reads as it did. -/
def fnExactMapRangeSpec : ChangeSpec := { name := "fnExactMapRange", fn := fun _ => fun
  | [d1, d2, d3] => { results := [.lit (.bool true)], args := [d1, d2, d3] }
  | _ => none }
def fnExactMapRangeRow : OpenClaim := { program := "ytadbgfaboafkeaa", sum := "7245f4d72f32f10bd958627e90a6a114afbee7252b26ad483622e763cfd06615", func := "loop.example/g00087/laws.FnExactMapRange", spec := "fnExactMapRange", unfollowed := true, recurses := true, apart := false }
def FnExactMapRangeSaid : Prop := fnExactMapRangeRow.holds Try.pinned (OpenSpec.ofChange fnExactMapRangeSpec)

/-- ITS FALSE NEIGHBOUR: 'it returns false'. Refute it at one input. -/
def fnExactMapRangeWrong : ChangeSpec := { name := "fnExactMapRange", fn := fun _ => fun
  | [d1, d2, d3] => { results := [.lit (.bool false)], args := [d1, d2, d3] }
  | _ => none }
def FnExactMapRangeWrongFalsely : Prop := fnExactMapRangeRow.holds Try.pinned (OpenSpec.ofChange fnExactMapRangeWrong)

/- THE SECOND FORM. 'bulk': how many values and letters a reading holds, each counted each time it is reached (what is shared counts as often as it is met; a slice's spare places count too). A statement '..UptoSaid' is the law's where the arguments, and the package variables that the reading takes, are together of bulk at most 1048576: NARROWER than '..Said'. Prove '..Said' where nothing that the law and all that it calls make is longer than what came in: it says more and counts as full. Else prove '..UptoSaid'. A law counts once. -/
mutual
def uptoBulk {H : Type} : DataW H → Nat
  | .lit (.string bytes) => bytes.length + 1
  | .lit _ => 1
  | .nil => 1
  | .ptr d => uptoBulk d + 1
  | .slice elems spare => uptoBulkAll elems + uptoBulkAll spare + 1
  | .agg parts => uptoBulkAll parts + 1
  | .iface _ d => uptoBulk d + 1
  | .map entries => uptoBulkEntries entries + 1
  | .held _ => 1
def uptoBulkAll {H : Type} : List (DataW H) → Nat
  | [] => 0
  | d :: r => uptoBulk d + uptoBulkAll r
def uptoBulkEntries {H : Type} : List (Lit × DataW H) → Nat
  | [] => 0
  | x :: r => uptoBulkEntry x + uptoBulkEntries r
def uptoBulkEntry {H : Type} : Lit × DataW H → Nat
  | (.string bytes, d) => bytes.length + uptoBulk d + 1
  | (_, d) => uptoBulk d + 1
 end
def uptoSmall : (H : Type) → List (DataW H) → Bool := fun _ ds => decide (uptoBulkAll ds ≤ 1048576)
def OpenSpec.upto (s : _root_.Go.ChangeSpec) : _root_.Go.OpenSpec := { _root_.Go.OpenSpec.ofChange s with cond := some uptoSmall }

/-- 'laws.FnExactChainOk', WHERE WHAT IT READS IS OF BULK AT MOST 1048576: true; the input reads as it did. -/
def fnExactChainOkUptoRow : OpenClaim := { program := "ytadbgfaboafkeaa", sum := "7245f4d72f32f10bd958627e90a6a114afbee7252b26ad483622e763cfd06615", func := "loop.example/g00087/laws.FnExactChainOk", spec := "fnExactChainOk", unfollowed := true, recurses := true, apart := false, narrowed := true }
def FnExactChainOkUptoSaid : Prop := fnExactChainOkUptoRow.holds Try.pinned (OpenSpec.upto fnExactChainOkSpec)

/-- 'laws.FnExactNewChain', WHERE WHAT IT READS IS OF BULK AT MOST 1048576: true; the input reads as it did. -/
def fnExactNewChainUptoRow : OpenClaim := { program := "ytadbgfaboafkeaa", sum := "7245f4d72f32f10bd958627e90a6a114afbee7252b26ad483622e763cfd06615", func := "loop.example/g00087/laws.FnExactNewChain", spec := "fnExactNewChain", apart := false, narrowed := true }
def FnExactNewChainUptoSaid : Prop := fnExactNewChainUptoRow.holds Try.pinned (OpenSpec.upto fnExactNewChainSpec)

/-- 'laws.FnExactMapPut', WHERE WHAT IT READS IS OF BULK AT MOST 1048576: true; the input reads as it did. -/
def fnExactMapPutUptoRow : OpenClaim := { program := "ytadbgfaboafkeaa", sum := "7245f4d72f32f10bd958627e90a6a114afbee7252b26ad483622e763cfd06615", func := "loop.example/g00087/laws.FnExactMapPut", spec := "fnExactMapPut", unfollowed := true, recurses := true, apart := false, narrowed := true }
def FnExactMapPutUptoSaid : Prop := fnExactMapPutUptoRow.holds Try.pinned (OpenSpec.upto fnExactMapPutSpec)

/-- 'laws.FnExactMapDrop', WHERE WHAT IT READS IS OF BULK AT MOST 1048576: true; the input reads as it did. -/
def fnExactMapDropUptoRow : OpenClaim := { program := "ytadbgfaboafkeaa", sum := "7245f4d72f32f10bd958627e90a6a114afbee7252b26ad483622e763cfd06615", func := "loop.example/g00087/laws.FnExactMapDrop", spec := "fnExactMapDrop", unfollowed := true, recurses := true, apart := false, narrowed := true }
def FnExactMapDropUptoSaid : Prop := fnExactMapDropUptoRow.holds Try.pinned (OpenSpec.upto fnExactMapDropSpec)

/-- 'laws.FnExactMapGet', WHERE WHAT IT READS IS OF BULK AT MOST 1048576: true; the input reads as it did. -/
def fnExactMapGetUptoRow : OpenClaim := { program := "ytadbgfaboafkeaa", sum := "7245f4d72f32f10bd958627e90a6a114afbee7252b26ad483622e763cfd06615", func := "loop.example/g00087/laws.FnExactMapGet", spec := "fnExactMapGet", unfollowed := true, recurses := true, apart := false, narrowed := true }
def FnExactMapGetUptoSaid : Prop := fnExactMapGetUptoRow.holds Try.pinned (OpenSpec.upto fnExactMapGetSpec)

/-- 'laws.FnExactMapPairs', WHERE WHAT IT READS IS OF BULK AT MOST 1048576: true; the input reads as it did. -/
def fnExactMapPairsUptoRow : OpenClaim := { program := "ytadbgfaboafkeaa", sum := "7245f4d72f32f10bd958627e90a6a114afbee7252b26ad483622e763cfd06615", func := "loop.example/g00087/laws.FnExactMapPairs", spec := "fnExactMapPairs", unfollowed := true, recurses := true, apart := false, narrowed := true }
def FnExactMapPairsUptoSaid : Prop := fnExactMapPairsUptoRow.holds Try.pinned (OpenSpec.upto fnExactMapPairsSpec)

/-- 'laws.FnExactMapRange', WHERE WHAT IT READS IS OF BULK AT MOST 1048576: true; the input reads as it did. -/
def fnExactMapRangeUptoRow : OpenClaim := { program := "ytadbgfaboafkeaa", sum := "7245f4d72f32f10bd958627e90a6a114afbee7252b26ad483622e763cfd06615", func := "loop.example/g00087/laws.FnExactMapRange", spec := "fnExactMapRange", unfollowed := true, recurses := true, apart := false, narrowed := true }
def FnExactMapRangeUptoSaid : Prop := fnExactMapRangeUptoRow.holds Try.pinned (OpenSpec.upto fnExactMapRangeSpec)

end Rows
end Go.Proofs.Ytadbgfaboafkeaa
