/-
  No cell of these rows narrows 'for every input' (looked for: loops, veiled, ifaces, maps, wideKeys, modest, calm, conditions, laid).
  DERIVED. THE GIVEN ROWS OF THIS SEAT. 7 by the template 'for every input the law returns true; each argument reads behind the call as it read before'; 0 by the template 'total and deterministic' (their statements: YtmfepmbkgomlcaaTotals.lean).
  GIVEN WITH THE SEED: the statements are not yours to turn. If you find one false, say at which input.
  Laid BY PROGRAM, IN A SANDBOX (cutbox-rows.mjs): the forced cells as the released guide's own fill.sh prints them over the translation a704a473c6c7d1b9… (all of the seat's roots in one cut). By AI agents, Wed Nov 11 2026. No macro, syntax, notation, axiom, sorry.
-/
import Derived.Test.YtmfepmbkgomlcaaChecked
import GoSem.Claim
import GoSem.ClaimJoined
import GoSem.ClaimMapViews
import Derived.JoinedTies
import Derived.KernelRfl
namespace Go.Proofs.Ytmfepmbkgomlcaa
/- THE CELL 'sum', in the pinned program and in every row, IS THE sha256 OF THE DUMP (.gsa) THAT YtmfepmbkgomlcaaProg.lean LOADS. Nothing in Lean hashes anything: it is a label: what it is worth is what the hold of that sum in a sandbox is worth. -/
noncomputable def Try.pinned : Pinned := { name := "ytmfepmbkgomlcaa", sum := "a704a473c6c7d1b9e9582dd8cbdea8f768563043a105f571886c276dd2b91683", checked := Try.checked }
namespace Rows
def none {H : Type} : Left H := { results := [], args := [] }

/-- 'laws.FnExactOpenOk': WHATEVER THE INPUT: true; the input reads as it did. -/
def fnExactOpenOkSpec : ChangeSpec := { name := "fnExactOpenOk", fn := fun _ => fun
  | [d] => { results := [.lit (.bool true)], args := [d] }
  | _ => none }
def fnExactOpenOkRow : OpenClaim := { program := "ytmfepmbkgomlcaa", sum := "a704a473c6c7d1b9e9582dd8cbdea8f768563043a105f571886c276dd2b91683", func := "loop.example/g00087/laws.FnExactOpenOk", spec := "fnExactOpenOk", unfollowed := true, recurses := true, apart := false }
def FnExactOpenOkSaid : Prop := fnExactOpenOkRow.holds Try.pinned (OpenSpec.ofChange fnExactOpenOkSpec)

/-- ITS FALSE NEIGHBOUR: 'it returns false'. Refute it at one input. -/
def fnExactOpenOkWrong : ChangeSpec := { name := "fnExactOpenOk", fn := fun _ => fun
  | [d] => { results := [.lit (.bool false)], args := [d] }
  | _ => none }
def FnExactOpenOkWrongFalsely : Prop := fnExactOpenOkRow.holds Try.pinned (OpenSpec.ofChange fnExactOpenOkWrong)

/-- 'laws.FnExactOpened': WHATEVER THE INPUT: true; the input reads as it did. -/
def fnExactOpenedSpec : ChangeSpec := { name := "fnExactOpened", fn := fun _ => fun
  | [d1, d2] => { results := [.lit (.bool true)], args := [d1, d2] }
  | _ => none }
def fnExactOpenedRow : OpenClaim := { program := "ytmfepmbkgomlcaa", sum := "a704a473c6c7d1b9e9582dd8cbdea8f768563043a105f571886c276dd2b91683", func := "loop.example/g00087/laws.FnExactOpened", spec := "fnExactOpened", unfollowed := true, recurses := true, apart := false }
def FnExactOpenedSaid : Prop := fnExactOpenedRow.holds Try.pinned (OpenSpec.ofChange fnExactOpenedSpec)

/-- ITS FALSE NEIGHBOUR: 'it returns false'. Refute it at one input. -/
def fnExactOpenedWrong : ChangeSpec := { name := "fnExactOpened", fn := fun _ => fun
  | [d1, d2] => { results := [.lit (.bool false)], args := [d1, d2] }
  | _ => none }
def FnExactOpenedWrongFalsely : Prop := fnExactOpenedRow.holds Try.pinned (OpenSpec.ofChange fnExactOpenedWrong)

/-- 'laws.FnExactAddRead': WHATEVER THE INPUT: true; the input reads as it did. -/
def fnExactAddReadSpec : ChangeSpec := { name := "fnExactAddRead", fn := fun _ => fun
  | [d1, d2, d3, d4] => { results := [.lit (.bool true)], args := [d1, d2, d3, d4] }
  | _ => none }
def fnExactAddReadRow : OpenClaim := { program := "ytmfepmbkgomlcaa", sum := "a704a473c6c7d1b9e9582dd8cbdea8f768563043a105f571886c276dd2b91683", func := "loop.example/g00087/laws.FnExactAddRead", spec := "fnExactAddRead", unfollowed := true, recurses := true, apart := false }
def FnExactAddReadSaid : Prop := fnExactAddReadRow.holds Try.pinned (OpenSpec.ofChange fnExactAddReadSpec)

/-- ITS FALSE NEIGHBOUR: 'it returns false'. Refute it at one input. -/
def fnExactAddReadWrong : ChangeSpec := { name := "fnExactAddRead", fn := fun _ => fun
  | [d1, d2, d3, d4] => { results := [.lit (.bool false)], args := [d1, d2, d3, d4] }
  | _ => none }
def FnExactAddReadWrongFalsely : Prop := fnExactAddReadRow.holds Try.pinned (OpenSpec.ofChange fnExactAddReadWrong)

/-- 'laws.FnExactSetNew': WHATEVER THE INPUT: true; the input reads as it did. -/
def fnExactSetNewSpec : ChangeSpec := { name := "fnExactSetNew", fn := fun _ => fun
  | [d1, d2, d3] => { results := [.lit (.bool true)], args := [d1, d2, d3] }
  | _ => none }
def fnExactSetNewRow : OpenClaim := { program := "ytmfepmbkgomlcaa", sum := "a704a473c6c7d1b9e9582dd8cbdea8f768563043a105f571886c276dd2b91683", func := "loop.example/g00087/laws.FnExactSetNew", spec := "fnExactSetNew", unfollowed := true, recurses := true, apart := false }
def FnExactSetNewSaid : Prop := fnExactSetNewRow.holds Try.pinned (OpenSpec.ofChange fnExactSetNewSpec)

/-- ITS FALSE NEIGHBOUR: 'it returns false'. Refute it at one input. -/
def fnExactSetNewWrong : ChangeSpec := { name := "fnExactSetNew", fn := fun _ => fun
  | [d1, d2, d3] => { results := [.lit (.bool false)], args := [d1, d2, d3] }
  | _ => none }
def FnExactSetNewWrongFalsely : Prop := fnExactSetNewRow.holds Try.pinned (OpenSpec.ofChange fnExactSetNewWrong)

/-- 'laws.FnExactDescOk': WHATEVER THE INPUT: true; the input reads as it did. -/
def fnExactDescOkSpec : ChangeSpec := { name := "fnExactDescOk", fn := fun _ => fun
  | [d] => { results := [.lit (.bool true)], args := [d] }
  | _ => none }
def fnExactDescOkRow : OpenClaim := { program := "ytmfepmbkgomlcaa", sum := "a704a473c6c7d1b9e9582dd8cbdea8f768563043a105f571886c276dd2b91683", func := "loop.example/g00087/laws.FnExactDescOk", spec := "fnExactDescOk", unfollowed := true, recurses := true, apart := false }
def FnExactDescOkSaid : Prop := fnExactDescOkRow.holds Try.pinned (OpenSpec.ofChange fnExactDescOkSpec)

/-- ITS FALSE NEIGHBOUR: 'it returns false'. Refute it at one input. -/
def fnExactDescOkWrong : ChangeSpec := { name := "fnExactDescOk", fn := fun _ => fun
  | [d] => { results := [.lit (.bool false)], args := [d] }
  | _ => none }
def FnExactDescOkWrongFalsely : Prop := fnExactDescOkRow.holds Try.pinned (OpenSpec.ofChange fnExactDescOkWrong)

/-- 'laws.FnExactMakeDesc': WHATEVER THE INPUT: true; the input reads as it did. -/
def fnExactMakeDescSpec : ChangeSpec := { name := "fnExactMakeDesc", fn := fun _ => fun
  | [d1, d2] => { results := [.lit (.bool true)], args := [d1, d2] }
  | _ => none }
def fnExactMakeDescRow : OpenClaim := { program := "ytmfepmbkgomlcaa", sum := "a704a473c6c7d1b9e9582dd8cbdea8f768563043a105f571886c276dd2b91683", func := "loop.example/g00087/laws.FnExactMakeDesc", spec := "fnExactMakeDesc", unfollowed := true, recurses := true, apart := false }
def FnExactMakeDescSaid : Prop := fnExactMakeDescRow.holds Try.pinned (OpenSpec.ofChange fnExactMakeDescSpec)

/-- ITS FALSE NEIGHBOUR: 'it returns false'. Refute it at one input. -/
def fnExactMakeDescWrong : ChangeSpec := { name := "fnExactMakeDesc", fn := fun _ => fun
  | [d1, d2] => { results := [.lit (.bool false)], args := [d1, d2] }
  | _ => none }
def FnExactMakeDescWrongFalsely : Prop := fnExactMakeDescRow.holds Try.pinned (OpenSpec.ofChange fnExactMakeDescWrong)

/-- 'laws.FnExactMeets': WHATEVER THE INPUT: true; the input reads as it did. -/
def fnExactMeetsSpec : ChangeSpec := { name := "fnExactMeets", fn := fun _ => fun
  | [d1, d2] => { results := [.lit (.bool true)], args := [d1, d2] }
  | _ => none }
def fnExactMeetsRow : OpenClaim := { program := "ytmfepmbkgomlcaa", sum := "a704a473c6c7d1b9e9582dd8cbdea8f768563043a105f571886c276dd2b91683", func := "loop.example/g00087/laws.FnExactMeets", spec := "fnExactMeets", unfollowed := true, recurses := true, apart := false }
def FnExactMeetsSaid : Prop := fnExactMeetsRow.holds Try.pinned (OpenSpec.ofChange fnExactMeetsSpec)

/-- ITS FALSE NEIGHBOUR: 'it returns false'. Refute it at one input. -/
def fnExactMeetsWrong : ChangeSpec := { name := "fnExactMeets", fn := fun _ => fun
  | [d1, d2] => { results := [.lit (.bool false)], args := [d1, d2] }
  | _ => none }
def FnExactMeetsWrongFalsely : Prop := fnExactMeetsRow.holds Try.pinned (OpenSpec.ofChange fnExactMeetsWrong)

/- THE SECOND FORM. 'bulk': how many values and letters a reading holds, each counted each time it is reached (what is shared counts as often as it is met; a slice's spare places count too). A statement '..UptoSaid' is the law's where the arguments, and the package variables that the reading takes, are together of bulk at most 1048576: NARROWER than '..Said'. Prove '..Said' where nothing that the law and all that it calls make is longer than what came in: it says more and counts as full. Else prove '..UptoSaid'. A law counts once. -/
mutual
def uptoBulk {H : Type} : DataW H → Nat
  | .lit (.string bytes) => bytes.length + 1
  | .lit _ => 1
  | .nil => 1
  | .ptr d => uptoBulk d + 1
  | .slice elems spare => uptoBulkAll elems + uptoBulkAll spare + 1
  | .agg parts => uptoBulkAll parts + 1
  | .iface _ d => uptoBulk d + 1
  | .map entries => uptoBulkEntries entries + 1
  | .held _ => 1
def uptoBulkAll {H : Type} : List (DataW H) → Nat
  | [] => 0
  | d :: r => uptoBulk d + uptoBulkAll r
def uptoBulkEntries {H : Type} : List (Lit × DataW H) → Nat
  | [] => 0
  | x :: r => uptoBulkEntry x + uptoBulkEntries r
def uptoBulkEntry {H : Type} : Lit × DataW H → Nat
  | (.string bytes, d) => bytes.length + uptoBulk d + 1
  | (_, d) => uptoBulk d + 1
 end
def uptoSmall : (H : Type) → List (DataW H) → Bool := fun _ ds => decide (uptoBulkAll ds ≤ 1048576)
def OpenSpec.upto (s : _root_.Go.ChangeSpec) : _root_.Go.OpenSpec := { _root_.Go.OpenSpec.ofChange s with cond := some uptoSmall }

/-- 'laws.FnExactOpenOk', WHERE WHAT IT READS IS OF BULK AT MOST 1048576: true; the input reads as it did. -/
def fnExactOpenOkUptoRow : OpenClaim := { program := "ytmfepmbkgomlcaa", sum := "a704a473c6c7d1b9e9582dd8cbdea8f768563043a105f571886c276dd2b91683", func := "loop.example/g00087/laws.FnExactOpenOk", spec := "fnExactOpenOk", unfollowed := true, recurses := true, apart := false, narrowed := true }
def FnExactOpenOkUptoSaid : Prop := fnExactOpenOkUptoRow.holds Try.pinned (OpenSpec.upto fnExactOpenOkSpec)

/-- 'laws.FnExactOpened', WHERE WHAT IT READS IS OF BULK AT MOST 1048576: true; the input reads as it did. -/
def fnExactOpenedUptoRow : OpenClaim := { program := "ytmfepmbkgomlcaa", sum := "a704a473c6c7d1b9e9582dd8cbdea8f768563043a105f571886c276dd2b91683", func := "loop.example/g00087/laws.FnExactOpened", spec := "fnExactOpened", unfollowed := true, recurses := true, apart := false, narrowed := true }
def FnExactOpenedUptoSaid : Prop := fnExactOpenedUptoRow.holds Try.pinned (OpenSpec.upto fnExactOpenedSpec)

/-- 'laws.FnExactAddRead', WHERE WHAT IT READS IS OF BULK AT MOST 1048576: true; the input reads as it did. -/
def fnExactAddReadUptoRow : OpenClaim := { program := "ytmfepmbkgomlcaa", sum := "a704a473c6c7d1b9e9582dd8cbdea8f768563043a105f571886c276dd2b91683", func := "loop.example/g00087/laws.FnExactAddRead", spec := "fnExactAddRead", unfollowed := true, recurses := true, apart := false, narrowed := true }
def FnExactAddReadUptoSaid : Prop := fnExactAddReadUptoRow.holds Try.pinned (OpenSpec.upto fnExactAddReadSpec)

/-- 'laws.FnExactSetNew', WHERE WHAT IT READS IS OF BULK AT MOST 1048576: true; the input reads as it did. -/
def fnExactSetNewUptoRow : OpenClaim := { program := "ytmfepmbkgomlcaa", sum := "a704a473c6c7d1b9e9582dd8cbdea8f768563043a105f571886c276dd2b91683", func := "loop.example/g00087/laws.FnExactSetNew", spec := "fnExactSetNew", unfollowed := true, recurses := true, apart := false, narrowed := true }
def FnExactSetNewUptoSaid : Prop := fnExactSetNewUptoRow.holds Try.pinned (OpenSpec.upto fnExactSetNewSpec)

/-- 'laws.FnExactDescOk', WHERE WHAT IT READS IS OF BULK AT MOST 1048576: true; the input reads as it did. -/
def fnExactDescOkUptoRow : OpenClaim := { program := "ytmfepmbkgomlcaa", sum := "a704a473c6c7d1b9e9582dd8cbdea8f768563043a105f571886c276dd2b91683", func := "loop.example/g00087/laws.FnExactDescOk", spec := "fnExactDescOk", unfollowed := true, recurses := true, apart := false, narrowed := true }
def FnExactDescOkUptoSaid : Prop := fnExactDescOkUptoRow.holds Try.pinned (OpenSpec.upto fnExactDescOkSpec)

/-- 'laws.FnExactMakeDesc', WHERE WHAT IT READS IS OF BULK AT MOST 1048576: true; the input reads as it did. -/
def fnExactMakeDescUptoRow : OpenClaim := { program := "ytmfepmbkgomlcaa", sum := "a704a473c6c7d1b9e9582dd8cbdea8f768563043a105f571886c276dd2b91683", func := "loop.example/g00087/laws.FnExactMakeDesc", spec := "fnExactMakeDesc", unfollowed := true, recurses := true, apart := false, narrowed := true }
def FnExactMakeDescUptoSaid : Prop := fnExactMakeDescUptoRow.holds Try.pinned (OpenSpec.upto fnExactMakeDescSpec)

/-- 'laws.FnExactMeets', WHERE WHAT IT READS IS OF BULK AT MOST 1048576: true; the input reads as it did. -/
def fnExactMeetsUptoRow : OpenClaim := { program := "ytmfepmbkgomlcaa", sum := "a704a473c6c7d1b9e9582dd8cbdea8f768563043a105f571886c276dd2b91683", func := "loop.example/g00087/laws.FnExactMeets", spec := "fnExactMeets", unfollowed := true, recurses := true, apart := false, narrowed := true }
def FnExactMeetsUptoSaid : Prop := fnExactMeetsUptoRow.holds Try.pinned (OpenSpec.upto fnExactMeetsSpec)

end Rows
end Go.Proofs.Ytmfepmbkgomlcaa
