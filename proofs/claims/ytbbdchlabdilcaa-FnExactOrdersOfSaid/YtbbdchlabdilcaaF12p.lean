/- Chapter 12: descriptors done on values, one at a time. -/
import Derived.Test.YtbbdchlabdilcaaF7i
namespace Go.Proofs.Ytbbdchlabdilcaa
set_option maxRecDepth 100000
open Go.RowKit Go.Proofs Go.Own
/-- A descriptor's entries done on values: the first k of them. -/
def doE (vs : List Int) (e : Entry) : List Int := if e.write_ = true then vs.set e.object_.toNat e.new_ else vs
def doTo (vs : List Int) (es : List Entry) : Nat → List Int
  | 0 => vs
  | k+1 => match es[k]? with | some e => doE (doTo vs es k) e | none => doTo vs es k
theorem doTo_succ {vs : List Int} {es : List Entry} {k : Nat} (h : k < es.length) : doTo vs es (k+1) = doE (doTo vs es k) es[k] := by
  conv => lhs; unfold doTo
  rw [List.getElem?_eq_getElem h]
theorem doE_len (vs : List Int) (e : Entry) : (doE vs e).length = vs.length := by unfold doE; split <;> simp
theorem doTo_len (vs : List Int) (es : List Entry) : ∀ k, (doTo vs es k).length = vs.length
  | 0 => rfl
  | k+1 => by
    unfold doTo
    split
    · rw [doE_len, doTo_len vs es k]
    · exact doTo_len vs es k
def doL (vs : List Int) (es : List Entry) : List Int := doTo vs es es.length
theorem doL_len (vs : List Int) (es : List Entry) : (doL vs es).length = vs.length := doTo_len _ _ _
def canL (vs : List Int) (es : List Entry) : Bool := es.all fun e => vs.getD e.object_.toNat 0 == e.old_
/-- Serial. -/
def args12 (fs : List Int) (ds : List DescD) (most : Int) : Bool := (inB (fs.length : Int) 1 8 && allIn fs (-1000000000) 1000000000 0 && !decide (most < (ds.length : Int))) && ds.all (descIn fs.length)
def serTo (vs : List Int) (ds : List DescD) : Nat → Nat → List Int × Bool
  | 0, _ => (vs, true)
  | n+1, i => match ds[i]? with
    | some d => if canL vs d.entries_ = true then serTo (doL vs d.entries_) ds n (i+1) else (vs, false)
    | none => (vs, true)
def serC (fs : List Int) (ds : List DescD) : List Int × Bool := if args12 fs ds 60 = true then serTo fs ds ds.length 0 else ([], false)
theorem serTo_len (ds : List DescD) : ∀ n i vs, (serTo vs ds n i).1.length = vs.length
  | 0, _, _ => rfl
  | n+1, i, vs => by
    unfold serTo
    split
    · split
      · rw [serTo_len ds n (i+1), doL_len]
      · rfl
    · rfl
end Go.Proofs.Ytbbdchlabdilcaa
