/- Chapter 15: a tree built of its keys. -/
import Derived.Test.YtdgmbcmgjadoiaaF15d
import Derived.Test.YtdgmbcmgjadoiaaAsc
namespace Go.Proofs.Ytdgmbcmgjadoiaa
set_option maxRecDepth 100000
open Go.RowKit Go.Proofs Go.Own
open Go Go.BigFrame
set_option linter.unusedVariables false
def rootB (ks : List Int) (p : Nat) : Int := if ks.length = 0 then -1 else (p : Int)
/-- The twigs of a part of these keys, from a place on. -/
def buildT : Nat → List Twig → List Int → Nat → List Twig
  | 0, L, _, _ => L
  | f+1, L, ks, p =>
    if ks.length = 0 then L
    else (buildT f (buildT f L (ks.take (ks.length / 2)) (p+1)) (ks.drop (ks.length / 2 + 1)) (p + 1 + ks.length / 2)).set p ⟨true, ks.getD (ks.length / 2) 0, rootB (ks.take (ks.length / 2)) (p+1), rootB (ks.drop (ks.length / 2 + 1)) (p + 1 + ks.length / 2)⟩
theorem buildT_len : ∀ (f : Nat) (L : List Twig) (ks : List Int) (p : Nat), (buildT f L ks p).length = L.length
  | 0, L, ks, p => rfl
  | f+1, L, ks, p => by
    unfold buildT
    split
    · rfl
    · rw [List.length_set, buildT_len f, buildT_len f]
theorem buildT_nil (f : Nat) (L : List Twig) (p : Nat) : buildT f L [] p = L := by cases f <;> simp [buildT]
def buildC (ks : List Int) : TreeD × Bool :=
  if (decide (ks.length ≤ 16) && ks.all isVal && ascI ks) = true then (⟨buildT 16 (List.replicate 16 zTwig) ks 0, rootB ks 0⟩, true) else (⟨List.replicate 16 zTwig, -1⟩, false)
theorem buildC_len (ks : List Int) : (buildC ks).1.twigs_.length = 16 := by
  unfold buildC
  split
  · exact (buildT_len 16 _ ks 0).trans rfl
  · rfl
end Go.Proofs.Ytdgmbcmgjadoiaa
