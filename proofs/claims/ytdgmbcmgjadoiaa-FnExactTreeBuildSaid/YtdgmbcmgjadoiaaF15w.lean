/- Chapter 15: the walk to a key, the model's and the program's. -/
import Derived.Test.YtdgmbcmgjadoiaaF15b
namespace Go.Proofs.Ytdgmbcmgjadoiaa
set_option maxRecDepth 100000
open Go.RowKit Go.Proofs Go.Own
open Go Go.BigFrame
set_option linter.unusedVariables false
/-- The model's walk: the places that are opened, whether the last one has the key, whether it came to an end. -/
def wayT (L : List Twig) (key : Int) : Nat → Int → List Int → List Int × Bool × Bool
  | 0, p, way => (way, false, decide (p = -1))
  | f+1, p, way => if p = -1 then (way, false, true) else if (tw L p).key_ = key then (way ++ [p], true, true)
    else wayT L key f (if key < (tw L p).key_ then (tw L p).left_ else (tw L p).right_) (way ++ [p])
def wayC (t : TreeD) (key : Int) : List Int × Bool × Bool := wayT t.twigs_ key 8 t.root_ []
def codeW (r : List Int × Bool × Bool) : Int := if r.2.2 = false then 2 else if r.2.1 = true then 4 else 5
def findC (t : TreeD) (key : Int) : Int × Int := if (treeOk t && isVal key) = true then (((wayC t key).1.length : Int), codeW (wayC t key)) else (0, 1)
/-- The program's walk: the cell of the link to which it comes, how many were opened, what it tells. -/
def walkP (L : List Twig) (key : Int) : Nat → Nat → Int → Nat → Nat × Nat × Int
  | 0, l, p, n => (l, n, if p = -1 then 5 else 2)
  | f+1, l, p, n => if p = -1 then (l, n, 5) else if key < (tw L p).key_ then walkP L key f (p.toNat * 4 + 2) (tw L p).left_ (n+1)
    else if (tw L p).key_ < key then walkP L key f (p.toNat * 4 + 3) (tw L p).right_ (n+1) else (l, n+1, 4)
/-- The cell of the link behind a way. -/
def linkOf (L : List Twig) (key : Int) (way : List Int) : Nat := match way.getLast? with | none => 64 | some q => if key < (tw L q).key_ then q.toNat * 4 + 2 else q.toNat * 4 + 3
theorem linkOf_snoc (L : List Twig) (key : Int) (way : List Int) (p : Int) : linkOf L key (way ++ [p]) = if key < (tw L p).key_ then p.toNat * 4 + 2 else p.toNat * 4 + 3 := by
  unfold linkOf; rw [show (way ++ [p]).getLast? = some p by simp]
theorem walkP_way (L : List Twig) (key : Int) : ∀ (f : Nat) (p : Int) (way : List Int), walkP L key f (linkOf L key way) p way.length =
    (linkOf L key (if (wayT L key f p way).2.1 = true then (wayT L key f p way).1.dropLast else (wayT L key f p way).1), (wayT L key f p way).1.length, codeW (wayT L key f p way))
  | 0, p, way => by
    unfold walkP wayT codeW
    by_cases h : p = -1 <;> simp [h]
  | f+1, p, way => by
    unfold walkP wayT
    by_cases h : p = -1
    · simp [h, codeW]
    · rw [if_neg h, if_neg h]
      by_cases h1 : (tw L p).key_ = key
      · rw [if_neg (by omega), if_neg (by omega), if_pos h1]
        simp [codeW]
      · rw [if_neg h1]
        by_cases h2 : key < (tw L p).key_
        · rw [if_pos h2, if_pos h2]
          have z := walkP_way L key f (tw L p).left_ (way ++ [p])
          rw [linkOf_snoc, if_pos h2, List.length_append, List.length_singleton] at z
          exact z
        · rw [if_neg h2, if_pos (by omega), if_neg h2]
          have z := walkP_way L key f (tw L p).right_ (way ++ [p])
          rw [linkOf_snoc, if_neg h2, List.length_append, List.length_singleton] at z
          exact z
theorem wayT_len (L : List Twig) (key : Int) : ∀ (f : Nat) (p : Int) (way : List Int), (wayT L key f p way).1.length ≤ way.length + f
  | 0, p, way => by simp [wayT]
  | f+1, p, way => by
    unfold wayT
    split
    · simp
    · split
      · simp
      · have z := wayT_len L key f (if key < (tw L p).key_ then (tw L p).left_ else (tw L p).right_) (way ++ [p])
        simp at z; omega
/-- The places of a walk are those of twigs that are used; each but the last leads to the next. -/
theorem wayT_in (L : List Twig) (key : Int) : ∀ (f : Nat) (p : Int) (way : List Int) (ys : List Int), Part L p ys → (∀ q ∈ way, inB q 0 15 = true ∧ (tw L q).used_ = true) → ∀ q ∈ (wayT L key f p way).1, inB q 0 15 = true ∧ (tw L q).used_ = true
  | 0, p, way, ys, _, h => h
  | f+1, p, way, ys, hp, h => by
    unfold wayT
    split
    · exact h
    · rename_i hq
      obtain ⟨xs, zs, h1, h2, h3, h4, rfl⟩ := hp.inv hq
      have hs : ∀ q ∈ way ++ [p], inB q 0 15 = true ∧ (tw L q).used_ = true := fun q hq => by
        rcases List.mem_append.1 hq with hq | hq
        · exact h q hq
        · simp at hq; subst hq; exact ⟨h1, h2⟩
      split
      · exact hs
      · by_cases h9 : key < (tw L p).key_
        · rw [if_pos h9]; exact wayT_in L key f _ _ _ h3 hs
        · rw [if_neg h9]; exact wayT_in L key f _ _ _ h4 hs
theorem treeOk_part {t : TreeD} (hL : t.twigs_.length = 16) (h : treeOk t = true) : ∃ xs, Part t.twigs_ t.root_ xs ∧ xs.length ≤ 16 := by
  obtain ⟨_, xs, h1, h2, h3⟩ := (treeOk_iff t hL).1 h
  exact ⟨xs, h1, by have := usedT_le16 hL; omega⟩
end Go.Proofs.Ytdgmbcmgjadoiaa
