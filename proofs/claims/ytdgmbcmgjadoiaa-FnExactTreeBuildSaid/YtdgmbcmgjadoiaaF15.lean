/- Chapter 15: trees, what they are. -/
import Derived.Test.YtdgmbcmgjadoiaaC15b
import Derived.Test.YtdgmbcmgjadoiaaF0
namespace Go.Proofs.Ytdgmbcmgjadoiaa
set_option maxRecDepth 100000
open Go.RowKit Go.Proofs Go.Own
open Go Go.BigFrame
set_option linter.unusedVariables false
def tw (L : List Twig) (p : Int) : Twig := L.getD p.toNat zTwig
def twigFree (n : Twig) : Bool := n.key_ == 0 && n.left_ == 0 && n.right_ == 0
def twigOk (n : Twig) : Bool := match n.used_ with | true => isVal n.key_ | false => twigFree n
def linkB (p : Int) : Bool := decide (p = -1) || inB p 0 15
def twigOkI (n : Twig) : Bool := match n.used_ with | true => linkB n.left_ && linkB n.right_ | false => twigFree n
def usedT (L : List Twig) : Nat := L.countP (·.used_)
def pls (p : Int) : Bool := inB p 0 15
/-- The model's list of the places below one, behind what is there. -/
def keysT : Nat → List Twig → Int → List Int → List Int × Bool
  | 0, _, p, out => (out, decide (p = -1))
  | f+1, L, p, out =>
    if p = -1 then (out, true)
    else if (inB p 0 15 && (tw L p).used_ && decide (out.length < 16)) = true then
      if ((keysT f (L.set p.toNat zTwig) (tw L p).left_ out).2 && decide ((keysT f (L.set p.toNat zTwig) (tw L p).left_ out).1.length < 16)) = true then
        keysT f (L.set p.toNat zTwig) (tw L p).right_ ((keysT f (L.set p.toNat zTwig) (tw L p).left_ out).1 ++ [p])
      else ((keysT f (L.set p.toNat zTwig) (tw L p).left_ out).1, false)
    else (out, false)
def ascT (L : List Twig) : List Int → Bool
  | [] => true
  | [_] => true
  | a :: b :: r => decide ((tw L a).key_ < (tw L b).key_) && ascT L (b :: r)
def listT (L : List Twig) (p : Int) : List Int × Bool := keysT (usedT L) L p []
def treeOk (t : TreeD) : Bool := t.twigs_.all twigOk && ascT t.twigs_ (listT t.twigs_ t.root_).1 && (listT t.twigs_ t.root_).2 && decide ((listT t.twigs_ t.root_).1.length = usedT t.twigs_)
/-- The program's count of a part whose keys lie between two. -/
def cntT (L : List Twig) : Nat → Int → Int → Int → Nat × Bool
  | 0, p, _, _ => (0, decide (p = -1))
  | f+1, p, a, b =>
    if p = -1 then (0, true)
    else if ((tw L p).used_ && decide (a < (tw L p).key_) && decide ((tw L p).key_ < b)) = true then
      ((cntT L f (tw L p).left_ a (tw L p).key_).1 + 1 + (cntT L f (tw L p).right_ (tw L p).key_ b).1, (cntT L f (tw L p).left_ a (tw L p).key_).2 && (cntT L f (tw L p).right_ (tw L p).key_ b).2)
    else (0, false)
/-- How many used twigs have a key between two. -/
def betT (L : List Twig) (a b : Int) : Nat := L.countP (fun x => x.used_ && (decide (a < x.key_) && decide (x.key_ < b)))
def treeOkI (t : TreeD) : Bool := linkB t.root_ && t.twigs_.all twigOkI && (cntT t.twigs_ (usedT t.twigs_) t.root_ (-1000000001) 1000000001).2 && decide ((cntT t.twigs_ (usedT t.twigs_) t.root_ (-1000000001) 1000000001).1 = usedT t.twigs_)
/-- A part, by its places in order. -/
inductive Part (L : List Twig) : Int → List Int → Prop
  | none : Part L (-1) []
  | twig (p : Int) (xs ys : List Int) (h : inB p 0 15 = true) (hu : (tw L p).used_ = true) (hl : Part L (tw L p).left_ xs) (hr : Part L (tw L p).right_ ys) : Part L p (xs ++ p :: ys)
theorem tw_eq (L : List Twig) (p : Int) (h : p.toNat < L.length) : tw L p = L[p.toNat] := by
  unfold tw; rw [List.getD_eq_getElem?_getD, List.getElem?_eq_getElem h]; rfl
theorem tw_set_self (L : List Twig) (p : Nat) (h : p < L.length) (x : Twig) (q : Int) (hq : q.toNat = p) : tw (L.set p x) q = x := by
  unfold tw; rw [List.getD_eq_getElem?_getD, hq]; simp [h]
theorem tw_set_ne (L : List Twig) (p : Nat) (x : Twig) (q : Int) (hq : ¬ q.toNat = p) : tw (L.set p x) q = tw L q := by
  unfold tw; rw [List.getD_eq_getElem?_getD, List.getD_eq_getElem?_getD, List.getElem?_set_ne (fun e => hq e.symm)]
theorem usedT_set (L : List Twig) (p : Nat) (h : p < L.length) (hu : L[p].used_ = true) : usedT (L.set p zTwig) + 1 = usedT L := by
  unfold usedT
  induction L generalizing p with
  | nil => simp at h
  | cons a L ih =>
    cases p with
    | zero => simp at hu; simp [hu, zTwig]
    | succ p =>
      have z := ih p (by simpa using h) (by simpa using hu)
      rw [List.set_cons_succ, List.countP_cons, List.countP_cons]; omega
theorem betT_lt (L : List Twig) (p : Int) (h : p.toNat < L.length) (hu : (tw L p).used_ = true) (a b : Int) (h1 : a < (tw L p).key_) (h2 : (tw L p).key_ < b) : betT L a (tw L p).key_ + 1 ≤ betT L a b ∧ betT L (tw L p).key_ b + 1 ≤ betT L a b := by
  rw [tw_eq L p h] at *
  generalize p.toNat = q at *
  generalize hk : L[q].key_ = k at *
  have key : ∀ (L : List Twig) (q : Nat) (h : q < L.length), L[q].used_ = true → L[q].key_ = k → betT L a k + 1 ≤ betT L a b ∧ betT L k b + 1 ≤ betT L a b := by
    intro L
    have mono1 : ∀ M : List Twig, betT M a k ≤ betT M a b := fun M => List.countP_mono_left (fun x _ hx => by simp at hx ⊢; exact ⟨hx.1, hx.2.1, by omega⟩)
    have mono2 : ∀ M : List Twig, betT M k b ≤ betT M a b := fun M => List.countP_mono_left (fun x _ hx => by simp at hx ⊢; exact ⟨hx.1, by omega, hx.2.2⟩)
    induction L with
    | nil => intro q h; simp at h
    | cons x L ih =>
      intro q h hu hk
      unfold betT
      rw [List.countP_cons, List.countP_cons, List.countP_cons]
      cases q with
      | zero =>
        simp at hu hk
        have m1 := mono1 L
        have m2 := mono2 L
        unfold betT at m1 m2
        simp [hu, hk, h1, h2]
        omega
      | succ q =>
        have z := ih q (by simpa using h) (by simpa using hu) (by simpa using hk)
        unfold betT at z
        have e1 : (if (x.used_ && (decide (a < x.key_) && decide (x.key_ < k))) = true then 1 else 0) ≤ (if (x.used_ && (decide (a < x.key_) && decide (x.key_ < b))) = true then 1 else 0) := by
          split
          · rename_i h9; simp at h9; rw [if_pos (by simp; exact ⟨h9.1, h9.2.1, by omega⟩)]; exact Nat.le_refl _
          · exact Nat.zero_le _
        have e2 : (if (x.used_ && (decide (k < x.key_) && decide (x.key_ < b))) = true then 1 else 0) ≤ (if (x.used_ && (decide (a < x.key_) && decide (x.key_ < b))) = true then 1 else 0) := by
          split
          · rename_i h9; simp at h9; rw [if_pos (by simp; exact ⟨h9.1, by omega, h9.2.2⟩)]; exact Nat.le_refl _
          · exact Nat.zero_le _
        omega
  exact key L q h hu hk
theorem betT_used (L : List Twig) (a b : Int) : betT L a b ≤ usedT L := List.countP_mono_left (fun x _ hx => by simp at hx ⊢; exact hx.1)
theorem pl_lt {L : List Twig} (hL : L.length = 16) {p : Int} (h : inB p 0 15 = true) : p.toNat < L.length := by
  have : 0 ≤ p ∧ p ≤ 15 := by simpa [inB] using h
  omega
/-- With fuel enough the count is the same. -/
theorem cntT_fuel (L : List Twig) (hL : L.length = 16) (hA : ∀ x ∈ L, x.used_ = true → linkB x.left_ = true ∧ linkB x.right_ = true) : ∀ (f g : Nat) (p a b : Int), linkB p = true → betT L a b ≤ f → betT L a b ≤ g → cntT L f p a b = cntT L g p a b
  | 0, 0, p, a, b, _, _, _ => rfl
  | 0, g+1, p, a, b, hp, h1, _ => by
    unfold cntT
    by_cases hq : p = -1
    · simp [hq]
    · rw [if_neg hq]
      have hpl : inB p 0 15 = true := by unfold linkB at hp; simpa [hq] using hp
      split
      · rename_i h9
        simp only [Bool.and_eq_true, decide_eq_true_eq] at h9
        have := (betT_lt L p (pl_lt hL hpl) h9.1.1 a b h9.1.2 h9.2).1
        omega
      · simp [hq]
  | f+1, 0, p, a, b, hp, _, h1 => by
    unfold cntT
    by_cases hq : p = -1
    · simp [hq]
    · rw [if_neg hq]
      have hpl : inB p 0 15 = true := by unfold linkB at hp; simpa [hq] using hp
      split
      · rename_i h9
        simp only [Bool.and_eq_true, decide_eq_true_eq] at h9
        have := (betT_lt L p (pl_lt hL hpl) h9.1.1 a b h9.1.2 h9.2).1
        omega
      · simp [hq]
  | f+1, g+1, p, a, b, hp, h1, h2 => by
    unfold cntT
    by_cases hq : p = -1
    · simp [hq]
    · rw [if_neg hq, if_neg hq]
      have hpl : inB p 0 15 = true := by unfold linkB at hp; simpa [hq] using hp
      split
      · rename_i h9
        simp only [Bool.and_eq_true, decide_eq_true_eq] at h9
        have hm := betT_lt L p (pl_lt hL hpl) h9.1.1 a b h9.1.2 h9.2
        have hx := hA _ (List.getElem_mem (pl_lt hL hpl)) (by rw [← tw_eq L p (pl_lt hL hpl)]; exact h9.1.1)
        rw [← tw_eq L p (pl_lt hL hpl)] at hx
        rw [cntT_fuel L hL hA f g _ _ _ hx.1 (by omega) (by omega), cntT_fuel L hL hA f g _ _ _ hx.2 (by omega) (by omega)]
      · rfl
end Go.Proofs.Ytdgmbcmgjadoiaa
