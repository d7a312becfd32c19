/- Chapter 15: what an add makes of a tree. -/
import Derived.Test.YtdgmbcmgjadoiaaF15w
namespace Go.Proofs.Ytdgmbcmgjadoiaa
set_option maxRecDepth 100000
open Go.RowKit Go.Proofs Go.Own
open Go Go.BigFrame
set_option linter.unusedVariables false
/-- The first place from k on whose twig is not used, else -1. -/
def freeFromT : List Twig → Nat → Int
  | [], _ => -1
  | x :: L, k => if x.used_ = true then freeFromT L (k+1) else (k : Int)
def freeT (L : List Twig) : Int := freeFromT L 0
theorem freeFromT_drop (L : List Twig) (k : Nat) (h : k < L.length) : freeFromT (L.drop k) k = if L[k].used_ = true then freeFromT (L.drop (k+1)) (k+1) else (k : Int) := by
  rw [List.drop_eq_getElem_cons h]; rfl
theorem freeFromT_in : ∀ (L : List Twig) (k : Nat), freeFromT L k = -1 ∨ ∃ (j : Nat) (h : j < L.length), freeFromT L k = ((k + j : Nat) : Int) ∧ L[j].used_ = false
  | [], _ => .inl rfl
  | x :: L, k => by
    unfold freeFromT
    split
    · rcases freeFromT_in L (k+1) with h | ⟨j, h, hj, hu⟩
      · exact .inl h
      · exact .inr ⟨j + 1, by simp; omega, by rw [hj]; congr 1; omega, by simpa using hu⟩
    · rename_i hx
      exact .inr ⟨0, by simp, rfl, by simpa using hx⟩
theorem freeT_in {L : List Twig} (hL : L.length = 16) : freeT L = -1 ∨ ∃ (j : Nat), freeT L = (j : Int) ∧ j < 16 ∧ (tw L (j : Int)).used_ = false := by
  rcases freeFromT_in L 0 with h | ⟨j, h, hj, hu⟩
  · exact .inl h
  · exact .inr ⟨j, by unfold freeT; rw [hj]; simp, by omega, by rw [tw_eq L (j : Int) (by rw [Int.toNat_natCast]; exact h)]; exact hu⟩
/-- A place hung at a link. -/
def hangT (t : TreeD) (l : Nat) (v : Int) : TreeD :=
  if l = 64 then ⟨t.twigs_, v⟩
  else if l % 4 = 2 then ⟨t.twigs_.set (l / 4) { tw t.twigs_ (l / 4 : Nat) with left_ := v }, t.root_⟩
  else ⟨t.twigs_.set (l / 4) { tw t.twigs_ (l / 4 : Nat) with right_ := v }, t.root_⟩
/-- The cell of a link. -/
def LinkC (l : Nat) : Prop := l = 64 ∨ ∃ k : Nat, k < 16 ∧ (l = k * 4 + 2 ∨ l = k * 4 + 3)
theorem LinkC.lt {l : Nat} (h : LinkC l) : l < 65 := by rcases h with h | ⟨k, hk, h | h⟩ <;> omega
theorem set_leftT : ∀ (L : List Twig) (k : Nat) (h : k < L.length) (v : Int), (L.flatMap Twig.enc).set (k * 4 + 2) (.int .i64 v) = (L.set k { L[k] with left_ := v }).flatMap Twig.enc
  | x :: L, 0, h, v => by simp [Twig.enc]
  | x :: L, k+1, h, v => by
    have ih := set_leftT L k (by simpa using h) v
    rw [List.flatMap_cons, List.set_cons_succ, List.flatMap_cons, List.set_append_right _ _ (by show 4 ≤ _; omega), List.getElem_cons_succ, ← ih, show (k + 1) * 4 + 2 - (Twig.enc x).length = k * 4 + 2 from by show (k + 1) * 4 + 2 - 4 = _; omega]
theorem set_rightT : ∀ (L : List Twig) (k : Nat) (h : k < L.length) (v : Int), (L.flatMap Twig.enc).set (k * 4 + 3) (.int .i64 v) = (L.set k { L[k] with right_ := v }).flatMap Twig.enc
  | x :: L, 0, h, v => by simp [Twig.enc]
  | x :: L, k+1, h, v => by
    have ih := set_rightT L k (by simpa using h) v
    rw [List.flatMap_cons, List.set_cons_succ, List.flatMap_cons, List.set_append_right _ _ (by show 4 ≤ _; omega), List.getElem_cons_succ, ← ih, show (k + 1) * 4 + 3 - (Twig.enc x).length = k * 4 + 3 from by show (k + 1) * 4 + 3 - 4 = _; omega]
theorem set_keyT : ∀ (L : List Twig) (k : Nat) (h : k < L.length) (v : Int), (L.flatMap Twig.enc).set (k * 4 + 1) (.int .i64 v) = (L.set k { L[k] with key_ := v }).flatMap Twig.enc
  | x :: L, 0, h, v => by simp [Twig.enc]
  | x :: L, k+1, h, v => by
    have ih := set_keyT L k (by simpa using h) v
    rw [List.flatMap_cons, List.set_cons_succ, List.flatMap_cons, List.set_append_right _ _ (by show 4 ≤ _; omega), List.getElem_cons_succ, ← ih, show (k + 1) * 4 + 1 - (Twig.enc x).length = k * 4 + 1 from by show (k + 1) * 4 + 1 - 4 = _; omega]
theorem enc_hang (L : List Twig) (hL : L.length = 16) (r : Int) (l : Nat) (h : LinkC l) (v : Int) : (TreeD.enc ⟨L, r⟩).set l (.int .i64 v) = (hangT ⟨L, r⟩ l v).enc := by
  have hl : (L.flatMap Twig.enc).length = 64 := by rw [twigs_len, hL]
  rcases h with rfl | ⟨k, hk, rfl | rfl⟩
  · unfold hangT TreeD.enc
    rw [if_pos rfl]
    dsimp only
    rw [List.set_append_right _ _ (by omega), hl]; rfl
  · unfold hangT
    rw [if_neg (by omega), if_pos (by omega), show (k * 4 + 2) / 4 = k by omega]
    unfold TreeD.enc
    dsimp only
    rw [List.set_append_left _ _ (by omega), set_leftT L k (by omega), tw_eq L (k : Int) (by rw [Int.toNat_natCast]; omega)]; rfl
  · unfold hangT
    rw [if_neg (by omega), if_neg (by omega), show (k * 4 + 3) / 4 = k by omega]
    unfold TreeD.enc
    dsimp only
    rw [List.set_append_left _ _ (by omega), set_rightT L k (by omega), tw_eq L (k : Int) (by rw [Int.toNat_natCast]; omega)]; rfl
theorem hangT_len {t : TreeD} (hL : t.twigs_.length = 16) (l : Nat) (v : Int) : (hangT t l v).twigs_.length = 16 := by
  unfold hangT
  repeat' split
  all_goals simp [hL]
theorem linkOf_C {L : List Twig} {key : Int} {W : List Int} (h : ∀ q ∈ W, inB q 0 15 = true) : LinkC (linkOf L key W) := by
  unfold linkOf
  cases hg : W.getLast? with
  | none => exact .inl rfl
  | some q =>
    have hq := inB_nn (h q (List.mem_of_getLast? hg))
    dsimp only
    split
    · exact .inr ⟨q.toNat, by omega, .inl rfl⟩
    · exact .inr ⟨q.toNat, by omega, .inr rfl⟩
theorem linkOf_set {L : List Twig} {key : Int} {W : List Int} (f : Nat) (x : Twig) (h : ∀ q ∈ W, inB q 0 15 = true ∧ (tw L q).used_ = true) (hf : (tw L (f : Int)).used_ = false) : linkOf (L.set f x) key W = linkOf L key W := by
  unfold linkOf
  cases hg : W.getLast? with
  | none => rfl
  | some q =>
    have hq := h q (List.mem_of_getLast? hg)
    have hq2 := inB_nn hq.1
    dsimp only
    rw [tw_set_ne L f x q (fun e => by
      rw [show (f : Int) = q by omega, hq.2] at hf; cases hf)]
def addC (t : TreeD) (key : Int) : TreeD × Int :=
  if (treeOk t && isVal key) = true then
    if codeW (wayC t key) = 5 then
      if freeT t.twigs_ = -1 then (t, 3)
      else (hangT ⟨t.twigs_.set (freeT t.twigs_).toNat ⟨true, key, -1, -1⟩, t.root_⟩ (linkOf t.twigs_ key (wayC t key).1) (freeT t.twigs_), 0)
    else (t, codeW (wayC t key))
  else (t, 1)
theorem addC_len (t : TreeD) (hL : t.twigs_.length = 16) (key : Int) : (addC t key).1.twigs_.length = 16 := by
  unfold addC
  repeat' split
  all_goals first | exact hL | exact hangT_len (by simp [hL]) _ _
end Go.Proofs.Ytdgmbcmgjadoiaa
