/- Chapter 15: what a drop makes of a tree. -/
import Derived.Test.YtdgmbcmgjadoiaaF15a
namespace Go.Proofs.Ytdgmbcmgjadoiaa
set_option maxRecDepth 100000
open Go.RowKit Go.Proofs Go.Own
open Go Go.BigFrame
set_option linter.unusedVariables false
/-- A link holds a place. -/
def LocP (L : List Twig) (root : Int) (l : Nat) (p : Int) : Prop := (l = 64 ∧ root = p) ∨ ∃ k : Nat, k < 16 ∧ ((l = k * 4 + 2 ∧ (tw L k).left_ = p) ∨ (l = k * 4 + 3 ∧ (tw L k).right_ = p))
theorem LocP.C {L : List Twig} {root : Int} {l : Nat} {p : Int} (h : LocP L root l p) : LinkC l := by
  rcases h with ⟨h, _⟩ | ⟨k, hk, ⟨h, _⟩ | ⟨h, _⟩⟩
  · exact .inl h
  · exact .inr ⟨k, hk, .inl h⟩
  · exact .inr ⟨k, hk, .inr h⟩
/-- On to the least twig of a part: the link to it, its place, how many are opened. -/
def leastT (L : List Twig) : Nat → Nat → Int → Nat → Nat × Int × Nat
  | 0, l, q, n => (l, q, n)
  | f+1, l, q, n => if (tw L q).left_ < 0 then (l, q, n) else leastT L f (q.toNat * 4 + 2) (tw L q).left_ (n+1)
theorem leastT_ge (L : List Twig) : ∀ (f l : Nat) (q : Int) (n : Nat), n ≤ (leastT L f l q n).2.2
  | 0, l, q, n => Nat.le_refl _
  | f+1, l, q, n => by
    unfold leastT
    split
    · exact Nat.le_refl _
    · exact Nat.le_trans (Nat.le_succ n) (leastT_ge L f _ _ _)
/-- The program's way to it. -/
def goP (L : List Twig) : Nat → Nat → Int → Nat → Nat → Option (Nat × Nat)
  | 0, _, q, m, lw => if q = -1 then some (lw, m) else none
  | f+1, l, q, m, lw => if q = -1 then some (lw, m) else goP L f (q.toNat * 4 + 2) (tw L q).left_ (m+1) l
theorem goP_least (L : List Twig) : ∀ (f : Nat) (l : Nat) (q : Int) (xs : List Int) (m lw : Nat), Part L q xs → ¬ q = -1 → xs.length ≤ f → m ≤ 8 →
    goP L (8 - m) l q m lw = if (leastT L f l q (m+1)).2.2 ≤ 8 then some ((leastT L f l q (m+1)).1, (leastT L f l q (m+1)).2.2) else none
  | 0, l, q, xs, m, lw, hp, hq, hx, hm => by
    obtain ⟨ys, zs, _, _, _, _, rfl⟩ := hp.inv hq
    simp at hx
  | f+1, l, q, xs, m, lw, hp, hq, hx, hm => by
    obtain ⟨ys, zs, hi, hu, h3, h4, rfl⟩ := hp.inv hq
    simp only [List.length_append, List.length_cons] at hx
    have hg := leastT_ge L (f+1) l q (m+1)
    cases hgm : 8 - m with
    | zero =>
      rw [if_neg (by omega)]
      unfold goP
      rw [if_neg hq]
    | succ g =>
      unfold goP
      rw [if_neg hq]
      by_cases hl : (tw L q).left_ = -1
      · have e : leastT L (f+1) l q (m+1) = (l, q, m+1) := by unfold leastT; rw [if_pos (by omega)]
        rw [e, hl]
        dsimp only
        rw [if_pos (by omega)]
        cases g <;> simp [goP]
      · have hpl := (h3.inv hl)
        obtain ⟨_, _, hi2, _⟩ := hpl
        have := inB_nn hi2
        have e : leastT L (f+1) l q (m+1) = leastT L f (q.toNat * 4 + 2) (tw L q).left_ (m+1+1) := by rw [leastT, if_neg (by omega)]
        rw [e, show g = 8 - (m+1) by omega]
        exact goP_least L f _ _ ys (m+1) l h3 hl (by omega) (by omega)
def dropLeast (t : TreeD) (p : Int) (R : Nat × Int × Nat) : TreeD × Int :=
  if R.2.2 ≤ 8 then (hangT ⟨(t.twigs_.set p.toNat { tw t.twigs_ p with key_ := (tw t.twigs_ R.2.1).key_ }).set R.2.1.toNat zTwig, t.root_⟩ R.1 (tw t.twigs_ R.2.1).right_, 0) else (t, 2)
/-- What is done at the twig that has the key (place p, its link l, n opened). -/
def dropAt (t : TreeD) (l : Nat) (p : Int) (n : Nat) : TreeD × Int :=
  if ¬ (tw t.twigs_ p).left_ = -1 ∧ ¬ (tw t.twigs_ p).right_ = -1 then dropLeast t p (leastT t.twigs_ 16 (p.toNat * 4 + 3) (tw t.twigs_ p).right_ (n+1))
  else (hangT ⟨t.twigs_.set p.toNat zTwig, t.root_⟩ l (if (tw t.twigs_ p).left_ = -1 then (tw t.twigs_ p).right_ else (tw t.twigs_ p).left_), 0)
def dropC (t : TreeD) (key : Int) : TreeD × Int :=
  if (treeOk t && isVal key) = true then
    if codeW (wayC t key) = 4 then dropAt t (linkOf t.twigs_ key (wayC t key).1.dropLast) ((wayC t key).1.getLastD 0) (wayC t key).1.length
    else (t, codeW (wayC t key))
  else (t, 1)
theorem dropC_len (t : TreeD) (hL : t.twigs_.length = 16) (key : Int) : (dropC t key).1.twigs_.length = 16 := by
  unfold dropC dropAt dropLeast
  repeat' split
  all_goals first | exact hL | exact hangT_len (by simp [hL]) _ _
theorem hang_comm (L : List Twig) (root : Int) (l q : Nat) (x : Twig) (v : Int) (h : l = 64 ∨ ¬ l / 4 = q) : hangT ⟨L.set q x, root⟩ l v = ⟨(hangT ⟨L, root⟩ l v).twigs_.set q x, (hangT ⟨L, root⟩ l v).root_⟩ := by
  unfold hangT
  by_cases h1 : l = 64
  · rw [if_pos h1, if_pos h1]
  · have h2 : ¬ l / 4 = q := by rcases h with h | h; exact absurd h h1; exact h
    rw [if_neg h1, if_neg h1]
    dsimp only
    rw [tw_set_ne L q x ((l / 4 : Nat) : Int) (by rw [Int.toNat_natCast]; exact h2)]
    split
    · dsimp only
      rw [List.set_comm _ _ (fun e => h2 e.symm)]
    · dsimp only
      rw [List.set_comm _ _ (fun e => h2 e.symm)]
theorem treeOk_part2 {t : TreeD} (hL : t.twigs_.length = 16) (h : treeOk t = true) : ∃ xs, Part t.twigs_ t.root_ xs ∧ xs.length ≤ 16 ∧ xs.Nodup := by
  obtain ⟨_, xs, h1, h2, h3⟩ := (treeOk_iff t hL).1 h
  exact ⟨xs, h1, by have := usedT_le16 hL; omega, h2.nodup⟩
theorem nodup_split {xs ys : List Int} {p : Int} (h : (xs ++ p :: ys).Nodup) : xs.Nodup ∧ ys.Nodup ∧ ¬ p ∈ xs ∧ ¬ p ∈ ys := by
  have h1 := List.nodup_append.1 h
  have h2 := List.nodup_cons.1 h1.2.1
  exact ⟨h1.1, h2.2, fun hp => h1.2.2 p hp p (by simp) rfl, h2.1⟩
/-- A part's uppermost place is in its list. -/
theorem Part.mem {L : List Twig} {p : Int} {xs : List Int} (h : Part L p xs) (hp : ¬ p = -1) : p ∈ xs := by
  obtain ⟨ys, zs, _, _, _, _, rfl⟩ := h.inv hp
  simp
/-- Where the walk has found the key. -/
structure FoundAt (L : List Twig) (root key : Int) (W V : List Int) (q : Int) (zs : List Int) : Prop where
  way : W = V ++ [q]
  part : Part L q zs
  nodup : zs.Nodup
  len : zs.length ≤ 16
  ne : ¬ q = -1
  other : ∀ v ∈ V, ¬ v = q ∧ inB v 0 15 = true
  loc : LocP L root (linkOf L key V) q
theorem wayT_found (L : List Twig) (root key : Int) : ∀ (f : Nat) (p : Int) (way ys : List Int) (W : List Int) (o : Bool), Part L p ys → ys.Nodup → ys.length ≤ 16 → (∀ v ∈ way, ¬ v ∈ ys ∧ inB v 0 15 = true) → LocP L root (linkOf L key way) p → wayT L key f p way = (W, true, o) → ∃ V q zs, FoundAt L root key W V q zs
  | 0, p, way, ys, W, o, hp, hn, hl, hw, hloc, h => by simp [wayT] at h
  | f+1, p, way, ys, W, o, hp, hn, hl, hw, hloc, h => by
    unfold wayT at h
    by_cases hq : p = -1
    · simp [hq] at h
    · rw [if_neg hq] at h
      obtain ⟨xs, zs, hi, hu, h3, h4, rfl⟩ := hp.inv hq
      have hpi := inB_nn hi
      obtain ⟨n1, n2, n3, n4⟩ := nodup_split hn
      simp only [List.length_append, List.length_cons] at hl
      by_cases hk : (tw L p).key_ = key
      · rw [if_pos hk] at h
        simp only [Prod.mk.injEq] at h
        exact ⟨way, p, xs ++ p :: zs, h.1.symm, hp, hn, by simp; omega, hq, fun v hv => ⟨fun e => (hw v hv).1 (by rw [e]; simp), (hw v hv).2⟩, hloc⟩
      · rw [if_neg hk] at h
        by_cases hlt : key < (tw L p).key_
        · rw [if_pos hlt] at h
          refine wayT_found L root key f _ (way ++ [p]) xs W o h3 n1 (by omega) (fun v hv => ?_) ?_ h
          · rcases List.mem_append.1 hv with hv | hv
            · exact ⟨fun e => (hw v hv).1 (by simp [e]), (hw v hv).2⟩
            · simp at hv; subst hv; exact ⟨n3, hi⟩
          · rw [linkOf_snoc, if_pos hlt]
            exact .inr ⟨p.toNat, by omega, .inl ⟨rfl, by rw [show ((p.toNat : Nat) : Int) = p by omega]⟩⟩
        · rw [if_neg hlt] at h
          refine wayT_found L root key f _ (way ++ [p]) zs W o h4 n2 (by omega) (fun v hv => ?_) ?_ h
          · rcases List.mem_append.1 hv with hv | hv
            · exact ⟨fun e => (hw v hv).1 (by simp [e]), (hw v hv).2⟩
            · simp at hv; subst hv; exact ⟨n4, hi⟩
          · rw [linkOf_snoc, if_neg hlt]
            exact .inr ⟨p.toNat, by omega, .inr ⟨rfl, by rw [show ((p.toNat : Nat) : Int) = p by omega]⟩⟩
theorem way_found {t : TreeD} (hL : t.twigs_.length = 16) (hok : treeOk t = true) {key : Int} {W : List Int} {o : Bool} (h : wayC t key = (W, true, o)) : ∃ V q zs, FoundAt t.twigs_ t.root_ key W V q zs := by
  obtain ⟨xs, h1, h2, h3⟩ := treeOk_part2 hL hok
  exact wayT_found t.twigs_ t.root_ key 8 t.root_ [] xs W o h1 h3 h2 (by simp) (.inl ⟨rfl, rfl⟩) h
theorem link_div {L : List Twig} {key : Int} {V : List Int} {q : Int} (hq : inB q 0 15 = true) (h : ∀ v ∈ V, ¬ v = q ∧ inB v 0 15 = true) : linkOf L key V = 64 ∨ ¬ linkOf L key V / 4 = q.toNat := by
  unfold linkOf
  cases hg : V.getLast? with
  | none => exact .inl rfl
  | some u =>
    have hu := h u (List.mem_of_getLast? hg)
    have h1 := inB_nn hu.2
    have h2 := inB_nn hq
    refine .inr ?_
    dsimp only
    have h3 := hu.1
    split <;> omega
/-- Where the way to the least twig ends: another twig's link leads to it. -/
theorem leastT_end (L : List Twig) (root : Int) (p : Int) (hp : inB p 0 15 = true) : ∀ (f l : Nat) (q : Int) (xs : List Int) (n : Nat), Part L q xs → ¬ q = -1 → xs.Nodup → xs.length ≤ f → ¬ p ∈ xs → LocP L root l q → ¬ l = 64 → (l = p.toNat * 4 + 3 ∨ ∃ u : Int, ¬ u = p ∧ inB u 0 15 = true ∧ ¬ u ∈ xs ∧ l = u.toNat * 4 + 2) →
    (inB (leastT L f l q n).2.1 0 15 = true ∧ ¬ (leastT L f l q n).2.1 = p ∧ (tw L (leastT L f l q n).2.1).left_ = -1 ∧ LocP L root (leastT L f l q n).1 (leastT L f l q n).2.1 ∧ ¬ (leastT L f l q n).1 = 64 ∧ ¬ (leastT L f l q n).1 / 4 = (leastT L f l q n).2.1.toNat ∧ linkB (tw L (leastT L f l q n).2.1).right_ = true)
  | 0, l, q, xs, n, h, hq, _, hx, _, _, _, _ => by
    obtain ⟨ys, zs, _, _, _, _, rfl⟩ := h.inv hq
    simp at hx
  | f+1, l, q, xs, n, h, hq, hn, hx, hpx, hloc, hl, hlu => by
    have hm := h.mem hq
    obtain ⟨ys, zs, hi, hu, h3, h4, rfl⟩ := h.inv hq
    simp only [List.length_append, List.length_cons] at hx
    obtain ⟨n1, n2, n3, n4⟩ := nodup_split hn
    have hqi := inB_nn hi
    have hpi := inB_nn hp
    have hqp : ¬ q = p := fun e => hpx (by rw [← e]; exact hm)
    unfold leastT
    by_cases hle : (tw L q).left_ = -1
    · rw [hle, if_pos (by omega)]
      refine ⟨hi, hqp, hle, hloc, hl, ?_, part_link h4⟩
      rcases hlu with rfl | ⟨u, hu1, hu2, hu3, rfl⟩
      · dsimp only; omega
      · have := inB_nn hu2
        have : ¬ u = q := fun e => hu3 (by rw [e]; exact hm)
        dsimp only; omega
    · obtain ⟨_, _, hi2, _⟩ := h3.inv hle
      have := inB_nn hi2
      rw [if_neg (by omega)]
      refine leastT_end L root p hp f (q.toNat * 4 + 2) (tw L q).left_ ys (n+1) h3 hle n1 (by omega) (fun e => hpx (by simp [e])) (.inr ⟨q.toNat, by omega, .inl ⟨rfl, by rw [show ((q.toNat : Nat) : Int) = q by omega]⟩⟩) (by omega) (.inr ⟨q, hqp, hi, n3, rfl⟩)
end Go.Proofs.Ytdgmbcmgjadoiaa
