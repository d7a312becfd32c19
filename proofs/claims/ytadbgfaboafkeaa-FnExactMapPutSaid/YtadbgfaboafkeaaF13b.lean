/- Chapter 13: a chain that is so leads nowhere else; the program's way to see it. -/
import Derived.Test.YtadbgfaboafkeaaF13
namespace Go.Proofs.Ytadbgfaboafkeaa
set_option maxRecDepth 100000
set_option linter.unusedVariables false
open Go.RowKit Go.Proofs Go.Own
open Go Go.BigFrame
def nodeOkI (n : Node) : Bool := match n.used_ with | true => nodeVal n && inB n.next_ (-1) 15 | false => nodeFree n
theorem full_of {α : Type} [DecidableEq α] : ∀ (vis U : List α), vis.Nodup → (∀ x, x ∈ vis → x ∈ U) → U.length ≤ vis.length → ∀ x, x ∈ U → x ∈ vis
  | [], U, _, _, hl, x, hx => by cases U with
    | nil => exact hx
    | cons a U => simp at hl
  | a :: vis, U, hn, hs, hl, x, hx => by
    by_cases hxa : x = a
    · exact hxa ▸ List.mem_cons_self
    · have ha := hs a List.mem_cons_self
      have hn2 := List.nodup_cons.1 hn
      refine List.mem_cons_of_mem _ (full_of vis (U.erase a) hn2.2 (fun y hy => ?_) ?_ x ?_)
      · exact (List.mem_erase_of_ne (fun e => hn2.1 (by rw [← e]; exact hy))).2 (hs y (List.mem_cons_of_mem _ hy))
      · rw [List.length_erase_of_mem ha]; simp at hl; omega
      · exact (List.mem_erase_of_ne hxa).2 hx
/-- The places that a chain comes to. -/
def visits (L : List Node) : Nat → Int → List Nat
  | 0, _ => []
  | u+1, p => p.toNat :: visits L u (nd L p).next_
theorem visits_len (L : List Node) : ∀ (u : Nat) (p : Int), (visits L u p).length = u
  | 0, _ => rfl
  | u+1, p => by simp [visits, visits_len L u]
theorem nd_nat (L : List Node) (p : Int) (h : 0 ≤ p) : nd L (p.toNat : Int) = nd L p := by unfold nd; rw [Int.toNat_natCast]
theorem visits_ok (L : List Node) : ∀ (u : Nat) (p t : Int), linkTo L u p t = true → (∀ k ∈ visits L u p, k < 16 ∧ (nd L k).used_ = true ∧ plOk (nd L k).next_ ∧ (0 ≤ t → (nd L t).key_ < (nd L k).key_)) ∧ (visits L u p).Nodup
  | 0, p, t, _ => ⟨by simp [visits], by simp [visits]⟩
  | u+1, p, t, h => by
    simp only [linkTo, Bool.and_eq_true] at h
    obtain ⟨⟨⟨h1, h2⟩, h3⟩, h4⟩ := h
    have hp : 0 ≤ p ∧ p ≤ 15 := by simpa [inB] using h1
    have ih := visits_ok L u _ _ h4
    have hup : ∀ k ∈ visits L u (nd L p).next_, (nd L p).key_ < (nd L k).key_ := fun k hk => (ih.1 k hk).2.2.2 hp.1
    have h5 : 0 ≤ t → (nd L t).key_ < (nd L p).key_ := fun ht => by
      unfold lastOk at h3
      simp only [Bool.or_eq_true, decide_eq_true_eq] at h3
      omega
    refine ⟨fun k hk => ?_, ?_⟩
    · rcases List.mem_cons.1 hk with rfl | hk
      · rw [nd_nat L p hp.1]
        exact ⟨by omega, h2, linkTo_pl h4, h5⟩
      · obtain ⟨a, b, c, d⟩ := ih.1 k hk
        exact ⟨a, b, c, fun ht => Int.lt_trans (h5 ht) (hup k hk)⟩
    · refine List.nodup_cons.2 ⟨fun hm => ?_, ih.2⟩
      have := hup _ hm
      rw [nd_nat L p hp.1] at this
      omega
theorem countP_range (L : List Node) : ∀ (n : Nat), n ≤ L.length → ((List.range n).filter (fun k : Nat => (nd L k).used_)).length = usedN (L.take n)
  | 0, _ => by simp [usedN]
  | n+1, h => by
    rw [List.range_succ, List.filter_append, List.length_append, countP_range L n (by omega), usedN_take L n (by omega)]
    have e : nd L (n : Int) = L[n] := nd_eq L n (by rw [Int.toNat_natCast]; omega)
    cases h9 : L[n].used_ <;> simp [e, h9]
theorem links_of (L : List Node) (hL : L.length = 16) (p : Int) (h : linkTo L (usedN L) p (-1) = true) (k : Nat) (hk : k < 16) (hu : (nd L k).used_ = true) : plOk (nd L k).next_ := by
  obtain ⟨h1, h2⟩ := visits_ok L (usedN L) p (-1) h
  have hm := full_of (visits L (usedN L) p) ((List.range 16).filter (fun k : Nat => (nd L k).used_)) h2 (fun x hx => by
    obtain ⟨a, b, _⟩ := h1 x hx
    simp [a, b]) (by
    rw [visits_len, countP_range L 16 (by omega), List.take_of_length_le (by omega)]; exact Nat.le_refl _) k (by simp [hk, hu])
  exact (h1 k hm).2.2.1
theorem plOk_in (p : Int) : inB p (-1) 15 = true ↔ plOk p := by
  unfold plOk; simp [inB]; omega
theorem chainOk_eq (c : ChainD) (hc : c.nodes_.length = 16) : chainOk c = (inB c.first_ (-1) 15 && c.nodes_.all nodeOkI && linkTo c.nodes_ (usedN c.nodes_) c.first_ (-1)) := by
  rw [Bool.eq_iff_iff]
  simp only [chainOk, Bool.and_eq_true, List.all_eq_true]
  constructor
  · rintro ⟨h1, h2⟩
    refine ⟨⟨(plOk_in _).2 (linkTo_pl h2), fun x hx => ?_⟩, h2⟩
    obtain ⟨k, hk, rfl⟩ := List.getElem_of_mem hx
    have h3 := h1 _ hx
    unfold nodeOk at h3
    unfold nodeOkI
    cases hu : c.nodes_[k].used_ with
    | false => rw [hu] at h3; exact h3
    | true =>
      rw [hu] at h3
      have e : nd c.nodes_ (k : Int) = c.nodes_[k] := nd_eq c.nodes_ k (by simpa using hk)
      have z := links_of c.nodes_ hc c.first_ h2 k (by omega) (by rw [e]; exact hu)
      rw [e] at z
      simp only [Bool.and_eq_true]
      exact ⟨h3, (plOk_in _).2 z⟩
  · rintro ⟨⟨_, h1⟩, h2⟩
    refine ⟨fun x hx => ?_, h2⟩
    have h3 := h1 x hx
    unfold nodeOkI at h3
    unfold nodeOk
    cases hu : x.used_ with
    | false => rw [hu] at h3; exact h3
    | true => rw [hu] at h3; simp only [Bool.and_eq_true] at h3; exact h3.1
/-- The same, by the last key. -/
def lkTo (L : List Node) : Nat → Int → Int → Bool
  | 0, p, _ => decide (p = -1)
  | u+1, p, t => inB p 0 15 && (nd L p).used_ && decide (t < (nd L p).key_) && lkTo L u (nd L p).next_ (nd L p).key_
def lkI (L : List Node) (u p t : Int) : Bool := if u < 0 then false else lkTo L u.toNat p t
theorem lk_eq (L : List Node) : ∀ (u : Nat) (p t : Int), 0 ≤ t → linkTo L u p t = lkTo L u p (nd L t).key_
  | 0, _, _, _ => rfl
  | u+1, p, t, ht => by
    have hl : lastOk L t p = decide ((nd L t).key_ < (nd L p).key_) := by
      unfold lastOk
      rw [show decide (t < 0) = false from decide_eq_false (by omega), Bool.false_or]
    simp only [linkTo, lkTo, hl]
    cases hp : inB p 0 15 with
    | false => simp
    | true =>
      have h2 : 0 ≤ p ∧ p ≤ 15 := by simpa [inB] using hp
      rw [lk_eq L u _ p h2.1]
theorem linksI {L : List Node} (h : L.all nodeOkI = true) (k : Nat) (hk : k < L.length) : plOk (nd L k).next_ ∧ ((nd L k).used_ = true → isVal (nd L k).key_ = true ∧ isVal (nd L k).value_ = true) := by
  rw [nd_eq L k (by simpa using hk)]
  rw [List.all_eq_true] at h
  have h3 := h _ (List.getElem_mem hk)
  simp only [Int.toNat_natCast]
  unfold nodeOkI at h3
  cases hu : L[k].used_ with
  | false =>
    rw [hu] at h3
    have : L[k].next_ = 0 := by simp [nodeFree] at h3; exact h3.2
    exact ⟨.inr (by omega), fun h => by cases h⟩
  | true =>
    rw [hu] at h3
    simp only [Bool.and_eq_true, nodeVal] at h3
    exact ⟨(plOk_in _).1 h3.2, fun _ => h3.1⟩
theorem lk_first {L : List Node} (hL : L.length = 16) (h : L.all nodeOkI = true) (u : Nat) (p : Int) : linkTo L u p (-1) = lkTo L u p (-1000000001) := by
  cases u with
  | zero => rfl
  | succ u =>
    simp only [linkTo, lkTo]
    cases hp : inB p 0 15 with
    | false => simp
    | true =>
      have h2 : 0 ≤ p ∧ p ≤ 15 := by simpa [inB] using hp
      rw [lk_eq L u _ p h2.1]
      cases hu : (nd L p).used_ with
      | false => simp
      | true =>
        have z := (linksI h p.toNat (by omega)).2
        rw [nd_nat L p h2.1] at z
        have z2 := isVal_iff (z hu).1
        rw [show decide ((-1000000001 : Int) < (nd L p).key_) = true from decide_eq_true (by omega)]
        simp [lastOk]
theorem lkI_end (L : List Node) (u t : Int) : lkI L u (-1) t = decide (u = 0) := by
  unfold lkI
  by_cases h : u < 0
  · rw [if_pos h]; simp; omega
  · rw [if_neg h]
    obtain ⟨n, rfl⟩ := Int.eq_ofNat_of_zero_le (show 0 ≤ u by omega)
    rw [Int.toNat_natCast]
    cases n with
    | zero => simp [lkTo]
    | succ n => simp [lkTo, inB]; omega
theorem lkI_no (L : List Node) (u p t : Int) (hp : ¬ p = -1) (h : (nd L p).used_ = false ∨ (nd L p).key_ ≤ t) : lkI L u p t = false := by
  unfold lkI
  split
  · rfl
  · cases u.toNat with
    | zero => simp [lkTo, hp]
    | succ n =>
      rcases h with h | h
      · simp [lkTo, h]
      · simp only [lkTo, show decide (t < (nd L p).key_) = false from decide_eq_false (by omega)]; simp
theorem lkI_on (L : List Node) (u p t : Int) (hp : 0 ≤ p ∧ p ≤ 15) (hu : (nd L p).used_ = true) (hk : ¬ (nd L p).key_ ≤ t) : lkI L u p t = lkI L (u - 1) (nd L p).next_ (nd L p).key_ := by
  unfold lkI
  by_cases h : u < 0
  · rw [if_pos h, if_pos (by omega)]
  · rw [if_neg h]
    obtain ⟨n, rfl⟩ := Int.eq_ofNat_of_zero_le (show 0 ≤ u by omega)
    rw [Int.toNat_natCast]
    cases n with
    | zero => simp [lkTo]; omega
    | succ n =>
      rw [if_neg (by omega), show ((n + 1 : Nat) : Int) - 1 = (n : Int) by omega, Int.toNat_natCast]
      simp only [lkTo, hu, show decide (t < (nd L p).key_) = true from decide_eq_true (by omega), show inB p 0 15 = true by simp [inB, hp]]
      simp
/-- Where the walk stands behind the places that it has been told. -/
def nextOf (L : List Node) (first : Int) (pre : List Nat) : Int := match pre.getLast? with | none => first | some k => (nd L k).next_
theorem nextOf_nil (L : List Node) (f : Int) : nextOf L f [] = f := rfl
theorem nextOf_snoc (L : List Node) (f : Int) (pre : List Nat) (k : Nat) : nextOf L f (pre ++ [k]) = (nd L k).next_ := by simp [nextOf]
theorem nextOf_pl {L : List Node} {f : Int} (hf : plOk f) (hl : ∀ k : Nat, plOk (nd L k).next_) (pre : List Nat) : plOk (nextOf L f pre) := by
  unfold nextOf
  split
  · exact hf
  · exact hl _
theorem all_links {L : List Node} (h : L.all nodeOkI = true) (k : Nat) : plOk (nd L k).next_ := by
  by_cases hk : k < L.length
  · exact (linksI h k hk).1
  · have : nd L (k : Int) = zNode := by unfold nd; rw [Int.toNat_natCast, List.getD_eq_getElem?_getD, List.getElem?_eq_none (by omega)]; rfl
    rw [this]; exact .inr (by simp [zNode])
end Go.Proofs.Ytadbgfaboafkeaa
