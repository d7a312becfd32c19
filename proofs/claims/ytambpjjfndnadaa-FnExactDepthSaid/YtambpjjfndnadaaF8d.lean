/- Chapter 8: what Depth answers. -/
import Derived.Test.YtambpjjfndnadaaF7d
namespace Go.Proofs.Ytambpjjfndnadaa
set_option maxRecDepth 100000
open Go.RowKit Go.Proofs Go.Own
/-- Who lies over an object's head, other than that one. -/
def wayH (hs : List Head) (d : Int) (e : Entry) : Bool := decide (0 ≤ (hAt hs e.object_).desc_) && !decide ((hAt hs e.object_).desc_ = d)
def wayGo (hs : List Head) (d : Int) : List Entry → Int
  | [] => -1
  | e :: es => if wayH hs d e = true then (hAt hs e.object_).desc_ else wayGo hs d es
def wayAt (hs : List Head) (d : Int) (es : List Entry) (k : Nat) : Int := wayGo hs d (es.drop k)
theorem wayAt_yes {hs : List Head} {d : Int} {es : List Entry} {k : Nat} (h : k < es.length) (hw : wayH hs d es[k] = true) : wayAt hs d es k = (hAt hs es[k].object_).desc_ := by
  unfold wayAt; rw [List.drop_eq_getElem_cons h]; exact if_pos hw
theorem wayAt_no {hs : List Head} {d : Int} {es : List Entry} {k : Nat} (h : k < es.length) (hw : wayH hs d es[k] = false) : wayAt hs d es k = wayAt hs d es (k+1) := by
  unfold wayAt; rw [List.drop_eq_getElem_cons h]; exact if_neg (by rw [hw]; simp)
theorem wayAt_end {hs : List Head} {d : Int} {es : List Entry} {k : Nat} (h : ¬ k < es.length) : wayAt hs d es k = -1 := by
  unfold wayAt; rw [List.drop_eq_nil_of_le (by omega)]; rfl
/-- From a descriptor on. -/
def wayOf (hs : List Head) (ds : List DescD) (d : Int) : Int := wayAt hs d (entsAt ds d) 0
theorem wayOf_in {hs : List Head} {ds : List DescD} (h : storeOk hs ds = true) {k : Nat} (hk : k < ds.length) : -1 ≤ wayOf hs ds k ∧ wayOf hs ds k < (ds.length : Int) := by
  unfold wayOf
  rw [entsAt_eq hk]
  have key : ∀ (n j : Nat), ds[k].entries_.length - j = n → -1 ≤ wayAt hs (k : Int) ds[k].entries_ j ∧ wayAt hs (k : Int) ds[k].entries_ j < (ds.length : Int) := by
    intro n
    induction n with
    | zero => intro j hj; rw [wayAt_end (by omega)]; omega
    | succ n ih =>
      intro j hj
      have hjl : j < ds[k].entries_.length := by omega
      cases hw : wayH hs k ds[k].entries_[j] with
      | true =>
        rw [wayAt_yes hjl hw]
        obtain ⟨o, ho, hol⟩ := cur_obj h hk hjl
        rw [ho, hAt_eq hol]
        have := (head_in h hol).2
        omega
      | false => rw [wayAt_no hjl hw]; exact ih (j+1) (by omega)
  exact key _ 0 rfl
/-- The way from a descriptor on; what is on it already. -/
def depthGo (hs : List Head) (ds : List DescD) : Nat → Int → List Int → List Int
  | 0, _, way => way
  | f+1, d, way => if 0 ≤ d ∧ ¬ d ∈ way then depthGo hs ds f (wayOf hs ds d) (way ++ [d]) else way
def depthC (hs : List Head) (ds : List DescD) (d : Int) : Int := if (storeOk hs ds && inB d 0 ((ds.length : Int) - 1)) = true then ((depthGo hs ds 61 d []).length : Int) else 0
theorem nodup_le : ∀ (n : Nat) (l : List Int), l.Nodup → (∀ x ∈ l, 0 ≤ x ∧ x < (n : Int)) → l.length ≤ n
  | 0, l, _, h => by
    cases l with
    | nil => simp
    | cons x l => have := h x (by simp); omega
  | n+1, l, hn, h => by
    have h1 := nodup_le n (l.erase (n : Int)) (hn.erase _) (fun x hx => by
      have hm := (List.Nodup.mem_erase_iff hn).1 hx
      have := h x hm.2
      have := hm.1
      omega)
    by_cases hm : (n : Int) ∈ l
    · rw [List.length_erase_of_mem hm] at h1; omega
    · rw [List.erase_of_not_mem hm] at h1; omega
/-- What has been reached on the way. -/
def WayAt (hs : List Head) (ds : List DescD) (d0 d : Int) (way : List Int) : Prop := way.Nodup ∧ (∀ x ∈ way, 0 ≤ x ∧ x < (ds.length : Int)) ∧ (-1 ≤ d ∧ d < (ds.length : Int)) ∧ depthGo hs ds 61 d0 [] = depthGo hs ds (61 - way.length) d way
theorem WayAt.zero {hs : List Head} {ds : List DescD} {d : Int} (h : 0 ≤ d ∧ d < (ds.length : Int)) : WayAt hs ds d d [] := ⟨List.nodup_nil, fun x hx => by simp at hx, by omega, rfl⟩
theorem WayAt.len {hs : List Head} {ds : List DescD} {d0 d : Int} {way : List Int} (h : WayAt hs ds d0 d way) : way.length ≤ ds.length := nodup_le _ _ h.1 h.2.1
theorem WayAt.step {hs : List Head} {ds : List DescD} {d0 d : Int} {way : List Int} (hs0 : storeOk hs ds = true) (h : WayAt hs ds d0 d way) (h0 : 0 ≤ d) (hm : ¬ d ∈ way) : WayAt hs ds d0 (wayOf hs ds d) (way ++ [d]) := by
  have hl := h.len
  have h60 := (storeOk_all hs0).2.1
  obtain ⟨h1, h2, h3, h4⟩ := h
  obtain ⟨k, hk⟩ := Int.eq_ofNat_of_zero_le h0
  have hw := wayOf_in hs0 (k := k) (by omega)
  rw [← hk] at hw
  refine ⟨List.nodup_append.2 ⟨h1, by simp, ?_⟩, fun x hx => ?_, hw, ?_⟩
  · intro a ha b hb
    simp only [List.mem_singleton] at hb
    subst hb
    intro e
    subst e
    exact hm ha
  · rcases List.mem_append.1 hx with h9 | h9
    · exact h2 x h9
    · simp only [List.mem_singleton] at h9; subst h9; omega
  · rw [h4, show 61 - way.length = (61 - (way ++ [d]).length) + 1 by rw [List.length_append]; simp; omega]
    exact if_pos ⟨h0, hm⟩
theorem WayAt.done {hs : List Head} {ds : List DescD} {d0 d : Int} {way : List Int} (hs0 : storeOk hs ds = true) (h : WayAt hs ds d0 d way) (he : ¬ (0 ≤ d ∧ ¬ d ∈ way)) : depthGo hs ds 61 d0 [] = way := by
  have hl := h.len
  have h60 := (storeOk_all hs0).2.1
  rw [h.2.2.2, show 61 - way.length = (60 - way.length) + 1 by omega]
  exact if_neg he
end Go.Proofs.Ytambpjjfndnadaa
