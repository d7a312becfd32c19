/- Chapter 7: what the program's own functions answer is what the chapter's do. -/
import Derived.Test.YtbbdchlabdilcaaF7
namespace Go.Proofs.Ytbbdchlabdilcaa
set_option maxRecDepth 100000
open Go.RowKit Go.Proofs Go.Own
def objIn (n : Nat) (e : Entry) : Bool := decide (0 ≤ e.object_) && decide (e.object_ < (n : Int))
theorem asc_le {xs : List Entry} (h : ascGo xs = true) : ∀ (d i : Nat), (hj : i + d < xs.length) → xs[i].object_ ≤ xs[i+d].object_
  | 0, i, hj => Int.le_refl _
  | d+1, i, hj => by
    have h1 := asc_le h d i (by omega)
    have h2 := ascGo_at xs h (i+d) (by omega)
    have e : xs[i+(d+1)] = xs[i+d+1] := rfl
    rw [e]; omega
theorem descIn_is {n : Nat} {d : DescD} : descIn n d = (descOk d.owner_ d.status_ d.entries_ && d.entries_.all (objIn n)) := by
  unfold descIn
  cases h : descOk d.owner_ d.status_ d.entries_ with
  | false => rfl
  | true =>
    rw [Bool.true_and, Bool.true_and]
    obtain ⟨h0, h6⟩ := descOk_len h
    have ho := descOk_open h
    have ha : ascGo d.entries_ = true := by unfold descOk at h; simp only [Bool.and_eq_true] at h; exact h.2
    have hl := lastO_eq (show d.entries_.length - 1 < d.entries_.length by omega)
    by_cases hge : (n : Int) ≤ lastO d.entries_
    · rw [decide_eq_true hge]
      symm
      rw [Bool.not_true, List.all_eq_false]
      refine ⟨d.entries_[d.entries_.length - 1], List.getElem_mem _, ?_⟩
      unfold objIn
      rw [← hl, decide_eq_false (show ¬ lastO d.entries_ < (n : Int) by omega), Bool.and_false]
      simp
    · rw [decide_eq_false hge]
      symm
      rw [Bool.not_false, List.all_eq_true]
      intro e he
      obtain ⟨i, hi, rfl⟩ := List.getElem_of_mem he
      have h1 := (entryOk_iff.1 (openOk_at ho i hi).1).1.1
      have h2 := asc_le ha (d.entries_.length - 1 - i) i (by omega)
      have e2 : i + (d.entries_.length - 1 - i) = d.entries_.length - 1 := by omega
      simp only [e2] at h2
      unfold objIn
      rw [decide_eq_true h1, decide_eq_true (show d.entries_[i].object_ < (n : Int) by omega)]
      rfl
/-- What may lie over an object. -/
def mayLie (ds : List DescD) (d : Int) (o : Int) : Bool := decide (d = -1) || (decide (0 ≤ d) && decide (d < (ds.length : Int)) && decide (0 ≤ placeC (entsAt ds d) o))
def headIn2 (ds : List DescD) (i : Nat) (h : Head) : Bool := isVal h.value_ && inB h.version_ 0 1000000 && mayLie ds h.desc_ i
theorem headIn_is {n : Nat} {ds : List DescD} (hd : ∀ i, (hi : i < ds.length) → descIn n ds[i] = true) (i : Nat) (h : Head) : headIn ds i h = headIn2 ds i h := by
  unfold headIn headIn2 mayLie
  rw [Bool.and_assoc (isVal h.value_ && inB h.version_ 0 1000000)]
  congr 1
  by_cases h1 : h.desc_ = -1
  · rw [h1]; simp [inB]; omega
  · by_cases h2 : 0 ≤ h.desc_
    · by_cases h3 : h.desc_ < (ds.length : Int)
      · obtain ⟨k, hk⟩ := Int.eq_ofNat_of_zero_le h2
        have hkl : k < ds.length := by omega
        have ho : openOk (entsAt ds h.desc_) = true := by
          rw [hk, entsAt_eq hkl]
          have := hd k hkl
          rw [descIn_is] at this
          simp only [Bool.and_eq_true] at this
          exact descOk_open this.1
        have e : openedC (entsAt ds h.desc_) i = placeC (entsAt ds h.desc_) i := by unfold openedC; rw [ho]; rfl
        rw [e]
        have hb : inB h.desc_ (-1) ((ds.length : Int) - 1) = true := by simp [inB]; omega
        rw [hb, decide_eq_true h2, decide_eq_true h3, decide_eq_false h1]
        by_cases h4 : placeC (entsAt ds h.desc_) i < 0
        · rw [decide_eq_true h4, decide_eq_false (by omega)]; rfl
        · rw [decide_eq_false h4, decide_eq_true (by omega)]; rfl
      · have hb : inB h.desc_ (-1) ((ds.length : Int) - 1) = false := by simp [inB]; omega
        rw [hb, decide_eq_false h3, decide_eq_false h1]; simp
    · have hb : inB h.desc_ (-1) ((ds.length : Int) - 1) = false := by simp [inB]; omega
      rw [hb, decide_eq_false h2, decide_eq_false h1]; simp
def headsGo2 (ds : List DescD) : List Head → Nat → Bool
  | [], _ => true
  | h :: hs, i => headIn2 ds i h && headsGo2 ds hs (i+1)
def headsAt2 (ds : List DescD) (hs : List Head) (k : Nat) : Bool := headsGo2 ds (hs.drop k) k
theorem headsAt2_step (ds : List DescD) (hs : List Head) (k : Nat) (h : k < hs.length) : headsAt2 ds hs k = (headIn2 ds k hs[k] && headsAt2 ds hs (k+1)) := by
  unfold headsAt2; rw [List.drop_eq_getElem_cons h]; rfl
theorem headsAt2_end (ds : List DescD) (hs : List Head) (k : Nat) (h : ¬ k < hs.length) : headsAt2 ds hs k = true := by
  unfold headsAt2; rw [List.drop_eq_nil_of_le (by omega)]; rfl
theorem headsGo_is {n : Nat} {ds : List DescD} (hd : ∀ i, (hi : i < ds.length) → descIn n ds[i] = true) : ∀ (hs : List Head) (i : Nat), headsGo ds hs i = headsGo2 ds hs i
  | [], _ => rfl
  | h :: hs, i => by
    unfold headsGo headsGo2
    rw [headIn_is hd, headsGo_is hd hs (i+1)]
theorem heads_is {n : Nat} {ds : List DescD} (hs : List Head) (h : ds.all (descIn n) = true) : headsAt ds hs 0 = headsAt2 ds hs 0 :=
  headsGo_is (fun i hi => List.all_eq_true.1 h _ (List.getElem_mem hi)) _ _
end Go.Proofs.Ytbbdchlabdilcaa
