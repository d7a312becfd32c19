/- Chapter 7: what its functions answer. -/
import Derived.Test.YtbbdchlabdilcaaGreatF6
import Derived.Test.YtbbdchlabdilcaaGreatN7
namespace Go.Proofs.YtbbdchlabdilcaaGreat
set_option maxRecDepth 100000
open Go.RowKit Go.Proofs Go.Own
theorem all_step {α : Type} (f : α → Bool) (xs : List α) (k : Nat) (h : k < xs.length) : (xs.drop k).all f = (f xs[k] && (xs.drop (k+1)).all f) := by
  rw [List.drop_eq_getElem_cons h]; rfl
theorem all_end {α : Type} (f : α → Bool) (xs : List α) (k : Nat) (h : ¬ k < xs.length) : (xs.drop k).all f = true := by
  rw [List.drop_eq_nil_of_le (by omega)]; rfl
/-- The object of a list's last entry. -/
def lastO (xs : List Entry) : Int := match xs[xs.length - 1]? with | some e => e.object_ | none => 0
theorem lastO_eq {xs : List Entry} (h : xs.length - 1 < xs.length) : lastO xs = xs[xs.length - 1].object_ := by
  unfold lastO; rw [List.getElem?_eq_getElem h]
def descIn (n : Nat) (d : DescD) : Bool := descOk d.owner_ d.status_ d.entries_ && !decide ((n : Int) ≤ lastO d.entries_)
theorem descIn_ok {n : Nat} {d : DescD} (h : descOk d.owner_ d.status_ d.entries_ = true) : descIn n d = !decide ((n : Int) ≤ lastO d.entries_) := by unfold descIn; rw [h]; rfl
theorem descIn_no {n : Nat} {d : DescD} (h : descOk d.owner_ d.status_ d.entries_ = false) : descIn n d = false := by unfold descIn; rw [h]; rfl
theorem descOk_len {ow st : Int} {xs : List Entry} (h : descOk ow st xs = true) : 0 < xs.length ∧ xs.length ≤ 6 := by
  have h2 := openOk_len (descOk_open h)
  unfold descOk at h
  simp only [Bool.and_eq_true, decide_eq_true_eq] at h
  exact ⟨h.1.1.2, h2⟩
/-- The entries of the descriptor at a place. -/
def entsAt (ds : List DescD) (k : Int) : List Entry := match ds[k.toNat]? with | some d => d.entries_ | none => []
theorem entsAt_eq {ds : List DescD} {k : Nat} (h : k < ds.length) : entsAt ds k = ds[k].entries_ := by
  unfold entsAt; rw [Int.toNat_natCast, List.getElem?_eq_getElem h]
def headIn (ds : List DescD) (i : Nat) (h : Head) : Bool := isVal h.value_ && inB h.version_ 0 1000000 && inB h.desc_ (-1) ((ds.length : Int) - 1) && !(decide (0 ≤ h.desc_) && decide (openedC (entsAt ds h.desc_) i < 0))
def headsGo (ds : List DescD) : List Head → Nat → Bool
  | [], _ => true
  | h :: hs, i => headIn ds i h && headsGo ds hs (i+1)
def headsAt (ds : List DescD) (hs : List Head) (k : Nat) : Bool := headsGo ds (hs.drop k) k
theorem headsAt_step (ds : List DescD) (hs : List Head) (k : Nat) (h : k < hs.length) : headsAt ds hs k = (headIn ds k hs[k] && headsAt ds hs (k+1)) := by
  unfold headsAt; rw [List.drop_eq_getElem_cons h]; rfl
theorem headsAt_end (ds : List DescD) (hs : List Head) (k : Nat) (h : ¬ k < hs.length) : headsAt ds hs k = true := by
  unfold headsAt; rw [List.drop_eq_nil_of_le (by omega)]; rfl
def storeOk (hs : List Head) (ds : List DescD) : Bool := inB (hs.length : Int) 1 8 && !decide ((60 : Int) < ds.length) && ds.all (descIn hs.length) && headsAt ds hs 0
theorem storeOk_all {hs : List Head} {ds : List DescD} (h : storeOk hs ds = true) : (1 ≤ hs.length ∧ hs.length ≤ 8) ∧ ds.length ≤ 60 ∧ (∀ i, (hi : i < ds.length) → descIn hs.length ds[i] = true) ∧ ∀ i, (hi : i < hs.length) → headIn ds i hs[i] = true := by
  unfold storeOk at h
  simp only [Bool.and_eq_true, Bool.not_eq_true', decide_eq_false_iff_not, List.all_eq_true] at h
  obtain ⟨⟨⟨h1, h2⟩, h3⟩, h4⟩ := h
  have h5 : (1 : Int) ≤ hs.length ∧ (hs.length : Int) ≤ 8 := by simpa [inB] using h1
  refine ⟨by omega, by omega, fun i hi => h3 _ (List.getElem_mem hi), fun i hi => ?_⟩
  have : ∀ (k : Nat), k ≤ hs.length → headsAt ds hs k = true := by
    intro k
    induction k with
    | zero => intro _; exact h4
    | succ k ih =>
      intro hk
      have := ih (by omega)
      rw [headsAt_step ds hs k (by omega)] at this
      simp only [Bool.and_eq_true] at this
      exact this.2
  have h6 := this i (by omega)
  rw [headsAt_step ds hs i hi] at h6
  simp only [Bool.and_eq_true] at h6
  exact h6.1
/-- What a look tells. -/
def lookOk (hs : List Head) (ds : List DescD) (o : Int) : Bool := storeOk hs ds && inB o 0 ((hs.length : Int) - 1)
def lookH (hs : List Head) (ds : List DescD) (o : Int) : Head := if lookOk hs ds o = true then (match hs[o.toNat]? with | some h => h | none => ⟨0, 0, 0⟩) else ⟨0, 0, 0⟩
theorem lookH_no {hs : List Head} {ds : List DescD} {o : Int} (h : lookOk hs ds o = false) : lookH hs ds o = ⟨0, 0, 0⟩ := by unfold lookH; rw [h]; rfl
theorem lookH_yes {hs : List Head} {ds : List DescD} {k : Nat} (h : lookOk hs ds k = true) (hk : k < hs.length) : lookH hs ds k = hs[k] := by
  unfold lookH; rw [h, if_pos rfl, Int.toNat_natCast, List.getElem?_eq_getElem hk]
/-- A frame that is so. -/
def frameOk (hs : List Head) (ds : List DescD) (f : Frame) : Bool := storeOk hs ds && inB f.desc_ 0 ((ds.length : Int) - 1) && inB f.phase_ 0 5 && (if f.phase_ = 1 ∨ f.phase_ = 4 then inB f.at_ 0 (((entsAt ds f.desc_).length : Int) - 1) else decide (f.at_ = 0))
/-- The objects that are held, of the first k. -/
def heldTo (hs : List Head) : Nat → List Int
  | 0 => []
  | k+1 => heldTo hs k ++ (match hs[k]? with | some h => if 0 ≤ h.desc_ then [(k : Int)] else [] | none => [])
theorem heldTo_yes {hs : List Head} {k : Nat} (h : k < hs.length) (hd : 0 ≤ hs[k].desc_) : heldTo hs (k+1) = heldTo hs k ++ [(k : Int)] := by
  show _ ++ (match hs[k]? with | some h => if 0 ≤ h.desc_ then [(k : Int)] else [] | none => []) = _
  rw [List.getElem?_eq_getElem h]; simp [hd]
theorem heldTo_no {hs : List Head} {k : Nat} (h : k < hs.length) (hd : ¬ 0 ≤ hs[k].desc_) : heldTo hs (k+1) = heldTo hs k := by
  show _ ++ (match hs[k]? with | some h => if 0 ≤ h.desc_ then [(k : Int)] else [] | none => []) = _
  rw [List.getElem?_eq_getElem h]; simp [hd]
theorem heldTo_len (hs : List Head) : ∀ k, (heldTo hs k).length ≤ k
  | 0 => by simp [heldTo]
  | k+1 => by
    have := heldTo_len hs k
    unfold heldTo
    rw [List.length_append]
    split
    · split <;> simp <;> omega
    · simp; omega
def heldC (hs : List Head) (ds : List DescD) : List Int := if storeOk hs ds = true then heldTo hs hs.length else []
theorem heldC_len (hs : List Head) (ds : List DescD) : (heldC hs ds).length ≤ 8 := by
  unfold heldC
  split
  · rename_i h
    have h1 := (storeOk_all h).1.2
    have h2 := heldTo_len hs hs.length
    omega
  · simp
/-- On to the next entry, or to the phase behind the last. -/
def nextF (ds : List DescD) (f : Frame) (b : Int) : Frame := if f.at_ + 1 < ((entsAt ds f.desc_).length : Int) then ⟨f.desc_, f.phase_, f.at_ + 1⟩ else ⟨f.desc_, b, 0⟩
/-- A store made anew. -/
def newOk (xs : List Int) : Bool := inB (xs.length : Int) 1 8 && allIn xs (-1000000000) 1000000000 0
def mkHd (x : Int) : Head := ⟨x, 0, -1⟩
def newH (xs : List Int) : List Head := if newOk xs = true then xs.map mkHd else []
end Go.Proofs.YtbbdchlabdilcaaGreat
/- Chapter 7: what the program's own functions answer is what the chapter's do. -/
namespace Go.Proofs.YtbbdchlabdilcaaGreat
set_option maxRecDepth 100000
open Go.RowKit Go.Proofs Go.Own
def objIn (n : Nat) (e : Entry) : Bool := decide (0 ≤ e.object_) && decide (e.object_ < (n : Int))
theorem asc_le {xs : List Entry} (h : ascGo xs = true) : ∀ (d i : Nat), (hj : i + d < xs.length) → xs[i].object_ ≤ xs[i+d].object_
  | 0, i, hj => Int.le_refl _
  | d+1, i, hj => by
    have h1 := asc_le h d i (by omega)
    have h2 := ascGo_at xs h (i+d) (by omega)
    have e : xs[i+(d+1)] = xs[i+d+1] := rfl
    rw [e]; omega
theorem descIn_is {n : Nat} {d : DescD} : descIn n d = (descOk d.owner_ d.status_ d.entries_ && d.entries_.all (objIn n)) := by
  unfold descIn
  cases h : descOk d.owner_ d.status_ d.entries_ with
  | false => rfl
  | true =>
    rw [Bool.true_and, Bool.true_and]
    obtain ⟨h0, h6⟩ := descOk_len h
    have ho := descOk_open h
    have ha : ascGo d.entries_ = true := by unfold descOk at h; simp only [Bool.and_eq_true] at h; exact h.2
    have hl := lastO_eq (show d.entries_.length - 1 < d.entries_.length by omega)
    by_cases hge : (n : Int) ≤ lastO d.entries_
    · rw [decide_eq_true hge]
      symm
      rw [Bool.not_true, List.all_eq_false]
      refine ⟨d.entries_[d.entries_.length - 1], List.getElem_mem _, ?_⟩
      unfold objIn
      rw [← hl, decide_eq_false (show ¬ lastO d.entries_ < (n : Int) by omega), Bool.and_false]
      simp
    · rw [decide_eq_false hge]
      symm
      rw [Bool.not_false, List.all_eq_true]
      intro e he
      obtain ⟨i, hi, rfl⟩ := List.getElem_of_mem he
      have h1 := (entryOk_iff.1 (openOk_at ho i hi).1).1.1
      have h2 := asc_le ha (d.entries_.length - 1 - i) i (by omega)
      have e2 : i + (d.entries_.length - 1 - i) = d.entries_.length - 1 := by omega
      simp only [e2] at h2
      unfold objIn
      rw [decide_eq_true h1, decide_eq_true (show d.entries_[i].object_ < (n : Int) by omega)]
      rfl
/-- What may lie over an object. -/
def mayLie (ds : List DescD) (d : Int) (o : Int) : Bool := decide (d = -1) || (decide (0 ≤ d) && decide (d < (ds.length : Int)) && decide (0 ≤ placeC (entsAt ds d) o))
def headIn2 (ds : List DescD) (i : Nat) (h : Head) : Bool := isVal h.value_ && inB h.version_ 0 1000000 && mayLie ds h.desc_ i
theorem headIn_is {n : Nat} {ds : List DescD} (hd : ∀ i, (hi : i < ds.length) → descIn n ds[i] = true) (i : Nat) (h : Head) : headIn ds i h = headIn2 ds i h := by
  unfold headIn headIn2 mayLie
  rw [Bool.and_assoc (isVal h.value_ && inB h.version_ 0 1000000)]
  congr 1
  by_cases h1 : h.desc_ = -1
  · rw [h1]; simp [inB]; omega
  · by_cases h2 : 0 ≤ h.desc_
    · by_cases h3 : h.desc_ < (ds.length : Int)
      · obtain ⟨k, hk⟩ := Int.eq_ofNat_of_zero_le h2
        have hkl : k < ds.length := by omega
        have ho : openOk (entsAt ds h.desc_) = true := by
          rw [hk, entsAt_eq hkl]
          have := hd k hkl
          rw [descIn_is] at this
          simp only [Bool.and_eq_true] at this
          exact descOk_open this.1
        have e : openedC (entsAt ds h.desc_) i = placeC (entsAt ds h.desc_) i := by unfold openedC; rw [ho]; rfl
        rw [e]
        have hb : inB h.desc_ (-1) ((ds.length : Int) - 1) = true := by simp [inB]; omega
        rw [hb, decide_eq_true h2, decide_eq_true h3, decide_eq_false h1]
        by_cases h4 : placeC (entsAt ds h.desc_) i < 0
        · rw [decide_eq_true h4, decide_eq_false (by omega)]; rfl
        · rw [decide_eq_false h4, decide_eq_true (by omega)]; rfl
      · have hb : inB h.desc_ (-1) ((ds.length : Int) - 1) = false := by simp [inB]; omega
        rw [hb, decide_eq_false h3, decide_eq_false h1]; simp
    · have hb : inB h.desc_ (-1) ((ds.length : Int) - 1) = false := by simp [inB]; omega
      rw [hb, decide_eq_false h2, decide_eq_false h1]; simp
def headsGo2 (ds : List DescD) : List Head → Nat → Bool
  | [], _ => true
  | h :: hs, i => headIn2 ds i h && headsGo2 ds hs (i+1)
def headsAt2 (ds : List DescD) (hs : List Head) (k : Nat) : Bool := headsGo2 ds (hs.drop k) k
theorem headsAt2_step (ds : List DescD) (hs : List Head) (k : Nat) (h : k < hs.length) : headsAt2 ds hs k = (headIn2 ds k hs[k] && headsAt2 ds hs (k+1)) := by
  unfold headsAt2; rw [List.drop_eq_getElem_cons h]; rfl
theorem headsAt2_end (ds : List DescD) (hs : List Head) (k : Nat) (h : ¬ k < hs.length) : headsAt2 ds hs k = true := by
  unfold headsAt2; rw [List.drop_eq_nil_of_le (by omega)]; rfl
theorem headsGo_is {n : Nat} {ds : List DescD} (hd : ∀ i, (hi : i < ds.length) → descIn n ds[i] = true) : ∀ (hs : List Head) (i : Nat), headsGo ds hs i = headsGo2 ds hs i
  | [], _ => rfl
  | h :: hs, i => by
    unfold headsGo headsGo2
    rw [headIn_is hd, headsGo_is hd hs (i+1)]
theorem heads_is {n : Nat} {ds : List DescD} (hs : List Head) (h : ds.all (descIn n) = true) : headsAt ds hs 0 = headsAt2 ds hs 0 :=
  headsGo_is (fun i hi => List.all_eq_true.1 h _ (List.getElem_mem hi)) _ _
end Go.Proofs.YtbbdchlabdilcaaGreat
/- Chapter 12: descriptors done on values, one at a time. -/
namespace Go.Proofs.YtbbdchlabdilcaaGreat
set_option maxRecDepth 100000
open Go.RowKit Go.Proofs Go.Own
/-- A descriptor's entries done on values: the first k of them. -/
def doE (vs : List Int) (e : Entry) : List Int := if e.write_ = true then vs.set e.object_.toNat e.new_ else vs
def doTo (vs : List Int) (es : List Entry) : Nat → List Int
  | 0 => vs
  | k+1 => match es[k]? with | some e => doE (doTo vs es k) e | none => doTo vs es k
theorem doTo_succ {vs : List Int} {es : List Entry} {k : Nat} (h : k < es.length) : doTo vs es (k+1) = doE (doTo vs es k) es[k] := by
  conv => lhs; unfold doTo
  rw [List.getElem?_eq_getElem h]
theorem doE_len (vs : List Int) (e : Entry) : (doE vs e).length = vs.length := by unfold doE; split <;> simp
theorem doTo_len (vs : List Int) (es : List Entry) : ∀ k, (doTo vs es k).length = vs.length
  | 0 => rfl
  | k+1 => by
    unfold doTo
    split
    · rw [doE_len, doTo_len vs es k]
    · exact doTo_len vs es k
def doL (vs : List Int) (es : List Entry) : List Int := doTo vs es es.length
theorem doL_len (vs : List Int) (es : List Entry) : (doL vs es).length = vs.length := doTo_len _ _ _
def canL (vs : List Int) (es : List Entry) : Bool := es.all fun e => vs.getD e.object_.toNat 0 == e.old_
/-- Serial. -/
def args12 (fs : List Int) (ds : List DescD) (most : Int) : Bool := (inB (fs.length : Int) 1 8 && allIn fs (-1000000000) 1000000000 0 && !decide (most < (ds.length : Int))) && ds.all (descIn fs.length)
def serTo (vs : List Int) (ds : List DescD) : Nat → Nat → List Int × Bool
  | 0, _ => (vs, true)
  | n+1, i => match ds[i]? with
    | some d => if canL vs d.entries_ = true then serTo (doL vs d.entries_) ds n (i+1) else (vs, false)
    | none => (vs, true)
def serC (fs : List Int) (ds : List DescD) : List Int × Bool := if args12 fs ds 60 = true then serTo fs ds ds.length 0 else ([], false)
theorem serTo_len (ds : List DescD) : ∀ n i vs, (serTo vs ds n i).1.length = vs.length
  | 0, _, _ => rfl
  | n+1, i, vs => by
    unfold serTo
    split
    · split
      · rw [serTo_len ds n (i+1), doL_len]
      · rfl
    · rfl
end Go.Proofs.YtbbdchlabdilcaaGreat
