/- Chapter 7: what its functions answer. -/
import Derived.Test.YtbbdchlabdilcabGreatF6
import Derived.Test.YtbbdchlabdilcabGreatN7
namespace Go.Proofs.YtbbdchlabdilcabGreat
set_option maxRecDepth 100000
open Go.RowKit Go.Proofs Go.Own
theorem all_step {α : Type} (f : α → Bool) (xs : List α) (k : Nat) (h : k < xs.length) : (xs.drop k).all f = (f xs[k] && (xs.drop (k+1)).all f) := by
  rw [List.drop_eq_getElem_cons h]; rfl
theorem all_end {α : Type} (f : α → Bool) (xs : List α) (k : Nat) (h : ¬ k < xs.length) : (xs.drop k).all f = true := by
  rw [List.drop_eq_nil_of_le (by omega)]; rfl
/-- The object of a list's last entry. -/
def lastO (xs : List Entry) : Int := match xs[xs.length - 1]? with | some e => e.object_ | none => 0
theorem lastO_eq {xs : List Entry} (h : xs.length - 1 < xs.length) : lastO xs = xs[xs.length - 1].object_ := by
  unfold lastO; rw [List.getElem?_eq_getElem h]
def descIn (n : Nat) (d : DescD) : Bool := descOk d.owner_ d.status_ d.entries_ && !decide ((n : Int) ≤ lastO d.entries_)
theorem descIn_ok {n : Nat} {d : DescD} (h : descOk d.owner_ d.status_ d.entries_ = true) : descIn n d = !decide ((n : Int) ≤ lastO d.entries_) := by unfold descIn; rw [h]; rfl
theorem descIn_no {n : Nat} {d : DescD} (h : descOk d.owner_ d.status_ d.entries_ = false) : descIn n d = false := by unfold descIn; rw [h]; rfl
theorem descOk_len {ow st : Int} {xs : List Entry} (h : descOk ow st xs = true) : 0 < xs.length ∧ xs.length ≤ 6 := by
  have h2 := openOk_len (descOk_open h)
  unfold descOk at h
  simp only [Bool.and_eq_true, decide_eq_true_eq] at h
  exact ⟨h.1.1.2, h2⟩
/-- The entries of the descriptor at a place. -/
def entsAt (ds : List DescD) (k : Int) : List Entry := match ds[k.toNat]? with | some d => d.entries_ | none => []
theorem entsAt_eq {ds : List DescD} {k : Nat} (h : k < ds.length) : entsAt ds k = ds[k].entries_ := by
  unfold entsAt; rw [Int.toNat_natCast, List.getElem?_eq_getElem h]
def headIn (ds : List DescD) (i : Nat) (h : Head) : Bool := isVal h.value_ && inB h.version_ 0 1000000 && inB h.desc_ (-1) ((ds.length : Int) - 1) && !(decide (0 ≤ h.desc_) && decide (openedC (entsAt ds h.desc_) i < 0))
def headsGo (ds : List DescD) : List Head → Nat → Bool
  | [], _ => true
  | h :: hs, i => headIn ds i h && headsGo ds hs (i+1)
def headsAt (ds : List DescD) (hs : List Head) (k : Nat) : Bool := headsGo ds (hs.drop k) k
theorem headsAt_step (ds : List DescD) (hs : List Head) (k : Nat) (h : k < hs.length) : headsAt ds hs k = (headIn ds k hs[k] && headsAt ds hs (k+1)) := by
  unfold headsAt; rw [List.drop_eq_getElem_cons h]; rfl
theorem headsAt_end (ds : List DescD) (hs : List Head) (k : Nat) (h : ¬ k < hs.length) : headsAt ds hs k = true := by
  unfold headsAt; rw [List.drop_eq_nil_of_le (by omega)]; rfl
def storeOk (hs : List Head) (ds : List DescD) : Bool := inB (hs.length : Int) 1 8 && !decide ((60 : Int) < ds.length) && ds.all (descIn hs.length) && headsAt ds hs 0
theorem storeOk_all {hs : List Head} {ds : List DescD} (h : storeOk hs ds = true) : (1 ≤ hs.length ∧ hs.length ≤ 8) ∧ ds.length ≤ 60 ∧ (∀ i, (hi : i < ds.length) → descIn hs.length ds[i] = true) ∧ ∀ i, (hi : i < hs.length) → headIn ds i hs[i] = true := by
  unfold storeOk at h
  simp only [Bool.and_eq_true, Bool.not_eq_true', decide_eq_false_iff_not, List.all_eq_true] at h
  obtain ⟨⟨⟨h1, h2⟩, h3⟩, h4⟩ := h
  have h5 : (1 : Int) ≤ hs.length ∧ (hs.length : Int) ≤ 8 := by simpa [inB] using h1
  refine ⟨by omega, by omega, fun i hi => h3 _ (List.getElem_mem hi), fun i hi => ?_⟩
  have : ∀ (k : Nat), k ≤ hs.length → headsAt ds hs k = true := by
    intro k
    induction k with
    | zero => intro _; exact h4
    | succ k ih =>
      intro hk
      have := ih (by omega)
      rw [headsAt_step ds hs k (by omega)] at this
      simp only [Bool.and_eq_true] at this
      exact this.2
  have h6 := this i (by omega)
  rw [headsAt_step ds hs i hi] at h6
  simp only [Bool.and_eq_true] at h6
  exact h6.1
/-- What a look tells. -/
def lookOk (hs : List Head) (ds : List DescD) (o : Int) : Bool := storeOk hs ds && inB o 0 ((hs.length : Int) - 1)
def lookH (hs : List Head) (ds : List DescD) (o : Int) : Head := if lookOk hs ds o = true then (match hs[o.toNat]? with | some h => h | none => ⟨0, 0, 0⟩) else ⟨0, 0, 0⟩
theorem lookH_no {hs : List Head} {ds : List DescD} {o : Int} (h : lookOk hs ds o = false) : lookH hs ds o = ⟨0, 0, 0⟩ := by unfold lookH; rw [h]; rfl
theorem lookH_yes {hs : List Head} {ds : List DescD} {k : Nat} (h : lookOk hs ds k = true) (hk : k < hs.length) : lookH hs ds k = hs[k] := by
  unfold lookH; rw [h, if_pos rfl, Int.toNat_natCast, List.getElem?_eq_getElem hk]
/-- A frame that is so. -/
def frameOk (hs : List Head) (ds : List DescD) (f : Frame) : Bool := storeOk hs ds && inB f.desc_ 0 ((ds.length : Int) - 1) && inB f.phase_ 0 5 && (if f.phase_ = 1 ∨ f.phase_ = 4 then inB f.at_ 0 (((entsAt ds f.desc_).length : Int) - 1) else decide (f.at_ = 0))
/-- The objects that are held, of the first k. -/
def heldTo (hs : List Head) : Nat → List Int
  | 0 => []
  | k+1 => heldTo hs k ++ (match hs[k]? with | some h => if 0 ≤ h.desc_ then [(k : Int)] else [] | none => [])
theorem heldTo_yes {hs : List Head} {k : Nat} (h : k < hs.length) (hd : 0 ≤ hs[k].desc_) : heldTo hs (k+1) = heldTo hs k ++ [(k : Int)] := by
  show _ ++ (match hs[k]? with | some h => if 0 ≤ h.desc_ then [(k : Int)] else [] | none => []) = _
  rw [List.getElem?_eq_getElem h]; simp [hd]
theorem heldTo_no {hs : List Head} {k : Nat} (h : k < hs.length) (hd : ¬ 0 ≤ hs[k].desc_) : heldTo hs (k+1) = heldTo hs k := by
  show _ ++ (match hs[k]? with | some h => if 0 ≤ h.desc_ then [(k : Int)] else [] | none => []) = _
  rw [List.getElem?_eq_getElem h]; simp [hd]
theorem heldTo_len (hs : List Head) : ∀ k, (heldTo hs k).length ≤ k
  | 0 => by simp [heldTo]
  | k+1 => by
    have := heldTo_len hs k
    unfold heldTo
    rw [List.length_append]
    split
    · split <;> simp <;> omega
    · simp; omega
def heldC (hs : List Head) (ds : List DescD) : List Int := if storeOk hs ds = true then heldTo hs hs.length else []
theorem heldC_len (hs : List Head) (ds : List DescD) : (heldC hs ds).length ≤ 8 := by
  unfold heldC
  split
  · rename_i h
    have h1 := (storeOk_all h).1.2
    have h2 := heldTo_len hs hs.length
    omega
  · simp
/-- On to the next entry, or to the phase behind the last. -/
def nextF (ds : List DescD) (f : Frame) (b : Int) : Frame := if f.at_ + 1 < ((entsAt ds f.desc_).length : Int) then ⟨f.desc_, f.phase_, f.at_ + 1⟩ else ⟨f.desc_, b, 0⟩
/-- A store made anew. -/
def newOk (xs : List Int) : Bool := inB (xs.length : Int) 1 8 && allIn xs (-1000000000) 1000000000 0
def mkHd (x : Int) : Head := ⟨x, 0, -1⟩
def newH (xs : List Int) : List Head := if newOk xs = true then xs.map mkHd else []
end Go.Proofs.YtbbdchlabdilcabGreat
/- Chapter 7: what the program's own functions answer is what the chapter's do. -/
namespace Go.Proofs.YtbbdchlabdilcabGreat
set_option maxRecDepth 100000
open Go.RowKit Go.Proofs Go.Own
def objIn (n : Nat) (e : Entry) : Bool := decide (0 ≤ e.object_) && decide (e.object_ < (n : Int))
theorem asc_le {xs : List Entry} (h : ascGo xs = true) : ∀ (d i : Nat), (hj : i + d < xs.length) → xs[i].object_ ≤ xs[i+d].object_
  | 0, i, hj => Int.le_refl _
  | d+1, i, hj => by
    have h1 := asc_le h d i (by omega)
    have h2 := ascGo_at xs h (i+d) (by omega)
    have e : xs[i+(d+1)] = xs[i+d+1] := rfl
    rw [e]; omega
theorem descIn_is {n : Nat} {d : DescD} : descIn n d = (descOk d.owner_ d.status_ d.entries_ && d.entries_.all (objIn n)) := by
  unfold descIn
  cases h : descOk d.owner_ d.status_ d.entries_ with
  | false => rfl
  | true =>
    rw [Bool.true_and, Bool.true_and]
    obtain ⟨h0, h6⟩ := descOk_len h
    have ho := descOk_open h
    have ha : ascGo d.entries_ = true := by unfold descOk at h; simp only [Bool.and_eq_true] at h; exact h.2
    have hl := lastO_eq (show d.entries_.length - 1 < d.entries_.length by omega)
    by_cases hge : (n : Int) ≤ lastO d.entries_
    · rw [decide_eq_true hge]
      symm
      rw [Bool.not_true, List.all_eq_false]
      refine ⟨d.entries_[d.entries_.length - 1], List.getElem_mem _, ?_⟩
      unfold objIn
      rw [← hl, decide_eq_false (show ¬ lastO d.entries_ < (n : Int) by omega), Bool.and_false]
      simp
    · rw [decide_eq_false hge]
      symm
      rw [Bool.not_false, List.all_eq_true]
      intro e he
      obtain ⟨i, hi, rfl⟩ := List.getElem_of_mem he
      have h1 := (entryOk_iff.1 (openOk_at ho i hi).1).1.1
      have h2 := asc_le ha (d.entries_.length - 1 - i) i (by omega)
      have e2 : i + (d.entries_.length - 1 - i) = d.entries_.length - 1 := by omega
      simp only [e2] at h2
      unfold objIn
      rw [decide_eq_true h1, decide_eq_true (show d.entries_[i].object_ < (n : Int) by omega)]
      rfl
/-- What may lie over an object. -/
def mayLie (ds : List DescD) (d : Int) (o : Int) : Bool := decide (d = -1) || (decide (0 ≤ d) && decide (d < (ds.length : Int)) && decide (0 ≤ placeC (entsAt ds d) o))
def headIn2 (ds : List DescD) (i : Nat) (h : Head) : Bool := isVal h.value_ && inB h.version_ 0 1000000 && mayLie ds h.desc_ i
theorem headIn_is {n : Nat} {ds : List DescD} (hd : ∀ i, (hi : i < ds.length) → descIn n ds[i] = true) (i : Nat) (h : Head) : headIn ds i h = headIn2 ds i h := by
  unfold headIn headIn2 mayLie
  rw [Bool.and_assoc (isVal h.value_ && inB h.version_ 0 1000000)]
  congr 1
  by_cases h1 : h.desc_ = -1
  · rw [h1]; simp [inB]; omega
  · by_cases h2 : 0 ≤ h.desc_
    · by_cases h3 : h.desc_ < (ds.length : Int)
      · obtain ⟨k, hk⟩ := Int.eq_ofNat_of_zero_le h2
        have hkl : k < ds.length := by omega
        have ho : openOk (entsAt ds h.desc_) = true := by
          rw [hk, entsAt_eq hkl]
          have := hd k hkl
          rw [descIn_is] at this
          simp only [Bool.and_eq_true] at this
          exact descOk_open this.1
        have e : openedC (entsAt ds h.desc_) i = placeC (entsAt ds h.desc_) i := by unfold openedC; rw [ho]; rfl
        rw [e]
        have hb : inB h.desc_ (-1) ((ds.length : Int) - 1) = true := by simp [inB]; omega
        rw [hb, decide_eq_true h2, decide_eq_true h3, decide_eq_false h1]
        by_cases h4 : placeC (entsAt ds h.desc_) i < 0
        · rw [decide_eq_true h4, decide_eq_false (by omega)]; rfl
        · rw [decide_eq_false h4, decide_eq_true (by omega)]; rfl
      · have hb : inB h.desc_ (-1) ((ds.length : Int) - 1) = false := by simp [inB]; omega
        rw [hb, decide_eq_false h3, decide_eq_false h1]; simp
    · have hb : inB h.desc_ (-1) ((ds.length : Int) - 1) = false := by simp [inB]; omega
      rw [hb, decide_eq_false h2, decide_eq_false h1]; simp
def headsGo2 (ds : List DescD) : List Head → Nat → Bool
  | [], _ => true
  | h :: hs, i => headIn2 ds i h && headsGo2 ds hs (i+1)
def headsAt2 (ds : List DescD) (hs : List Head) (k : Nat) : Bool := headsGo2 ds (hs.drop k) k
theorem headsAt2_step (ds : List DescD) (hs : List Head) (k : Nat) (h : k < hs.length) : headsAt2 ds hs k = (headIn2 ds k hs[k] && headsAt2 ds hs (k+1)) := by
  unfold headsAt2; rw [List.drop_eq_getElem_cons h]; rfl
theorem headsAt2_end (ds : List DescD) (hs : List Head) (k : Nat) (h : ¬ k < hs.length) : headsAt2 ds hs k = true := by
  unfold headsAt2; rw [List.drop_eq_nil_of_le (by omega)]; rfl
theorem headsGo_is {n : Nat} {ds : List DescD} (hd : ∀ i, (hi : i < ds.length) → descIn n ds[i] = true) : ∀ (hs : List Head) (i : Nat), headsGo ds hs i = headsGo2 ds hs i
  | [], _ => rfl
  | h :: hs, i => by
    unfold headsGo headsGo2
    rw [headIn_is hd, headsGo_is hd hs (i+1)]
theorem heads_is {n : Nat} {ds : List DescD} (hs : List Head) (h : ds.all (descIn n) = true) : headsAt ds hs 0 = headsAt2 ds hs 0 :=
  headsGo_is (fun i hi => List.all_eq_true.1 h _ (List.getElem_mem hi)) _ _
end Go.Proofs.YtbbdchlabdilcabGreat
/- Chapter 7: what Drive answers. -/
/- Chapter 7: what Announce answers. -/
namespace Go.Proofs.YtbbdchlabdilcabGreat
set_option maxRecDepth 100000
open Go.RowKit Go.Proofs Go.Own
def annOk (hs : List Head) (ds : List DescD) (d : DescD) : Bool := storeOk hs ds && descOk d.owner_ d.status_ d.entries_ && decide (d.status_ = 0) && !decide ((hs.length : Int) ≤ lastO d.entries_) && !decide (ds.length = 60)
def annL (hs : List Head) (ds : List DescD) (d : DescD) : List DescD := if annOk hs ds d = true then ds ++ [d] else ds
def annN (hs : List Head) (ds : List DescD) (d : DescD) : Int := if annOk hs ds d = true then (ds.length : Int) else -1
theorem annL_no {hs : List Head} {ds : List DescD} {d : DescD} (h : annOk hs ds d = false) : annL hs ds d = ds := by unfold annL; rw [h]; rfl
theorem annN_no {hs : List Head} {ds : List DescD} {d : DescD} (h : annOk hs ds d = false) : annN hs ds d = -1 := by unfold annN; rw [h]; rfl
theorem annL_yes {hs : List Head} {ds : List DescD} {d : DescD} (h : annOk hs ds d = true) : annL hs ds d = ds ++ [d] := by unfold annL; rw [h]; rfl
theorem annN_yes {hs : List Head} {ds : List DescD} {d : DescD} (h : annOk hs ds d = true) : annN hs ds d = (ds.length : Int) := by unfold annN; rw [h]; rfl
theorem ann1 {hs : List Head} {ds : List DescD} {d : DescD} (h : storeOk hs ds = false) : annOk hs ds d = false := by unfold annOk; rw [h]; rfl
theorem ann2 {hs : List Head} {ds : List DescD} {d : DescD} (h : descOk d.owner_ d.status_ d.entries_ = false) : annOk hs ds d = false := by unfold annOk; rw [h]; simp
theorem ann3 {hs : List Head} {ds : List DescD} {d : DescD} (h : ¬ d.status_ = 0) : annOk hs ds d = false := by unfold annOk; rw [decide_eq_false h]; simp
theorem ann4 {hs : List Head} {ds : List DescD} {d : DescD} (h : (hs.length : Int) ≤ lastO d.entries_) : annOk hs ds d = false := by unfold annOk; rw [decide_eq_true h]; simp
theorem ann5 {hs : List Head} {ds : List DescD} {d : DescD} (h : ds.length = 60) : annOk hs ds d = false := by unfold annOk; rw [decide_eq_true h]; simp
theorem ann6 {hs : List Head} {ds : List DescD} {d : DescD} (h1 : storeOk hs ds = true) (h2 : descOk d.owner_ d.status_ d.entries_ = true) (h3 : d.status_ = 0) (h4 : ¬ (hs.length : Int) ≤ lastO d.entries_) (h5 : ¬ ds.length = 60) : annOk hs ds d = true := by
  unfold annOk; rw [h1, h2, decide_eq_true h3, decide_eq_false h4, decide_eq_false h5]; rfl
/-- A store that a call has made: its lists of the call's own, apart, in blocks of its own. -/
def StoreOwn (w w' : World) (u0 u1 : Value) (hs : List Head) (ds : List DescD) : Prop := ∃ S0 S1 : Nat → Prop, ownL S0 w' u0 hs ∧ ownL S1 w' u1 ds ∧ (∀ k, S0 k → Rg w.heap.size w'.heap.size k) ∧ (∀ k, S1 k → Rg w.heap.size w'.heap.size k) ∧ ∀ k, S0 k → ¬ S1 k
end Go.Proofs.YtbbdchlabdilcabGreat
namespace Go.Proofs.YtbbdchlabdilcabGreat
set_option maxRecDepth 100000
open Go.RowKit Go.Proofs Go.Own
def dAt (ds : List DescD) (k : Int) : DescD := match ds[k.toNat]? with | some d => d | none => ⟨0, 0, []⟩
theorem dAt_eq {ds : List DescD} {k : Nat} (h : k < ds.length) : dAt ds k = ds[k] := by unfold dAt; rw [Int.toNat_natCast, List.getElem?_eq_getElem h]
def eAt (es : List Entry) (a : Int) : Entry := match es[a.toNat]? with | some e => e | none => ⟨0, 0, 0, 0, false⟩
theorem eAt_eq {es : List Entry} {k : Nat} (h : k < es.length) : eAt es k = es[k] := by unfold eAt; rw [Int.toNat_natCast, List.getElem?_eq_getElem h]
def hAt (hs : List Head) (o : Int) : Head := match hs[o.toNat]? with | some h => h | none => ⟨0, 0, 0⟩
theorem hAt_eq {hs : List Head} {k : Nat} (h : k < hs.length) : hAt hs k = hs[k] := by unfold hAt; rw [Int.toNat_natCast, List.getElem?_eq_getElem h]
/-- The head whose descriptor is taken off. -/
def freeH (st : Int) (e : Entry) (h : Head) : Head := if st = 1 ∧ e.write_ = true then ⟨e.new_, (h.version_ + 1) % 1000001, -1⟩ else ⟨h.value_, h.version_, -1⟩
def layH (k : Int) (h : Head) : Head := ⟨h.value_, h.version_, k⟩
def decD (st : Int) (d : DescD) : DescD := if d.status_ = 0 then ⟨d.owner_, st, d.entries_⟩ else d
/-- The entry at hand, its object, the head. -/
def curE (ds : List DescD) (f : Frame) : Entry := eAt (entsAt ds f.desc_) f.at_
def curO (ds : List DescD) (f : Frame) : Int := (curE ds f).object_
def curH (hs : List Head) (ds : List DescD) (f : Frame) : Head := hAt hs (curO ds f)
/-- One step: the heads, the descriptors, the frame, who must be driven first. -/
def stepH (hs : List Head) (ds : List DescD) (f : Frame) : List Head :=
  if f.phase_ = 1 then (if ¬ (curH hs ds f).desc_ = f.desc_ ∧ ¬ 0 ≤ (curH hs ds f).desc_ ∧ (curH hs ds f).version_ = (curE ds f).version_ then hs.set (curO ds f).toNat (layH f.desc_ (curH hs ds f)) else hs)
  else if f.phase_ = 4 then (if (curH hs ds f).desc_ = f.desc_ then hs.set (curO ds f).toNat (freeH (dAt ds f.desc_).status_ (curE ds f) (curH hs ds f)) else hs)
  else hs
def stepD (ds : List DescD) (f : Frame) : List DescD :=
  if f.phase_ = 2 then ds.set f.desc_.toNat (decD 1 (dAt ds f.desc_)) else if f.phase_ = 3 then ds.set f.desc_.toNat (decD 2 (dAt ds f.desc_)) else ds
def stepF (hs : List Head) (ds : List DescD) (f : Frame) : Frame :=
  if f.phase_ = 0 then (if (dAt ds f.desc_).status_ = 0 then ⟨f.desc_, 1, 0⟩ else ⟨f.desc_, 4, 0⟩)
  else if f.phase_ = 1 then (if (curH hs ds f).desc_ = f.desc_ then nextF ds f 2 else if 0 ≤ (curH hs ds f).desc_ then ⟨f.desc_, 0, 0⟩ else if (curH hs ds f).version_ = (curE ds f).version_ then nextF ds f 2 else ⟨f.desc_, 3, 0⟩)
  else if f.phase_ = 2 ∨ f.phase_ = 3 then ⟨f.desc_, 4, 0⟩
  else if f.phase_ = 4 then nextF ds f 5
  else f
def stepN (hs : List Head) (ds : List DescD) (f : Frame) : Int :=
  if f.phase_ = 1 ∧ ¬ (curH hs ds f).desc_ = f.desc_ ∧ 0 ≤ (curH hs ds f).desc_ then (curH hs ds f).desc_ else -1
/-- What a frame that is so says. -/
theorem frameOk_parts {hs : List Head} {ds : List DescD} {f : Frame} (h : frameOk hs ds f = true) : storeOk hs ds = true ∧ ∃ k : Nat, f.desc_ = k ∧ k < ds.length ∧ (0 ≤ f.phase_ ∧ f.phase_ ≤ 5) ∧ ∃ a : Nat, f.at_ = a ∧ a < (entsAt ds k).length ∧ (¬ (f.phase_ = 1 ∨ f.phase_ = 4) → f.at_ = 0) := by
  unfold frameOk at h
  simp only [Bool.and_eq_true] at h
  obtain ⟨⟨⟨h1, h2⟩, h3⟩, h4⟩ := h
  have h2' : 0 ≤ f.desc_ ∧ f.desc_ ≤ (ds.length : Int) - 1 := by simpa [inB] using h2
  have h3' : 0 ≤ f.phase_ ∧ f.phase_ ≤ 5 := by simpa [inB] using h3
  obtain ⟨k, hk⟩ := Int.eq_ofNat_of_zero_le h2'.1
  have hkl : k < ds.length := by omega
  refine ⟨h1, k, hk, hkl, h3', ?_⟩
  have hl : 0 < (entsAt ds k).length := by
    rw [entsAt_eq hkl]
    have h9 := (storeOk_all h1).2.2.1 k hkl
    rw [descIn_is] at h9
    simp only [Bool.and_eq_true] at h9
    exact (descOk_len h9.1).1
  split at h4
  · rename_i hp
    have h5 : 0 ≤ f.at_ ∧ f.at_ ≤ ((entsAt ds f.desc_).length : Int) - 1 := by simpa [inB] using h4
    obtain ⟨a, ha⟩ := Int.eq_ofNat_of_zero_le h5.1
    refine ⟨a, ha, ?_, fun hn => absurd hp hn⟩
    rw [hk] at h5
    omega
  · have h5 : f.at_ = 0 := by simpa using h4
    exact ⟨0, by rw [h5]; rfl, hl, fun _ => h5⟩
/-- The entry at hand is of an object that there is. -/
theorem cur_obj {hs : List Head} {ds : List DescD} (h : storeOk hs ds = true) {k a : Nat} (hk : k < ds.length) (ha : a < ds[k].entries_.length) : ∃ o : Nat, ds[k].entries_[a].object_ = o ∧ o < hs.length := by
  have h9 := (storeOk_all h).2.2.1 k hk
  rw [descIn_is] at h9
  simp only [Bool.and_eq_true, List.all_eq_true] at h9
  have h8 := h9.2 _ (List.getElem_mem ha)
  unfold objIn at h8
  simp only [Bool.and_eq_true, decide_eq_true_eq] at h8
  obtain ⟨o, ho⟩ := Int.eq_ofNat_of_zero_le h8.1
  exact ⟨o, ho, by omega⟩
theorem head_in {hs : List Head} {ds : List DescD} (h : storeOk hs ds = true) {o : Nat} (ho : o < hs.length) : (0 ≤ hs[o].version_ ∧ hs[o].version_ ≤ 1000000) ∧ -1 ≤ hs[o].desc_ ∧ hs[o].desc_ < (ds.length : Int) := by
  have h9 := (storeOk_all h).2.2.2 o ho
  unfold headIn at h9
  simp only [Bool.and_eq_true] at h9
  have h1 : 0 ≤ hs[o].version_ ∧ hs[o].version_ ≤ 1000000 := by simpa [inB] using h9.1.1.2
  have h2 : -1 ≤ hs[o].desc_ ∧ hs[o].desc_ ≤ (ds.length : Int) - 1 := by simpa [inB] using h9.1.2
  exact ⟨h1, h2.1, by omega⟩
/-- What Drive answers. -/
structure DriveR where
  hs : List Head
  ds : List DescD
  f : Frame
  n : Int
def driveR (hs : List Head) (ds : List DescD) (f : Frame) : DriveR := if frameOk hs ds f = true then ⟨stepH hs ds f, stepD ds f, stepF hs ds f, stepN hs ds f⟩ else ⟨hs, ds, f, -1⟩
theorem driveR_yes {hs : List Head} {ds : List DescD} {f : Frame} (h : frameOk hs ds f = true) : driveR hs ds f = ⟨stepH hs ds f, stepD ds f, stepF hs ds f, stepN hs ds f⟩ := if_pos h
theorem driveR_no {hs : List Head} {ds : List DescD} {f : Frame} (h : frameOk hs ds f = false) : driveR hs ds f = ⟨hs, ds, f, -1⟩ := if_neg (by rw [h]; simp)
theorem stepH_len (hs : List Head) (ds : List DescD) (f : Frame) : (stepH hs ds f).length = hs.length := by
  unfold stepH
  split
  · split
    · rw [List.length_set]
    · rfl
  · split
    · split
      · rw [List.length_set]
      · rfl
    · rfl
theorem stepD_len (ds : List DescD) (f : Frame) : (stepD ds f).length = ds.length := by
  unfold stepD
  split
  · rw [List.length_set]
  · split
    · rw [List.length_set]
    · rfl
end Go.Proofs.YtbbdchlabdilcabGreat
