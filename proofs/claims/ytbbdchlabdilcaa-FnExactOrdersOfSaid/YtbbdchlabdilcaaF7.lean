/- Chapter 7: what its functions answer. -/
import Derived.Test.YtbbdchlabdilcaaF6
import Derived.Test.YtbbdchlabdilcaaN7
namespace Go.Proofs.Ytbbdchlabdilcaa
set_option maxRecDepth 100000
open Go.RowKit Go.Proofs Go.Own
theorem all_step {α : Type} (f : α → Bool) (xs : List α) (k : Nat) (h : k < xs.length) : (xs.drop k).all f = (f xs[k] && (xs.drop (k+1)).all f) := by
  rw [List.drop_eq_getElem_cons h]; rfl
theorem all_end {α : Type} (f : α → Bool) (xs : List α) (k : Nat) (h : ¬ k < xs.length) : (xs.drop k).all f = true := by
  rw [List.drop_eq_nil_of_le (by omega)]; rfl
/-- The object of a list's last entry. -/
def lastO (xs : List Entry) : Int := match xs[xs.length - 1]? with | some e => e.object_ | none => 0
theorem lastO_eq {xs : List Entry} (h : xs.length - 1 < xs.length) : lastO xs = xs[xs.length - 1].object_ := by
  unfold lastO; rw [List.getElem?_eq_getElem h]
def descIn (n : Nat) (d : DescD) : Bool := descOk d.owner_ d.status_ d.entries_ && !decide ((n : Int) ≤ lastO d.entries_)
theorem descIn_ok {n : Nat} {d : DescD} (h : descOk d.owner_ d.status_ d.entries_ = true) : descIn n d = !decide ((n : Int) ≤ lastO d.entries_) := by unfold descIn; rw [h]; rfl
theorem descIn_no {n : Nat} {d : DescD} (h : descOk d.owner_ d.status_ d.entries_ = false) : descIn n d = false := by unfold descIn; rw [h]; rfl
theorem descOk_len {ow st : Int} {xs : List Entry} (h : descOk ow st xs = true) : 0 < xs.length ∧ xs.length ≤ 6 := by
  have h2 := openOk_len (descOk_open h)
  unfold descOk at h
  simp only [Bool.and_eq_true, decide_eq_true_eq] at h
  exact ⟨h.1.1.2, h2⟩
/-- The entries of the descriptor at a place. -/
def entsAt (ds : List DescD) (k : Int) : List Entry := match ds[k.toNat]? with | some d => d.entries_ | none => []
theorem entsAt_eq {ds : List DescD} {k : Nat} (h : k < ds.length) : entsAt ds k = ds[k].entries_ := by
  unfold entsAt; rw [Int.toNat_natCast, List.getElem?_eq_getElem h]
def headIn (ds : List DescD) (i : Nat) (h : Head) : Bool := isVal h.value_ && inB h.version_ 0 1000000 && inB h.desc_ (-1) ((ds.length : Int) - 1) && !(decide (0 ≤ h.desc_) && decide (openedC (entsAt ds h.desc_) i < 0))
def headsGo (ds : List DescD) : List Head → Nat → Bool
  | [], _ => true
  | h :: hs, i => headIn ds i h && headsGo ds hs (i+1)
def headsAt (ds : List DescD) (hs : List Head) (k : Nat) : Bool := headsGo ds (hs.drop k) k
theorem headsAt_step (ds : List DescD) (hs : List Head) (k : Nat) (h : k < hs.length) : headsAt ds hs k = (headIn ds k hs[k] && headsAt ds hs (k+1)) := by
  unfold headsAt; rw [List.drop_eq_getElem_cons h]; rfl
theorem headsAt_end (ds : List DescD) (hs : List Head) (k : Nat) (h : ¬ k < hs.length) : headsAt ds hs k = true := by
  unfold headsAt; rw [List.drop_eq_nil_of_le (by omega)]; rfl
def storeOk (hs : List Head) (ds : List DescD) : Bool := inB (hs.length : Int) 1 8 && !decide ((60 : Int) < ds.length) && ds.all (descIn hs.length) && headsAt ds hs 0
theorem storeOk_all {hs : List Head} {ds : List DescD} (h : storeOk hs ds = true) : (1 ≤ hs.length ∧ hs.length ≤ 8) ∧ ds.length ≤ 60 ∧ (∀ i, (hi : i < ds.length) → descIn hs.length ds[i] = true) ∧ ∀ i, (hi : i < hs.length) → headIn ds i hs[i] = true := by
  unfold storeOk at h
  simp only [Bool.and_eq_true, Bool.not_eq_true', decide_eq_false_iff_not, List.all_eq_true] at h
  obtain ⟨⟨⟨h1, h2⟩, h3⟩, h4⟩ := h
  have h5 : (1 : Int) ≤ hs.length ∧ (hs.length : Int) ≤ 8 := by simpa [inB] using h1
  refine ⟨by omega, by omega, fun i hi => h3 _ (List.getElem_mem hi), fun i hi => ?_⟩
  have : ∀ (k : Nat), k ≤ hs.length → headsAt ds hs k = true := by
    intro k
    induction k with
    | zero => intro _; exact h4
    | succ k ih =>
      intro hk
      have := ih (by omega)
      rw [headsAt_step ds hs k (by omega)] at this
      simp only [Bool.and_eq_true] at this
      exact this.2
  have h6 := this i (by omega)
  rw [headsAt_step ds hs i hi] at h6
  simp only [Bool.and_eq_true] at h6
  exact h6.1
/-- What a look tells. -/
def lookOk (hs : List Head) (ds : List DescD) (o : Int) : Bool := storeOk hs ds && inB o 0 ((hs.length : Int) - 1)
def lookH (hs : List Head) (ds : List DescD) (o : Int) : Head := if lookOk hs ds o = true then (match hs[o.toNat]? with | some h => h | none => ⟨0, 0, 0⟩) else ⟨0, 0, 0⟩
theorem lookH_no {hs : List Head} {ds : List DescD} {o : Int} (h : lookOk hs ds o = false) : lookH hs ds o = ⟨0, 0, 0⟩ := by unfold lookH; rw [h]; rfl
theorem lookH_yes {hs : List Head} {ds : List DescD} {k : Nat} (h : lookOk hs ds k = true) (hk : k < hs.length) : lookH hs ds k = hs[k] := by
  unfold lookH; rw [h, if_pos rfl, Int.toNat_natCast, List.getElem?_eq_getElem hk]
/-- A frame that is so. -/
def frameOk (hs : List Head) (ds : List DescD) (f : Frame) : Bool := storeOk hs ds && inB f.desc_ 0 ((ds.length : Int) - 1) && inB f.phase_ 0 5 && (if f.phase_ = 1 ∨ f.phase_ = 4 then inB f.at_ 0 (((entsAt ds f.desc_).length : Int) - 1) else decide (f.at_ = 0))
/-- The objects that are held, of the first k. -/
def heldTo (hs : List Head) : Nat → List Int
  | 0 => []
  | k+1 => heldTo hs k ++ (match hs[k]? with | some h => if 0 ≤ h.desc_ then [(k : Int)] else [] | none => [])
theorem heldTo_yes {hs : List Head} {k : Nat} (h : k < hs.length) (hd : 0 ≤ hs[k].desc_) : heldTo hs (k+1) = heldTo hs k ++ [(k : Int)] := by
  show _ ++ (match hs[k]? with | some h => if 0 ≤ h.desc_ then [(k : Int)] else [] | none => []) = _
  rw [List.getElem?_eq_getElem h]; simp [hd]
theorem heldTo_no {hs : List Head} {k : Nat} (h : k < hs.length) (hd : ¬ 0 ≤ hs[k].desc_) : heldTo hs (k+1) = heldTo hs k := by
  show _ ++ (match hs[k]? with | some h => if 0 ≤ h.desc_ then [(k : Int)] else [] | none => []) = _
  rw [List.getElem?_eq_getElem h]; simp [hd]
theorem heldTo_len (hs : List Head) : ∀ k, (heldTo hs k).length ≤ k
  | 0 => by simp [heldTo]
  | k+1 => by
    have := heldTo_len hs k
    unfold heldTo
    rw [List.length_append]
    split
    · split <;> simp <;> omega
    · simp; omega
def heldC (hs : List Head) (ds : List DescD) : List Int := if storeOk hs ds = true then heldTo hs hs.length else []
theorem heldC_len (hs : List Head) (ds : List DescD) : (heldC hs ds).length ≤ 8 := by
  unfold heldC
  split
  · rename_i h
    have h1 := (storeOk_all h).1.2
    have h2 := heldTo_len hs hs.length
    omega
  · simp
/-- On to the next entry, or to the phase behind the last. -/
def nextF (ds : List DescD) (f : Frame) (b : Int) : Frame := if f.at_ + 1 < ((entsAt ds f.desc_).length : Int) then ⟨f.desc_, f.phase_, f.at_ + 1⟩ else ⟨f.desc_, b, 0⟩
/-- A store made anew. -/
def newOk (xs : List Int) : Bool := inB (xs.length : Int) 1 8 && allIn xs (-1000000000) 1000000000 0
def mkHd (x : Int) : Head := ⟨x, 0, -1⟩
def newH (xs : List Int) : List Head := if newOk xs = true then xs.map mkHd else []
end Go.Proofs.Ytbbdchlabdilcaa
