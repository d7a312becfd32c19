/- Chapter 7: what Drive answers. -/
import Derived.Test.YtcafdihekamnkaaM2
/- Chapter 7: what Announce answers. -/
namespace Go.Proofs.Ytcafdihekamnkaa
set_option maxRecDepth 100000
open Go.RowKit Go.Proofs Go.Own
def annOk (hs : List Head) (ds : List DescD) (d : DescD) : Bool := storeOk hs ds && descOk d.owner_ d.status_ d.entries_ && decide (d.status_ = 0) && !decide ((hs.length : Int) ≤ lastO d.entries_) && !decide (ds.length = 60)
def annL (hs : List Head) (ds : List DescD) (d : DescD) : List DescD := if annOk hs ds d = true then ds ++ [d] else ds
def annN (hs : List Head) (ds : List DescD) (d : DescD) : Int := if annOk hs ds d = true then (ds.length : Int) else -1
theorem annL_no {hs : List Head} {ds : List DescD} {d : DescD} (h : annOk hs ds d = false) : annL hs ds d = ds := by unfold annL; rw [h]; rfl
theorem annN_no {hs : List Head} {ds : List DescD} {d : DescD} (h : annOk hs ds d = false) : annN hs ds d = -1 := by unfold annN; rw [h]; rfl
theorem annL_yes {hs : List Head} {ds : List DescD} {d : DescD} (h : annOk hs ds d = true) : annL hs ds d = ds ++ [d] := by unfold annL; rw [h]; rfl
theorem annN_yes {hs : List Head} {ds : List DescD} {d : DescD} (h : annOk hs ds d = true) : annN hs ds d = (ds.length : Int) := by unfold annN; rw [h]; rfl
theorem ann1 {hs : List Head} {ds : List DescD} {d : DescD} (h : storeOk hs ds = false) : annOk hs ds d = false := by unfold annOk; rw [h]; rfl
theorem ann2 {hs : List Head} {ds : List DescD} {d : DescD} (h : descOk d.owner_ d.status_ d.entries_ = false) : annOk hs ds d = false := by unfold annOk; rw [h]; simp
theorem ann3 {hs : List Head} {ds : List DescD} {d : DescD} (h : ¬ d.status_ = 0) : annOk hs ds d = false := by unfold annOk; rw [decide_eq_false h]; simp
theorem ann4 {hs : List Head} {ds : List DescD} {d : DescD} (h : (hs.length : Int) ≤ lastO d.entries_) : annOk hs ds d = false := by unfold annOk; rw [decide_eq_true h]; simp
theorem ann5 {hs : List Head} {ds : List DescD} {d : DescD} (h : ds.length = 60) : annOk hs ds d = false := by unfold annOk; rw [decide_eq_true h]; simp
theorem ann6 {hs : List Head} {ds : List DescD} {d : DescD} (h1 : storeOk hs ds = true) (h2 : descOk d.owner_ d.status_ d.entries_ = true) (h3 : d.status_ = 0) (h4 : ¬ (hs.length : Int) ≤ lastO d.entries_) (h5 : ¬ ds.length = 60) : annOk hs ds d = true := by
  unfold annOk; rw [h1, h2, decide_eq_true h3, decide_eq_false h4, decide_eq_false h5]; rfl
/-- A store that a call has made: its lists of the call's own, apart, in blocks of its own. -/
def StoreOwn (w w' : World) (u0 u1 : Value) (hs : List Head) (ds : List DescD) : Prop := ∃ S0 S1 : Nat → Prop, ownL S0 w' u0 hs ∧ ownL S1 w' u1 ds ∧ (∀ k, S0 k → Rg w.heap.size w'.heap.size k) ∧ (∀ k, S1 k → Rg w.heap.size w'.heap.size k) ∧ ∀ k, S0 k → ¬ S1 k
end Go.Proofs.Ytcafdihekamnkaa
namespace Go.Proofs.Ytcafdihekamnkaa
set_option maxRecDepth 100000
open Go.RowKit Go.Proofs Go.Own
def dAt (ds : List DescD) (k : Int) : DescD := match ds[k.toNat]? with | some d => d | none => ⟨0, 0, []⟩
theorem dAt_eq {ds : List DescD} {k : Nat} (h : k < ds.length) : dAt ds k = ds[k] := by unfold dAt; rw [Int.toNat_natCast, List.getElem?_eq_getElem h]
def eAt (es : List Entry) (a : Int) : Entry := match es[a.toNat]? with | some e => e | none => ⟨0, 0, 0, 0, false⟩
theorem eAt_eq {es : List Entry} {k : Nat} (h : k < es.length) : eAt es k = es[k] := by unfold eAt; rw [Int.toNat_natCast, List.getElem?_eq_getElem h]
def hAt (hs : List Head) (o : Int) : Head := match hs[o.toNat]? with | some h => h | none => ⟨0, 0, 0⟩
theorem hAt_eq {hs : List Head} {k : Nat} (h : k < hs.length) : hAt hs k = hs[k] := by unfold hAt; rw [Int.toNat_natCast, List.getElem?_eq_getElem h]
/-- The head whose descriptor is taken off. -/
def freeH (st : Int) (e : Entry) (h : Head) : Head := if st = 1 ∧ e.write_ = true then ⟨e.new_, (h.version_ + 1) % 1000001, -1⟩ else ⟨h.value_, h.version_, -1⟩
def layH (k : Int) (h : Head) : Head := ⟨h.value_, h.version_, k⟩
def decD (st : Int) (d : DescD) : DescD := if d.status_ = 0 then ⟨d.owner_, st, d.entries_⟩ else d
/-- The entry at hand, its object, the head. -/
def curE (ds : List DescD) (f : Frame) : Entry := eAt (entsAt ds f.desc_) f.at_
def curO (ds : List DescD) (f : Frame) : Int := (curE ds f).object_
def curH (hs : List Head) (ds : List DescD) (f : Frame) : Head := hAt hs (curO ds f)
/-- One step: the heads, the descriptors, the frame, who must be driven first. -/
def stepH (hs : List Head) (ds : List DescD) (f : Frame) : List Head :=
  if f.phase_ = 1 then (if ¬ (curH hs ds f).desc_ = f.desc_ ∧ ¬ 0 ≤ (curH hs ds f).desc_ ∧ (curH hs ds f).version_ = (curE ds f).version_ then hs.set (curO ds f).toNat (layH f.desc_ (curH hs ds f)) else hs)
  else if f.phase_ = 4 then (if (curH hs ds f).desc_ = f.desc_ then hs.set (curO ds f).toNat (freeH (dAt ds f.desc_).status_ (curE ds f) (curH hs ds f)) else hs)
  else hs
def stepD (ds : List DescD) (f : Frame) : List DescD :=
  if f.phase_ = 2 then ds.set f.desc_.toNat (decD 1 (dAt ds f.desc_)) else if f.phase_ = 3 then ds.set f.desc_.toNat (decD 2 (dAt ds f.desc_)) else ds
def stepF (hs : List Head) (ds : List DescD) (f : Frame) : Frame :=
  if f.phase_ = 0 then (if (dAt ds f.desc_).status_ = 0 then ⟨f.desc_, 1, 0⟩ else ⟨f.desc_, 4, 0⟩)
  else if f.phase_ = 1 then (if (curH hs ds f).desc_ = f.desc_ then nextF ds f 2 else if 0 ≤ (curH hs ds f).desc_ then ⟨f.desc_, 0, 0⟩ else if (curH hs ds f).version_ = (curE ds f).version_ then nextF ds f 2 else ⟨f.desc_, 3, 0⟩)
  else if f.phase_ = 2 ∨ f.phase_ = 3 then ⟨f.desc_, 4, 0⟩
  else if f.phase_ = 4 then nextF ds f 5
  else f
def stepN (hs : List Head) (ds : List DescD) (f : Frame) : Int :=
  if f.phase_ = 1 ∧ ¬ (curH hs ds f).desc_ = f.desc_ ∧ 0 ≤ (curH hs ds f).desc_ then (curH hs ds f).desc_ else -1
/-- What a frame that is so says. -/
theorem frameOk_parts {hs : List Head} {ds : List DescD} {f : Frame} (h : frameOk hs ds f = true) : storeOk hs ds = true ∧ ∃ k : Nat, f.desc_ = k ∧ k < ds.length ∧ (0 ≤ f.phase_ ∧ f.phase_ ≤ 5) ∧ ∃ a : Nat, f.at_ = a ∧ a < (entsAt ds k).length ∧ (¬ (f.phase_ = 1 ∨ f.phase_ = 4) → f.at_ = 0) := by
  unfold frameOk at h
  simp only [Bool.and_eq_true] at h
  obtain ⟨⟨⟨h1, h2⟩, h3⟩, h4⟩ := h
  have h2' : 0 ≤ f.desc_ ∧ f.desc_ ≤ (ds.length : Int) - 1 := by simpa [inB] using h2
  have h3' : 0 ≤ f.phase_ ∧ f.phase_ ≤ 5 := by simpa [inB] using h3
  obtain ⟨k, hk⟩ := Int.eq_ofNat_of_zero_le h2'.1
  have hkl : k < ds.length := by omega
  refine ⟨h1, k, hk, hkl, h3', ?_⟩
  have hl : 0 < (entsAt ds k).length := by
    rw [entsAt_eq hkl]
    have h9 := (storeOk_all h1).2.2.1 k hkl
    rw [descIn_is] at h9
    simp only [Bool.and_eq_true] at h9
    exact (descOk_len h9.1).1
  split at h4
  · rename_i hp
    have h5 : 0 ≤ f.at_ ∧ f.at_ ≤ ((entsAt ds f.desc_).length : Int) - 1 := by simpa [inB] using h4
    obtain ⟨a, ha⟩ := Int.eq_ofNat_of_zero_le h5.1
    refine ⟨a, ha, ?_, fun hn => absurd hp hn⟩
    rw [hk] at h5
    omega
  · have h5 : f.at_ = 0 := by simpa using h4
    exact ⟨0, by rw [h5]; rfl, hl, fun _ => h5⟩
/-- The entry at hand is of an object that there is. -/
theorem cur_obj {hs : List Head} {ds : List DescD} (h : storeOk hs ds = true) {k a : Nat} (hk : k < ds.length) (ha : a < ds[k].entries_.length) : ∃ o : Nat, ds[k].entries_[a].object_ = o ∧ o < hs.length := by
  have h9 := (storeOk_all h).2.2.1 k hk
  rw [descIn_is] at h9
  simp only [Bool.and_eq_true, List.all_eq_true] at h9
  have h8 := h9.2 _ (List.getElem_mem ha)
  unfold objIn at h8
  simp only [Bool.and_eq_true, decide_eq_true_eq] at h8
  obtain ⟨o, ho⟩ := Int.eq_ofNat_of_zero_le h8.1
  exact ⟨o, ho, by omega⟩
theorem head_in {hs : List Head} {ds : List DescD} (h : storeOk hs ds = true) {o : Nat} (ho : o < hs.length) : (0 ≤ hs[o].version_ ∧ hs[o].version_ ≤ 1000000) ∧ -1 ≤ hs[o].desc_ ∧ hs[o].desc_ < (ds.length : Int) := by
  have h9 := (storeOk_all h).2.2.2 o ho
  unfold headIn at h9
  simp only [Bool.and_eq_true] at h9
  have h1 : 0 ≤ hs[o].version_ ∧ hs[o].version_ ≤ 1000000 := by simpa [inB] using h9.1.1.2
  have h2 : -1 ≤ hs[o].desc_ ∧ hs[o].desc_ ≤ (ds.length : Int) - 1 := by simpa [inB] using h9.1.2
  exact ⟨h1, h2.1, by omega⟩
/-- What Drive answers. -/
structure DriveR where
  hs : List Head
  ds : List DescD
  f : Frame
  n : Int
def driveR (hs : List Head) (ds : List DescD) (f : Frame) : DriveR := if frameOk hs ds f = true then ⟨stepH hs ds f, stepD ds f, stepF hs ds f, stepN hs ds f⟩ else ⟨hs, ds, f, -1⟩
theorem driveR_yes {hs : List Head} {ds : List DescD} {f : Frame} (h : frameOk hs ds f = true) : driveR hs ds f = ⟨stepH hs ds f, stepD ds f, stepF hs ds f, stepN hs ds f⟩ := if_pos h
theorem driveR_no {hs : List Head} {ds : List DescD} {f : Frame} (h : frameOk hs ds f = false) : driveR hs ds f = ⟨hs, ds, f, -1⟩ := if_neg (by rw [h]; simp)
theorem stepH_len (hs : List Head) (ds : List DescD) (f : Frame) : (stepH hs ds f).length = hs.length := by
  unfold stepH
  split
  · split
    · rw [List.length_set]
    · rfl
  · split
    · split
      · rw [List.length_set]
      · rfl
    · rfl
theorem stepD_len (ds : List DescD) (f : Frame) : (stepD ds f).length = ds.length := by
  unfold stepD
  split
  · rw [List.length_set]
  · split
    · rw [List.length_set]
    · rfl
end Go.Proofs.Ytcafdihekamnkaa
