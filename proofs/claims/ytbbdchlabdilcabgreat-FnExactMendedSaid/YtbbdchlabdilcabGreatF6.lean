/- Chapter 6: what its functions answer. -/
import Derived.Test.YtbbdchlabdilcabGreatM1
namespace Go.Proofs.YtbbdchlabdilcabGreat
set_option maxRecDepth 100000
open Go.RowKit Go.Proofs Go.Own
def entryOk (e : Entry) : Bool := inB e.object_ 0 7 && inB e.version_ 0 1000000 && isVal e.old_ && isVal e.new_ && (e.write_ || e.new_ == e.old_)
theorem entryOk_iff {e : Entry} : entryOk e = true ↔ (0 ≤ e.object_ ∧ e.object_ ≤ 7) ∧ (0 ≤ e.version_ ∧ e.version_ ≤ 1000000) ∧ (-1000000000 ≤ e.old_ ∧ e.old_ ≤ 1000000000) ∧ (-1000000000 ≤ e.new_ ∧ e.new_ ≤ 1000000000) ∧ (e.write_ = true ∨ e.new_ = e.old_) := by
  simp [entryOk, isVal, inB, and_assoc]
/-- The first place of an object's entry, counted from k on; -1 where there is none. -/
def findO : List Entry → Int → Nat → Int
  | [], _, _ => -1
  | e :: es, o, k => if e.object_ = o then (k : Int) else findO es o (k+1)
def placeC (xs : List Entry) (o : Int) : Int := findO xs o 0
def placeFrom (xs : List Entry) (o : Int) (k : Nat) : Int := findO (xs.drop k) o k
theorem placeFrom_zero (xs : List Entry) (o : Int) : placeFrom xs o 0 = placeC xs o := rfl
theorem placeFrom_step (xs : List Entry) (o : Int) (k : Nat) (h : k < xs.length) : placeFrom xs o k = if xs[k].object_ = o then (k : Int) else placeFrom xs o (k+1) := by
  unfold placeFrom
  rw [List.drop_eq_getElem_cons h]; rfl
theorem placeFrom_end (xs : List Entry) (o : Int) (k : Nat) (h : ¬ k < xs.length) : placeFrom xs o k = -1 := by
  unfold placeFrom
  rw [List.drop_eq_nil_of_le (by omega)]; rfl
/-- A place that is told is one, and its entry is of that object. -/
theorem findO_some : ∀ (xs : List Entry) (o : Int) (k : Nat), 0 ≤ findO xs o k → ∃ i, ∃ h : i < xs.length, findO xs o k = ((k + i : Nat) : Int) ∧ xs[i].object_ = o ∧ ∀ j, (hj : j < i) → xs[j].object_ ≠ o
  | [], o, k, h => by simp [findO] at h
  | e :: es, o, k, h => by
    unfold findO at h ⊢
    split at h
    · rename_i he
      rw [if_pos he]
      exact ⟨0, by simp, by simp, by simpa using he, fun j hj => by omega⟩
    · rename_i he
      rw [if_neg he]
      obtain ⟨i, hi, h1, h2, h3⟩ := findO_some es o (k+1) h
      refine ⟨i+1, by simpa using hi, by rw [h1]; omega, by simpa using h2, fun j hj => ?_⟩
      cases j with
      | zero => simpa using he
      | succ j => simpa using h3 j (by omega)
theorem findO_none : ∀ (xs : List Entry) (o : Int) (k : Nat), findO xs o k < 0 → ∀ i, (h : i < xs.length) → xs[i].object_ ≠ o
  | [], o, k, _, i, h => by simp at h
  | e :: es, o, k, hl, i, h => by
    unfold findO at hl
    split at hl
    · omega
    · rename_i he
      cases i with
      | zero => simpa using he
      | succ i => simpa using findO_none es o (k+1) hl i (by simpa using h)
theorem placeC_some {xs : List Entry} {o : Int} (h : 0 ≤ placeC xs o) : ∃ i, ∃ hi : i < xs.length, placeC xs o = (i : Int) ∧ xs[i].object_ = o ∧ ∀ j, (hj : j < i) → xs[j].object_ ≠ o := by
  obtain ⟨i, hi, h1, h2, h3⟩ := findO_some xs o 0 h
  exact ⟨i, hi, by unfold placeC; rw [h1]; simp, h2, h3⟩
theorem placeC_none {xs : List Entry} {o : Int} (h : placeC xs o < 0) : ∀ i, (hi : i < xs.length) → xs[i].object_ ≠ o := findO_none xs o 0 h
theorem findO_ge (xs : List Entry) (o : Int) (k : Nat) : -1 ≤ findO xs o k := by
  by_cases h : 0 ≤ findO xs o k
  · omega
  · induction xs generalizing k with
    | nil => simp [findO]
    | cons e es ih =>
      unfold findO at h ⊢
      split at h
      · omega
      · rename_i he
        rw [if_neg he]
        exact ih _ h
theorem placeC_ge (xs : List Entry) (o : Int) : -1 ≤ placeC xs o := findO_ge xs o 0
theorem placeC_neg {xs : List Entry} {o : Int} (h : ¬ 0 ≤ placeC xs o) : placeC xs o = -1 := by have := placeC_ge xs o; omega
theorem placeC_lt (xs : List Entry) (o : Int) : placeC xs o < xs.length ∨ placeC xs o = -1 := by
  by_cases h : 0 ≤ placeC xs o
  · obtain ⟨i, hi, h1, _⟩ := placeC_some h
    left; omega
  · exact .inr (placeC_neg h)
/-- From the place k on: each entry is so, and its object is of none ahead of it. -/
def openGo : List Entry → List Entry → Bool
  | _, [] => true
  | pre, e :: es => entryOk e && decide (placeC pre e.object_ < 0) && openGo (pre ++ [e]) es
def openAt (xs : List Entry) (k : Nat) : Bool := openGo (xs.take k) (xs.drop k)
def openOk (xs : List Entry) : Bool := decide (xs.length ≤ 6) && openAt xs 0
theorem openAt_step (xs : List Entry) (k : Nat) (h : k < xs.length) : openAt xs k = (entryOk xs[k] && decide (placeC (xs.take k) xs[k].object_ < 0) && openAt xs (k+1)) := by
  unfold openAt
  rw [List.drop_eq_getElem_cons h]
  show (_ && _ && openGo (xs.take k ++ [xs[k]]) _) = _
  rw [List.take_append_getElem h]
theorem openAt_end (xs : List Entry) (k : Nat) (h : ¬ k < xs.length) : openAt xs k = true := by
  unfold openAt
  rw [List.drop_eq_nil_of_le (by omega)]
  rfl
theorem openGo_all : ∀ (pre es : List Entry), openGo pre es = true → ∀ i, (h : i < es.length) → entryOk es[i] = true ∧ placeC (pre ++ es.take i) es[i].object_ < 0
  | _, [], _, i, h => by simp at h
  | pre, e :: es, ho, i, h => by
    simp only [openGo, Bool.and_eq_true, decide_eq_true_eq] at ho
    obtain ⟨⟨h1, h2⟩, h3⟩ := ho
    cases i with
    | zero => simpa using ⟨h1, h2⟩
    | succ i =>
      have := openGo_all (pre ++ [e]) es h3 i (by simpa using h)
      simpa using this
theorem openOk_len {xs : List Entry} (h : openOk xs = true) : xs.length ≤ 6 := by
  simp only [openOk, Bool.and_eq_true, decide_eq_true_eq] at h; exact h.1
theorem openOk_at {xs : List Entry} (h : openOk xs = true) : ∀ i, (hi : i < xs.length) → entryOk xs[i] = true ∧ ∀ j, (hj : j < i) → xs[j].object_ ≠ xs[i].object_ := by
  intro i hi
  simp only [openOk, Bool.and_eq_true] at h
  have h2 := h.2
  unfold openAt at h2
  have := openGo_all _ _ h2 i (by simpa using hi)
  simp only [List.take_zero, List.drop_zero, List.nil_append] at this
  refine ⟨this.1, fun j hj => ?_⟩
  have h3 := placeC_none this.2 j (by simp; omega)
  simpa using h3
theorem openOk_of_bad {xs : List Entry} (k : Nat) (h : openAt xs 0 = openAt xs k) (hb : openAt xs k = false) : openOk xs = false := by
  unfold openOk; rw [h, hb]; simp
/-- What Opened tells. -/
def openedC (xs : List Entry) (o : Int) : Int := if openOk xs = true then placeC xs o else -1
theorem openedC_ge (xs : List Entry) (o : Int) : -1 ≤ openedC xs o := by
  unfold openedC; split
  · exact placeC_ge _ _
  · omega
theorem openedC_lt (xs : List Entry) (o : Int) : openedC xs o < xs.length ∨ openedC xs o = -1 := by
  unfold openedC; split
  · exact placeC_lt _ _
  · exact .inr rfl
/-- AddRead. -/
def readE (o v x : Int) : Entry := ⟨o, v, x, x, false⟩
def addBad (xs : List Entry) (o v x : Int) : Bool := !openOk xs || !entryOk (readE o v x) || decide (0 ≤ placeC xs o)
def addC (xs : List Entry) (o v x : Int) : Int := if addBad xs o v x = true then 1 else if xs.length = 6 then 2 else 0
def addL (xs : List Entry) (o v x : Int) : List Entry := if addC xs o v x = 0 then xs ++ [readE o v x] else xs
theorem addL_len (xs : List Entry) (o v x : Int) (h : xs.length ≤ 1048576) : (addL xs o v x).length ≤ 1048576 := by
  unfold addL
  split
  · rename_i hc
    unfold addC at hc
    split at hc
    · omega
    · rename_i hb
      have ho : openOk xs = true := by unfold addBad at hb; revert hb; cases openOk xs <;> simp
      have := openOk_len ho
      simp
      omega
  · exact h
/-- SetNew. -/
def setOkC (xs : List Entry) (o x : Int) : Bool := decide (0 ≤ openedC xs o) && isVal x
def wr6 (x : Int) (e : Entry) : Entry := ⟨e.object_, e.version_, e.old_, x, true⟩
def setAt : List Entry → Nat → Int → List Entry
  | [], _, _ => []
  | e :: es, 0, x => wr6 x e :: es
  | e :: es, k+1, x => e :: setAt es k x
theorem setAt_len : ∀ (xs : List Entry) (k : Nat) (x : Int), (setAt xs k x).length = xs.length
  | [], _, _ => rfl
  | e :: es, 0, x => rfl
  | e :: es, k+1, x => by simp [setAt, setAt_len es k x]
def setL (xs : List Entry) (o x : Int) : List Entry := if setOkC xs o x = true then setAt xs (openedC xs o).toNat x else xs
theorem setL_len (xs : List Entry) (o x : Int) : (setL xs o x).length = xs.length := by
  unfold setL; split
  · exact setAt_len _ _ _
  · rfl
theorem setAt_cells : ∀ (xs : List Entry) (k : Nat) (x : Int), k < xs.length → ((xs.flatMap Entry.enc).set (k * 5 + 3) (.int .i64 x)).set (k * 5 + 4) (.bool true) = (setAt xs k x).flatMap Entry.enc
  | [], k, x, h => by simp at h
  | e :: es, 0, x, _ => by simp [setAt, Entry.enc, wr6]
  | e :: es, k+1, x, h => by
    have ih := setAt_cells es k x (by simpa using h)
    rw [List.flatMap_cons, setAt, List.flatMap_cons, ← ih]
    have h5 : (Entry.enc e).length = 5 := rfl
    rw [List.set_append_right _ _ (by rw [h5]; omega), List.set_append_right _ _ (by rw [h5]; omega), h5]
    rw [show (k + 1) * 5 + 3 - 5 = k * 5 + 3 by omega, show (k + 1) * 5 + 4 - 5 = k * 5 + 4 by omega]
/-- In order of the objects, no two alike: from the place k on. -/
def ascGo : List Entry → Bool
  | a :: b :: es => decide (a.object_ < b.object_) && ascGo (b :: es)
  | _ => true
theorem asc_step (xs : List Entry) (k : Nat) (h : k + 1 < xs.length) : ascGo (xs.drop k) = (decide (xs[k].object_ < xs[k+1].object_) && ascGo (xs.drop (k+1))) := by
  rw [List.drop_eq_getElem_cons (by omega : k < xs.length), List.drop_eq_getElem_cons h]; rfl
theorem asc_end (xs : List Entry) (k : Nat) (h : ¬ k + 1 < xs.length) : ascGo (xs.drop k) = true := by
  cases e : xs.drop k with
  | nil => rfl
  | cons a l =>
    cases l with
    | nil => rfl
    | cons b l => have := congrArg List.length e; simp at this; omega
theorem ascGo_at : ∀ (xs : List Entry), ascGo xs = true → ∀ j, (h : j + 1 < xs.length) → xs[j].object_ < xs[j+1].object_
  | [], _, j, h => by simp at h
  | [a], _, j, h => by simp at h
  | a :: b :: es, ho, j, h => by
    simp only [ascGo, Bool.and_eq_true, decide_eq_true_eq] at ho
    cases j with
    | zero => simpa using ho.1
    | succ j => exact ascGo_at (b :: es) ho.2 j (by simpa using h)
theorem ascGo_of : ∀ (xs : List Entry), (∀ j, (h : j + 1 < xs.length) → xs[j].object_ < xs[j+1].object_) → ascGo xs = true
  | [], _ => rfl
  | [a], _ => rfl
  | a :: b :: es, ho => by
    simp only [ascGo, Bool.and_eq_true, decide_eq_true_eq]
    refine ⟨by simpa using ho 0 (by simp), ascGo_of (b :: es) fun j h => ?_⟩
    exact ho (j+1) (by simp at h ⊢; omega)
/-- In order of the objects. -/
def ordGo : List Entry → Bool
  | a :: b :: es => decide (a.object_ ≤ b.object_) && ordGo (b :: es)
  | _ => true
theorem ordGo_at : ∀ (xs : List Entry), ordGo xs = true → ∀ j, (h : j + 1 < xs.length) → xs[j].object_ ≤ xs[j+1].object_
  | [], _, j, h => by simp at h
  | [a], _, j, h => by simp at h
  | a :: b :: es, ho, j, h => by
    simp only [ordGo, Bool.and_eq_true, decide_eq_true_eq] at ho
    cases j with
    | zero => simpa using ho.1
    | succ j => exact ordGo_at (b :: es) ho.2 j (by simpa using h)
theorem ordGo_of : ∀ (xs : List Entry), (∀ j, (h : j + 1 < xs.length) → xs[j].object_ ≤ xs[j+1].object_) → ordGo xs = true
  | [], _ => rfl
  | [a], _ => rfl
  | a :: b :: es, ho => by
    simp only [ordGo, Bool.and_eq_true, decide_eq_true_eq]
    refine ⟨by simpa using ho 0 (by simp), ordGo_of (b :: es) fun j h => ?_⟩
    exact ho (j+1) (by simp at h ⊢; omega)
theorem ordGo_bad {xs : List Entry} (j : Nat) (h : j + 1 < xs.length) (hb : xs[j+1].object_ < xs[j].object_) : ordGo xs = false := by
  cases e : ordGo xs with
  | false => rfl
  | true => have := ordGo_at xs e j h; omega
/-- An open list that is in order is ascending. -/
theorem ord_asc {xs : List Entry} (ho : openOk xs = true) : ordGo xs = ascGo xs := by
  cases e : ascGo xs with
  | true => exact ordGo_of xs fun j h => Int.le_of_lt (ascGo_at xs e j h)
  | false =>
    cases e2 : ordGo xs with
    | false => rfl
    | true =>
      have : ascGo xs = true := ascGo_of xs fun j h => by
        have h1 := ordGo_at xs e2 j h
        have h2 := (openOk_at ho (j+1) h).2 j (by omega)
        omega
      rw [this] at e; cases e
def descOk (ow st : Int) (xs : List Entry) : Bool := inB ow 0 3 && inB st 0 2 && decide (0 < xs.length) && openOk xs && ascGo xs
/-- What a status is called; empty where there is none. -/
def stW (st : Int) : ByteArray := if st = 0 then ⟨#[117, 110, 100, 101, 99, 105, 100, 101, 100]⟩ else if st = 1 then ⟨#[99, 111, 109, 109, 105, 116, 116, 101, 100]⟩ else if st = 2 then ⟨#[102, 97, 105, 108, 101, 100]⟩ else ⟨#[]⟩
theorem stW_in {st : Int} (h : inB st 0 2 = true) : (stW st).toList.isEmpty = false := by
  have h2 : 0 ≤ st ∧ st ≤ 2 := by simpa [inB] using h
  have : st = 0 ∨ st = 1 ∨ st = 2 := by omega
  rcases this with rfl | rfl | rfl <;> (rw [ByteArray.toList_eq]; rfl)
theorem stW_out {st : Int} (h : inB st 0 2 = false) : (stW st).toList.isEmpty = true := by
  have h2 : ¬ (0 ≤ st ∧ st ≤ 2) := fun h2 => by
    have : inB st 0 2 = true := by simp [inB, h2]
    rw [this] at h
    cases h
  unfold stW
  rw [if_neg (by omega), if_neg (by omega), if_neg (by omega), ByteArray.toList_eq]
  rfl
/-- Two entries at the same object, one a Write. -/
def writeAt (ys : List Entry) (p : Nat) : Bool := (ys[p]?.map (·.write_)).getD false
theorem writeAt_eq {ys : List Entry} {p : Nat} (h : p < ys.length) : writeAt ys p = ys[p].write_ := by
  unfold writeAt; rw [List.getElem?_eq_getElem h]; rfl
def meetAt (ys : List Entry) (e : Entry) : Bool := decide (0 ≤ placeC ys e.object_) && (e.write_ || writeAt ys (placeC ys e.object_).toNat)
def meetsC (ow1 st1 : Int) (xs : List Entry) (ow2 st2 : Int) (ys : List Entry) : Bool := descOk ow1 st1 xs && descOk ow2 st2 ys && xs.any (meetAt ys)
theorem any_step {α : Type} (f : α → Bool) (xs : List α) (k : Nat) (h : k < xs.length) : (xs.drop k).any f = (f xs[k] || (xs.drop (k+1)).any f) := by
  rw [List.drop_eq_getElem_cons h]; rfl
theorem descOk_open {ow st : Int} {xs : List Entry} (h : descOk ow st xs = true) : openOk xs = true := by
  unfold descOk at h; simp only [Bool.and_eq_true] at h; exact h.1.2
/-- The open list in order of the objects. -/
def sortGo (xs : List Entry) : Nat → Nat → List Entry
  | 0, _ => []
  | f+1, o => (if 0 ≤ placeC xs o then (xs[(placeC xs o).toNat]?).toList else []) ++ sortGo xs f (o+1)
theorem sortGo_step (xs : List Entry) (f o : Nat) : sortGo xs (f+1) o = (if 0 ≤ placeC xs o then (xs[(placeC xs o).toNat]?).toList else []) ++ sortGo xs f (o+1) := rfl
def sortC (xs : List Entry) : List Entry := sortGo xs 8 0
def makeOk (ow : Int) (xs : List Entry) : Bool := inB ow 0 3 && openOk xs && decide (0 < xs.length)
def makeL (ow : Int) (xs : List Entry) : List Entry := if makeOk ow xs = true then sortC xs else []
def makeOw (ow : Int) (xs : List Entry) : Int := if makeOk ow xs = true then ow else 0
theorem sortGo_len (xs : List Entry) : ∀ f o, (sortGo xs f o).length ≤ f
  | 0, _ => by simp [sortGo]
  | f+1, o => by
    have := sortGo_len xs f (o+1)
    unfold sortGo
    rw [List.length_append]
    split
    · cases xs[(placeC xs o).toNat]? <;> simp <;> omega
    · simp; omega
theorem makeL_len (ow : Int) (xs : List Entry) : (makeL ow xs).length ≤ 8 := by
  unfold makeL; split
  · exact sortGo_len xs 8 0
  · simp
end Go.Proofs.YtbbdchlabdilcabGreat
