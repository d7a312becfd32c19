/- Chapter 11: what its functions answer. -/
import Derived.Test.YtbbdchlabdilcaaGreatF10
import Derived.Test.YtbbdchlabdilcaaGreatN11w
import Derived.Test.YtbbdchlabdilcaaGreatM3
namespace Go.Proofs.YtbbdchlabdilcaaGreat
set_option maxRecDepth 100000
open Go.RowKit Go.Proofs Go.Own
/-- An event of a log, over n objects, m descriptors, k threads. -/
def evOk (n m k : Nat) (e : Event) : Bool :=
  (inB e.kind_ 1 6 && inB e.thread_ 0 ((k : Int) - 1)) && ((!(e.kind_ == 1) || (inB e.object_ 0 ((n : Int) - 1) && isVal e.value_)) && (!(e.kind_ == 3) || inB e.object_ 0 ((m : Int) - 1)))
/-- How often descriptor i is told to be committed. -/
def cntEv (xs : List Event) (i : Nat) : Nat := xs.countP fun e => e.kind_ == 3 && e.object_ == (i : Int)
def cntRow (xs : List Event) (j m : Nat) : List Int := (List.range m).map fun i : Nat => (cntEv (xs.take j) i : Int)
theorem cntRow_len (xs : List Event) (j m : Nat) : (cntRow xs j m).length = m := by simp [cntRow]
theorem cntRow_get (xs : List Event) (j m i : Nat) (h : i < m) : (cntRow xs j m)[i]'(by rw [cntRow_len]; exact h) = (cntEv (xs.take j) i : Int) := by simp [cntRow]
theorem cntEv_le (xs : List Event) (i : Nat) : cntEv xs i ≤ xs.length := List.countP_le_length
theorem cntEv_step (xs : List Event) (j : Nat) (h : j < xs.length) (i : Nat) : cntEv (xs.take (j+1)) i = cntEv (xs.take j) i + (if xs[j].kind_ == 3 && xs[j].object_ == (i : Int) then 1 else 0) := by
  unfold cntEv
  rw [List.take_succ_eq_append_getElem h, List.countP_append, List.countP_singleton]
theorem cntRow_same (xs : List Event) (j m : Nat) (h : j < xs.length) (hk : (xs[j].kind_ == 3) = false) : cntRow xs (j+1) m = cntRow xs j m := by
  apply List.ext_getElem (by rw [cntRow_len, cntRow_len])
  intro t h1 h2
  have ht : t < m := by rw [cntRow_len] at h2; exact h2
  rw [cntRow_get _ _ _ _ ht, cntRow_get _ _ _ _ ht, cntEv_step xs j h, hk]
  simp
theorem cntRow_set (xs : List Event) (j m o : Nat) (h : j < xs.length) (hk : xs[j].kind_ = 3) (ho : xs[j].object_ = (o : Int)) : (cntRow xs j m).set o ((cntEv (xs.take j) o : Int) + 1) = cntRow xs (j+1) m := by
  apply List.ext_getElem (by rw [List.length_set, cntRow_len, cntRow_len])
  intro t h1 h2
  have ht : t < m := by rw [cntRow_len] at h2; exact h2
  rw [cntRow_get _ _ _ _ ht, cntEv_step xs j h, hk, ho]
  by_cases e : o = t
  · subst e; rw [List.getElem_set_self]; simp
  · rw [List.getElem_set_ne e, cntRow_get _ _ _ _ ht, if_neg (by simp; omega)]; simp
theorem cntRow_zero (xs : List Event) (m : Nat) : cntRow xs 0 m = List.replicate m 0 := by
  apply List.ext_getElem (by rw [cntRow_len, List.length_replicate])
  intro t h1 h2
  have ht : t < m := by rw [cntRow_len] at h1; exact h1
  rw [cntRow_get _ _ _ _ ht, List.getElem_replicate]
  simp [cntEv]
/-- Descriptor q is told to be committed once where it is, else never. -/
def cntAt (xs : List Event) (ds : List DescD) (q : Nat) : Bool := match ds[q]? with | some d => (cntEv xs q : Int) == (if d.status_ == 1 then 1 else 0) | none => true
theorem cntAt_of (xs : List Event) (ds : List DescD) (q : Nat) (h : q < ds.length) : cntAt xs ds q = ((cntEv xs q : Int) == (if ds[q].status_ == 1 then 1 else 0)) := by
  unfold cntAt
  rw [List.getElem?_eq_getElem h]
def logOk (xs : List Event) (ds : List DescD) (n k : Nat) : Bool := xs.all (evOk n ds.length k) && (List.range ds.length).all (cntAt xs ds) && decide ((xs.length : Int) ≤ 3000)
/-- Threads in their places, each right. -/
def thAt (d : WorldD) (q : Nat) : Bool := match d.threads_[q]? with | some t => t.id_ == (q : Int) && threadOk d.store_ t | none => true
theorem thAt_of (d : WorldD) (q : Nat) (h : q < d.threads_.length) : thAt d q = (d.threads_[q].id_ == (q : Int) && threadOk d.store_ d.threads_[q]) := by
  unfold thAt
  rw [List.getElem?_eq_getElem h]
def ownIn (k : Nat) (d : DescD) : Bool := decide (d.owner_ < (k : Int))
def partsOk (d : WorldD) : Bool := (storeOk d.store_.heads_ d.store_.descs_ && ((d.first_.length : Int) == d.store_.heads_.length)) && (allIn d.first_ (-1000000000) 1000000000 0 && inB (d.threads_.length : Int) 1 4)
def worldOk (d : WorldD) : Bool := partsOk d && ((List.range d.threads_.length).all (thAt d) && (d.store_.descs_.all (ownIn d.threads_.length) && logOk d.log_ d.store_.descs_ d.first_.length d.threads_.length))
theorem all_false {α : Type} (f : α → Bool) (xs : List α) (k : Nat) (h : k < xs.length) (hf : f xs[k] = false) : xs.all f = false := by
  rw [List.all_eq_false]
  exact ⟨xs[k], List.getElem_mem h, by rw [hf]; simp⟩
end Go.Proofs.YtbbdchlabdilcaaGreat
/- Chapter 12: descriptors done on values, one at a time. -/
namespace Go.Proofs.YtbbdchlabdilcaaGreat
set_option maxRecDepth 100000
open Go.RowKit Go.Proofs Go.Own
/-- A descriptor's entries done on values: the first k of them. -/
def doE (vs : List Int) (e : Entry) : List Int := if e.write_ = true then vs.set e.object_.toNat e.new_ else vs
def doTo (vs : List Int) (es : List Entry) : Nat → List Int
  | 0 => vs
  | k+1 => match es[k]? with | some e => doE (doTo vs es k) e | none => doTo vs es k
theorem doTo_succ {vs : List Int} {es : List Entry} {k : Nat} (h : k < es.length) : doTo vs es (k+1) = doE (doTo vs es k) es[k] := by
  conv => lhs; unfold doTo
  rw [List.getElem?_eq_getElem h]
theorem doE_len (vs : List Int) (e : Entry) : (doE vs e).length = vs.length := by unfold doE; split <;> simp
theorem doTo_len (vs : List Int) (es : List Entry) : ∀ k, (doTo vs es k).length = vs.length
  | 0 => rfl
  | k+1 => by
    unfold doTo
    split
    · rw [doE_len, doTo_len vs es k]
    · exact doTo_len vs es k
def doL (vs : List Int) (es : List Entry) : List Int := doTo vs es es.length
theorem doL_len (vs : List Int) (es : List Entry) : (doL vs es).length = vs.length := doTo_len _ _ _
def canL (vs : List Int) (es : List Entry) : Bool := es.all fun e => vs.getD e.object_.toNat 0 == e.old_
/-- Serial. -/
def args12 (fs : List Int) (ds : List DescD) (most : Int) : Bool := (inB (fs.length : Int) 1 8 && allIn fs (-1000000000) 1000000000 0 && !decide (most < (ds.length : Int))) && ds.all (descIn fs.length)
def serTo (vs : List Int) (ds : List DescD) : Nat → Nat → List Int × Bool
  | 0, _ => (vs, true)
  | n+1, i => match ds[i]? with
    | some d => if canL vs d.entries_ = true then serTo (doL vs d.entries_) ds n (i+1) else (vs, false)
    | none => (vs, true)
def serC (fs : List Int) (ds : List DescD) : List Int × Bool := if args12 fs ds 60 = true then serTo fs ds ds.length 0 else ([], false)
theorem serTo_len (ds : List DescD) : ∀ n i vs, (serTo vs ds n i).1.length = vs.length
  | 0, _, _ => rfl
  | n+1, i, vs => by
    unfold serTo
    split
    · split
      · rw [serTo_len ds n (i+1), doL_len]
      · rfl
    · rfl
end Go.Proofs.YtbbdchlabdilcaaGreat
/- Chapter 12: what its functions answer. -/
namespace Go.Proofs.YtbbdchlabdilcaaGreat
set_option maxRecDepth 100000
open Go.RowKit Go.Proofs Go.Own
/-- The values behind the first k events. -/
def stateN (fs : List Int) (ds : List DescD) (lg : List Event) : Nat → List Int
  | 0 => fs
  | k+1 => match lg[k]? with
    | some e => if e.kind_ = 3 then doL (stateN fs ds lg k) (entsAt ds e.object_) else stateN fs ds lg k
    | none => stateN fs ds lg k
theorem stateN_com {fs : List Int} {ds : List DescD} {lg : List Event} {k : Nat} (h : k < lg.length) (hk : lg[k].kind_ = 3) : stateN fs ds lg (k+1) = doL (stateN fs ds lg k) (entsAt ds lg[k].object_) := by
  conv => lhs; unfold stateN
  rw [List.getElem?_eq_getElem h]
  exact if_pos hk
theorem stateN_not {fs : List Int} {ds : List DescD} {lg : List Event} {k : Nat} (h : k < lg.length) (hk : ¬ lg[k].kind_ = 3) : stateN fs ds lg (k+1) = stateN fs ds lg k := by
  conv => lhs; unfold stateN
  rw [List.getElem?_eq_getElem h]
  exact if_neg hk
theorem stateN_len (fs : List Int) (ds : List DescD) (lg : List Event) : ∀ k, (stateN fs ds lg k).length = fs.length
  | 0 => rfl
  | k+1 => by
    unfold stateN
    split
    · split
      · rw [doL_len, stateN_len fs ds lg k]
      · exact stateN_len fs ds lg k
    · exact stateN_len fs ds lg k
def placeOk12 (d : WorldD) (p : Int) : Bool := worldOk d && inB p 0 d.log_.length
def stateC (d : WorldD) (p : Int) : List Int := if placeOk12 d p = true then stateN d.first_ d.store_.descs_ d.log_ p.toNat else []
/-- The descriptors of the commits among the first k events. -/
def comsTo (lg : List Event) (k : Nat) : List Int := (lg.take k).filterMap fun e => if e.kind_ = 3 then some e.object_ else none
theorem comsTo_yes {lg : List Event} {k : Nat} (h : k < lg.length) (hk : lg[k].kind_ = 3) : comsTo lg (k+1) = comsTo lg k ++ [lg[k].object_] := by
  unfold comsTo
  rw [List.take_succ_eq_append_getElem h, List.filterMap_append]
  simp [hk]
theorem comsTo_no {lg : List Event} {k : Nat} (h : k < lg.length) (hk : ¬ lg[k].kind_ = 3) : comsTo lg (k+1) = comsTo lg k := by
  unfold comsTo
  rw [List.take_succ_eq_append_getElem h, List.filterMap_append]
  simp [hk]
theorem comsTo_len (lg : List Event) (k : Nat) : (comsTo lg k).length ≤ lg.length := by
  unfold comsTo
  refine Nat.le_trans (List.length_filterMap_le _ _) ?_
  rw [List.length_take]; omega
def comsC (d : WorldD) : List Int := if worldOk d = true then comsTo d.log_ d.log_.length else []
/-- The opens of a thread's attempt ahead of a place. -/
def attTo (lg : List Event) (th : Int) : Nat → List Int
  | 0 => []
  | k+1 => match lg[k]? with
    | some e => if e.thread_ = th then (if e.kind_ = 1 then attTo lg th k ++ [(k : Int)] else if e.kind_ = 3 ∨ e.kind_ = 4 ∨ e.kind_ = 5 then [] else attTo lg th k) else attTo lg th k
    | none => attTo lg th k
theorem attTo_succ {lg : List Event} {th : Int} {k : Nat} (h : k < lg.length) : attTo lg th (k+1) = if lg[k].thread_ = th then (if lg[k].kind_ = 1 then attTo lg th k ++ [(k : Int)] else if lg[k].kind_ = 3 ∨ lg[k].kind_ = 4 ∨ lg[k].kind_ = 5 then [] else attTo lg th k) else attTo lg th k := by
  conv => lhs; unfold attTo
  rw [List.getElem?_eq_getElem h]
theorem attTo_len (lg : List Event) (th : Int) : ∀ k, (attTo lg th k).length ≤ k
  | 0 => Nat.le_refl _
  | k+1 => by
    have ih := attTo_len lg th k
    unfold attTo
    split
    · split
      · split
        · rw [List.length_append]; simp; omega
        · split
          · simp
          · omega
      · omega
    · omega
/-- Each is the place of an open of the thread's, ahead of k. -/
theorem attTo_mem (lg : List Event) (th : Int) : ∀ k, ∀ x ∈ attTo lg th k, ∃ n : Nat, x = (n : Int) ∧ n < k ∧ ∃ h : n < lg.length, lg[n].kind_ = 1
  | 0 => by simp [attTo]
  | k+1 => by
    have ih := attTo_mem lg th k
    have up : ∀ x ∈ attTo lg th k, ∃ n : Nat, x = (n : Int) ∧ n < k+1 ∧ ∃ h : n < lg.length, lg[n].kind_ = 1 := fun x hx => by
      obtain ⟨n, h1, h2, h3⟩ := ih x hx; exact ⟨n, h1, by omega, h3⟩
    unfold attTo
    split
    · rename_i e he
      have hkl : k < lg.length := by
        rcases Nat.lt_or_ge k lg.length with h | h
        · exact h
        · rw [List.getElem?_eq_none h] at he; cases he
      rw [List.getElem?_eq_getElem hkl] at he
      obtain rfl := Option.some.inj he
      split
      · split
        · rename_i hk1
          intro x hx
          rw [List.mem_append, List.mem_singleton] at hx
          rcases hx with hx | rfl
          · exact up x hx
          · exact ⟨k, rfl, by omega, hkl, hk1⟩
        · split
          · simp
          · exact up
      · exact up
    · exact up
/-- The object and the value that an event tells. -/
def evObj (lg : List Event) (p : Int) : Int := match lg[p.toNat]? with | some e => e.object_ | none => 0
def evVal (lg : List Event) (p : Int) : Int := match lg[p.toNat]? with | some e => e.value_ | none => 0
/-- The open at place i of a list is the last of its object. -/
def lastAt (lg : List Event) (os : List Int) (i : Nat) : Bool := (os.drop (i+1)).all fun q => !(evObj lg q == evObj lg (os.getD i 0))
def openOk12 (lg : List Event) (st os : List Int) (i : Nat) : Bool := !lastAt lg os i || (st.getD (evObj lg (os.getD i 0)).toNat 0 == evVal lg (os.getD i 0))
def seen12 (fs : List Int) (ds : List DescD) (lg : List Event) (p : Nat) : Bool :=
  let os := attTo lg (match lg[p]? with | some e => e.thread_ | none => 0) p
  decide (0 < os.length) && (List.range os.length).all (openOk12 lg (stateN fs ds lg (os.getD (os.length - 1) 0).toNat) os)
/-- What an event comes to: 0: explained, 2: a commit that is not, 3: a sight that is not. -/
def codeAt (fs : List Int) (ds : List DescD) (lg : List Event) (i : Nat) : Int := match lg[i]? with
  | some e => if e.kind_ = 3 then (if canL (stateN fs ds lg i) (entsAt ds e.object_) = true then 0 else 2) else if e.kind_ = 2 then (if seen12 fs ds lg i = true then 0 else 3) else 0
  | none => 0
def explTo (fs : List Int) (ds : List DescD) (lg : List Event) : Nat → Nat → Int × Int
  | 0, _ => (-1, 0)
  | n+1, i => if codeAt fs ds lg i = 0 then explTo fs ds lg n (i+1) else ((i : Int), codeAt fs ds lg i)
def explC (d : WorldD) : Int × Int := if worldOk d = true then explTo d.first_ d.store_.descs_ d.log_ d.log_.length 0 else (-1, 1)
theorem worldOk_ev {d : WorldD} (h : worldOk d = true) : ∀ i, (hi : i < d.log_.length) → evOk d.first_.length d.store_.descs_.length d.threads_.length d.log_[i] = true := by
  intro i hi
  unfold worldOk logOk at h
  simp only [Bool.and_eq_true] at h
  have z := h.2.2.2.1.1
  rw [List.all_eq_true] at z
  exact z _ (List.getElem_mem hi)
theorem worldOk_first {d : WorldD} (h : worldOk d = true) : 1 ≤ d.first_.length ∧ d.first_.length ≤ 8 ∧ d.first_.length = d.store_.heads_.length := by
  unfold worldOk partsOk at h
  simp only [Bool.and_eq_true] at h
  have h1 := (storeOk_all h.1.1.1).1
  have h2 : (d.first_.length : Int) = d.store_.heads_.length := by simpa using h.1.1.2
  omega
theorem worldOk_store12 {d : WorldD} (h : worldOk d = true) : storeOk d.store_.heads_ d.store_.descs_ = true := by
  unfold worldOk partsOk at h
  simp only [Bool.and_eq_true] at h
  exact h.1.1.1
theorem worldOk_ents {d : WorldD} (h : worldOk d = true) (i : Nat) (hi : i < d.store_.descs_.length) : ∀ k, (hk : k < d.store_.descs_[i].entries_.length) → 0 ≤ d.store_.descs_[i].entries_[k].object_ ∧ d.store_.descs_[i].entries_[k].object_ < (d.first_.length : Int) := by
  intro k hk
  have h1 := (storeOk_all (worldOk_store12 h)).2.2.1 i hi
  rw [descIn_is, Bool.and_eq_true, List.all_eq_true] at h1
  have h2 := h1.2 _ (List.getElem_mem hk)
  have h3 := (worldOk_first h).2.2
  rw [h3]
  unfold objIn at h2
  simpa using h2
theorem evOk_com {n m k : Nat} {e : Event} (h : evOk n m k e = true) (hk : e.kind_ = 3) : 0 ≤ e.object_ ∧ e.object_ < (m : Int) := by
  unfold evOk at h
  simp only [Bool.and_eq_true] at h
  have z := h.2.2
  rw [hk] at z
  have y : 0 ≤ e.object_ ∧ e.object_ ≤ (m : Int) - 1 := by simpa [inB] using z
  omega
theorem evOk_open {n m k : Nat} {e : Event} (h : evOk n m k e = true) (hk : e.kind_ = 1) : 0 ≤ e.object_ ∧ e.object_ < (n : Int) := by
  unfold evOk at h
  simp only [Bool.and_eq_true] at h
  have z := h.2.1
  rw [hk] at z
  have z2 : inB e.object_ 0 ((n : Int) - 1) = true ∧ isVal e.value_ = true := by simpa using z
  have y : 0 ≤ e.object_ ∧ e.object_ ≤ (n : Int) - 1 := by simpa [inB] using z2.1
  omega
end Go.Proofs.YtbbdchlabdilcaaGreat
