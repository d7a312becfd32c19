/- Chapter 11: what its functions answer. -/
import Derived.Test.YtcafdihekamnkaaGreatF10
import Derived.Test.YtcafdihekamnkaaGreatN11w
import Derived.Test.YtcafdihekamnkaaGreatBase2
import Derived.Deep.QuietTactic
import Derived.BigQuiet
namespace Go.Proofs.YtcafdihekamnkaaGreat
set_option maxRecDepth 100000
open Go.RowKit Go.Proofs Go.Own
/-- An event of a log, over n objects, m descriptors, k threads. -/
def evOk (n m k : Nat) (e : Event) : Bool :=
  (inB e.kind_ 1 6 && inB e.thread_ 0 ((k : Int) - 1)) && ((!(e.kind_ == 1) || (inB e.object_ 0 ((n : Int) - 1) && isVal e.value_)) && (!(e.kind_ == 3) || inB e.object_ 0 ((m : Int) - 1)))
/-- How often descriptor i is told to be committed. -/
def cntEv (xs : List Event) (i : Nat) : Nat := xs.countP fun e => e.kind_ == 3 && e.object_ == (i : Int)
def cntRow (xs : List Event) (j m : Nat) : List Int := (List.range m).map fun i : Nat => (cntEv (xs.take j) i : Int)
theorem cntRow_len (xs : List Event) (j m : Nat) : (cntRow xs j m).length = m := by simp [cntRow]
theorem cntRow_get (xs : List Event) (j m i : Nat) (h : i < m) : (cntRow xs j m)[i]'(by rw [cntRow_len]; exact h) = (cntEv (xs.take j) i : Int) := by simp [cntRow]
theorem cntEv_le (xs : List Event) (i : Nat) : cntEv xs i ≤ xs.length := List.countP_le_length
theorem cntEv_step (xs : List Event) (j : Nat) (h : j < xs.length) (i : Nat) : cntEv (xs.take (j+1)) i = cntEv (xs.take j) i + (if xs[j].kind_ == 3 && xs[j].object_ == (i : Int) then 1 else 0) := by
  unfold cntEv
  rw [List.take_succ_eq_append_getElem h, List.countP_append, List.countP_singleton]
theorem cntRow_same (xs : List Event) (j m : Nat) (h : j < xs.length) (hk : (xs[j].kind_ == 3) = false) : cntRow xs (j+1) m = cntRow xs j m := by
  apply List.ext_getElem (by rw [cntRow_len, cntRow_len])
  intro t h1 h2
  have ht : t < m := by rw [cntRow_len] at h2; exact h2
  rw [cntRow_get _ _ _ _ ht, cntRow_get _ _ _ _ ht, cntEv_step xs j h, hk]
  simp
theorem cntRow_set (xs : List Event) (j m o : Nat) (h : j < xs.length) (hk : xs[j].kind_ = 3) (ho : xs[j].object_ = (o : Int)) : (cntRow xs j m).set o ((cntEv (xs.take j) o : Int) + 1) = cntRow xs (j+1) m := by
  apply List.ext_getElem (by rw [List.length_set, cntRow_len, cntRow_len])
  intro t h1 h2
  have ht : t < m := by rw [cntRow_len] at h2; exact h2
  rw [cntRow_get _ _ _ _ ht, cntEv_step xs j h, hk, ho]
  by_cases e : o = t
  · subst e; rw [List.getElem_set_self]; simp
  · rw [List.getElem_set_ne e, cntRow_get _ _ _ _ ht, if_neg (by simp; omega)]; simp
theorem cntRow_zero (xs : List Event) (m : Nat) : cntRow xs 0 m = List.replicate m 0 := by
  apply List.ext_getElem (by rw [cntRow_len, List.length_replicate])
  intro t h1 h2
  have ht : t < m := by rw [cntRow_len] at h1; exact h1
  rw [cntRow_get _ _ _ _ ht, List.getElem_replicate]
  simp [cntEv]
/-- Descriptor q is told to be committed once where it is, else never. -/
def cntAt (xs : List Event) (ds : List DescD) (q : Nat) : Bool := match ds[q]? with | some d => (cntEv xs q : Int) == (if d.status_ == 1 then 1 else 0) | none => true
theorem cntAt_of (xs : List Event) (ds : List DescD) (q : Nat) (h : q < ds.length) : cntAt xs ds q = ((cntEv xs q : Int) == (if ds[q].status_ == 1 then 1 else 0)) := by
  unfold cntAt
  rw [List.getElem?_eq_getElem h]
def logOk (xs : List Event) (ds : List DescD) (n k : Nat) : Bool := xs.all (evOk n ds.length k) && (List.range ds.length).all (cntAt xs ds) && decide ((xs.length : Int) ≤ 3000)
/-- Threads in their places, each right. -/
def thAt (d : WorldD) (q : Nat) : Bool := match d.threads_[q]? with | some t => t.id_ == (q : Int) && threadOk d.store_ t | none => true
theorem thAt_of (d : WorldD) (q : Nat) (h : q < d.threads_.length) : thAt d q = (d.threads_[q].id_ == (q : Int) && threadOk d.store_ d.threads_[q]) := by
  unfold thAt
  rw [List.getElem?_eq_getElem h]
def ownIn (k : Nat) (d : DescD) : Bool := decide (d.owner_ < (k : Int))
def partsOk (d : WorldD) : Bool := (storeOk d.store_.heads_ d.store_.descs_ && ((d.first_.length : Int) == d.store_.heads_.length)) && (allIn d.first_ (-1000000000) 1000000000 0 && inB (d.threads_.length : Int) 1 4)
def worldOk (d : WorldD) : Bool := partsOk d && ((List.range d.threads_.length).all (thAt d) && (d.store_.descs_.all (ownIn d.threads_.length) && logOk d.log_ d.store_.descs_ d.first_.length d.threads_.length))
theorem all_false {α : Type} (f : α → Bool) (xs : List α) (k : Nat) (h : k < xs.length) (hf : f xs[k] = false) : xs.all f = false := by
  rw [List.all_eq_false]
  exact ⟨xs[k], List.getElem_mem h, by rw [hf]; simp⟩
end Go.Proofs.YtcafdihekamnkaaGreat
/- Worlds that grow out of a world: facts said once of all of them; a region that draws its order, walked once, in a class of such worlds. -/
namespace Go.Own
open Go.RowKit
/-- A world that has grown out of W: what W has is there as it was. -/
structure Ext (W : World) where
  w : World
  h : Below W.heap.size W w
theorem Ext.size {W : World} (e : Ext W) : W.heap.size ≤ e.w.heap.size := e.h.size
/-- This very world. -/
def Ext.here (W : World) : Ext W := ⟨W, Below.refl _ _⟩
instance (W : World) : Nonempty (Ext W) := ⟨Ext.here W⟩
/-- A world that grows on from a grown one. -/
def Ext.on {W : World} (e : Ext W) {w' : World} (h : Below e.w.heap.size e.w w') : Ext W := ⟨w', e.h.trans (h.mono e.size)⟩
theorem Ext.ex {W : World} (e : Ext W) {w' : World} (h : Below e.w.heap.size e.w w') : ∃ E : Ext W, w' = E.w := ⟨e.on h, rfl⟩
theorem Ext.of {W w' : World} (h : Below W.heap.size W w') : ∃ E : Ext W, w' = E.w := ⟨⟨w', h⟩, rfl⟩
/-- A world grown out of a grown one has grown out of the first. -/
def Ext.back {W V : World} (h : Below W.heap.size W V) (e : Ext V) : Ext W := ⟨e.w, h.trans (e.h.mono h.size)⟩
theorem Ext.back_w {W V : World} (h : Below W.heap.size W V) (e : Ext V) : (e.back h).w = e.w := rfl
theorem Ext.cell {W : World} {b o : Nat} {v : Value} (hb : b < W.heap.size) (h : W.cell? ⟨b, o, none⟩ = some v) : ∀ e : Ext W, e.w.cell? ⟨b, o, none⟩ = some v := fun e => (e.h.cell (p := ⟨b, o, none⟩) hb).trans h
theorem Ext.froz {W : World} {b o : Nat} {v : Bool} (hb : b < W.heap.size) (h : W.frozen? ⟨b, o, none⟩ = v) : ∀ e : Ext W, e.w.frozen? ⟨b, o, none⟩ = v := fun e => (e.h.frozen (p := ⟨b, o, none⟩) hb).trans h
theorem Ext.flat {W : World} {v : Value} {n sz : Nat} {cs : List Value} (h : Flat W v n sz cs) : ∀ e : Ext W, Flat e.w v n sz cs := fun e => Flat.below h e.h
theorem Ext.now {W : World} {p : Addr} {v : Option Value} (h : ∀ e : Ext W, e.w.cell? p = v) : W.cell? p = v := h (Ext.here W)
theorem Ext.lt {W : World} {b : Nat} (h : b < W.heap.size) : ∀ e : Ext W, b < e.w.heap.size := fun e => Nat.lt_of_lt_of_le h e.size
theorem Ext.ne {W : World} {b : Nat} (h : b < W.heap.size) : ∀ e : Ext W, (b == e.w.heap.size) = false := fun e => by have := e.size; simp; omega
/-- A region that draws its order: one walk of the text's order, in all worlds grown out of W. -/
theorem wp_region_ext {P : Program} {id : Nat} {Q : Exit → Act → World → Prop} {a : Act} {w : World} {l : List Oper} (W : World) (hW : Below W.heap.size W w) (hm : P.follows .mixedOrders = true) (hB : Region.lexB .any l.toArray = true)
    (h : wpQuiet P l.toArray (fun w' => ∃ e : Ext W, w' = e.w) (fun a' => ∀ w', (∃ e : Ext W, w' = e.w) → Q .normal a' w') l a) : (Code.region id l.toArray true).wp P Q a w :=
  wp_region_quiet (C := fun w' => ∃ e : Ext W, w' = e.w) hm hB ⟨⟨_, hW.drew⟩, rfl⟩ (by simpa using h)
theorem call_ext {P : Program} {f : FuncId} {args : Array Value} {W : World} (E : Ext W) {v : Value} (h : Calls P f args E.w fun e w' => e = .returned v ∧ Below E.w.heap.size E.w w') : Calls P f args E.w fun e w'' => e = .returned v ∧ ∃ e2 : Ext W, w'' = e2.w :=
  h.mono fun _ _ ⟨he, hb⟩ => ⟨he, E.ex hb⟩
theorem call_ext_same {P : Program} {f : FuncId} {args : Array Value} {W : World} (E : Ext W) {v : Value} (h : Calls P f args E.w fun e w' => e = .returned v ∧ E.w = w') : Calls P f args E.w fun e w'' => e = .returned v ∧ ∃ e2 : Ext W, w'' = e2.w :=
  h.mono fun _ _ ⟨he, hb⟩ => ⟨he, E, hb.symm⟩
/-- A box that is made anew. -/
theorem Ext.alloc {W : World} (e : Ext W) (o : Obj) : Below W.heap.size W (e.w.alloc o) := e.h.alloc (by have := e.size; omega) _
end Go.Own
