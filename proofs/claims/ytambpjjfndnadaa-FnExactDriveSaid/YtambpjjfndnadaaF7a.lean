/- Chapter 7: what Announce answers. -/
import Derived.Test.YtambpjjfndnadaaF7
namespace Go.Proofs.Ytambpjjfndnadaa
set_option maxRecDepth 100000
open Go.RowKit Go.Proofs Go.Own
def annOk (hs : List Head) (ds : List DescD) (d : DescD) : Bool := storeOk hs ds && descOk d.owner_ d.status_ d.entries_ && decide (d.status_ = 0) && !decide ((hs.length : Int) ≤ lastO d.entries_) && !decide (ds.length = 60)
def annL (hs : List Head) (ds : List DescD) (d : DescD) : List DescD := if annOk hs ds d = true then ds ++ [d] else ds
def annN (hs : List Head) (ds : List DescD) (d : DescD) : Int := if annOk hs ds d = true then (ds.length : Int) else -1
theorem annL_no {hs : List Head} {ds : List DescD} {d : DescD} (h : annOk hs ds d = false) : annL hs ds d = ds := by unfold annL; rw [h]; rfl
theorem annN_no {hs : List Head} {ds : List DescD} {d : DescD} (h : annOk hs ds d = false) : annN hs ds d = -1 := by unfold annN; rw [h]; rfl
theorem annL_yes {hs : List Head} {ds : List DescD} {d : DescD} (h : annOk hs ds d = true) : annL hs ds d = ds ++ [d] := by unfold annL; rw [h]; rfl
theorem annN_yes {hs : List Head} {ds : List DescD} {d : DescD} (h : annOk hs ds d = true) : annN hs ds d = (ds.length : Int) := by unfold annN; rw [h]; rfl
theorem ann1 {hs : List Head} {ds : List DescD} {d : DescD} (h : storeOk hs ds = false) : annOk hs ds d = false := by unfold annOk; rw [h]; rfl
theorem ann2 {hs : List Head} {ds : List DescD} {d : DescD} (h : descOk d.owner_ d.status_ d.entries_ = false) : annOk hs ds d = false := by unfold annOk; rw [h]; simp
theorem ann3 {hs : List Head} {ds : List DescD} {d : DescD} (h : ¬ d.status_ = 0) : annOk hs ds d = false := by unfold annOk; rw [decide_eq_false h]; simp
theorem ann4 {hs : List Head} {ds : List DescD} {d : DescD} (h : (hs.length : Int) ≤ lastO d.entries_) : annOk hs ds d = false := by unfold annOk; rw [decide_eq_true h]; simp
theorem ann5 {hs : List Head} {ds : List DescD} {d : DescD} (h : ds.length = 60) : annOk hs ds d = false := by unfold annOk; rw [decide_eq_true h]; simp
theorem ann6 {hs : List Head} {ds : List DescD} {d : DescD} (h1 : storeOk hs ds = true) (h2 : descOk d.owner_ d.status_ d.entries_ = true) (h3 : d.status_ = 0) (h4 : ¬ (hs.length : Int) ≤ lastO d.entries_) (h5 : ¬ ds.length = 60) : annOk hs ds d = true := by
  unfold annOk; rw [h1, h2, decide_eq_true h3, decide_eq_false h4, decide_eq_false h5]; rfl
/-- A store that a call has made: its lists of the call's own, apart, in blocks of its own. -/
def StoreOwn (w w' : World) (u0 u1 : Value) (hs : List Head) (ds : List DescD) : Prop := ∃ S0 S1 : Nat → Prop, ownL S0 w' u0 hs ∧ ownL S1 w' u1 ds ∧ (∀ k, S0 k → Rg w.heap.size w'.heap.size k) ∧ (∀ k, S1 k → Rg w.heap.size w'.heap.size k) ∧ ∀ k, S0 k → ¬ S1 k
end Go.Proofs.Ytambpjjfndnadaa
