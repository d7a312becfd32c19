/- Chapter 8: what Together answers. -/
import Derived.Test.YtambpjjfndnadaaF8
namespace Go.Proofs.Ytambpjjfndnadaa
set_option maxRecDepth 100000
open Go.RowKit Go.Proofs Go.Own
/-- A store and two stacks. -/
structure TS where
  hs : List Head
  ds : List DescD
  a : List Frame
  b : List Frame
def TS.ok (x : TS) : Prop := stackOk x.hs x.ds x.a = true ∧ stackOk x.hs x.ds x.b = true
def togStep (x : TS) (t : Bool) : TS := if t = true then ⟨(helpR ⟨x.hs, x.ds, x.b⟩).hs, (helpR ⟨x.hs, x.ds, x.b⟩).ds, x.a, (helpR ⟨x.hs, x.ds, x.b⟩).st⟩ else ⟨(helpR ⟨x.hs, x.ds, x.a⟩).hs, (helpR ⟨x.hs, x.ds, x.a⟩).ds, (helpR ⟨x.hs, x.ds, x.a⟩).st, x.b⟩
theorem togStep_yes (x : TS) : togStep x true = ⟨(helpR ⟨x.hs, x.ds, x.b⟩).hs, (helpR ⟨x.hs, x.ds, x.b⟩).ds, x.a, (helpR ⟨x.hs, x.ds, x.b⟩).st⟩ := rfl
theorem togStep_no (x : TS) : togStep x false = ⟨(helpR ⟨x.hs, x.ds, x.a⟩).hs, (helpR ⟨x.hs, x.ds, x.a⟩).ds, (helpR ⟨x.hs, x.ds, x.a⟩).st, x.b⟩ := rfl
theorem togStep_ok {x : TS} (h : x.ok) (t : Bool) : (togStep x t).ok := by
  cases t with
  | true => exact ⟨help_other (x := ⟨x.hs, x.ds, x.b⟩) h.2 h.1, help_ok (x := ⟨x.hs, x.ds, x.b⟩) h.2⟩
  | false => exact ⟨help_ok (x := ⟨x.hs, x.ds, x.a⟩) h.1, help_other (x := ⟨x.hs, x.ds, x.a⟩) h.1 h.2⟩
def togAt (ts : List Bool) (x : TS) (k : Nat) : TS := (ts.take k).foldl togStep x
theorem togAt_zero (ts : List Bool) (x : TS) : togAt ts x 0 = x := rfl
theorem togAt_step {ts : List Bool} {x : TS} {k : Nat} (h : k < ts.length) : togAt ts x (k+1) = togStep (togAt ts x k) ts[k] := by
  unfold togAt
  rw [List.take_succ_eq_append_getElem h, List.foldl_append]
  rfl
theorem togAt_ok {ts : List Bool} {x : TS} (h : x.ok) : ∀ k, k ≤ ts.length → (togAt ts x k).ok
  | 0, _ => h
  | k+1, hk => by rw [togAt_step (by omega)]; exact togStep_ok (togAt_ok h k (by omega)) _
def togOk (hs : List Head) (ds : List DescD) (a b : List Frame) (ts : List Bool) : Bool := stackOk hs ds a && stackOk hs ds b && decide (ts.length ≤ 400)
def togA_ (hs : List Head) (ds : List DescD) (a b : List Frame) (ts : List Bool) : TS := if togOk hs ds a b ts = true then togAt ts ⟨hs, ds, a, b⟩ ts.length else ⟨hs, ds, a, b⟩
theorem togA_yes {hs : List Head} {ds : List DescD} {a b : List Frame} {ts : List Bool} (h : togOk hs ds a b ts = true) : togA_ hs ds a b ts = togAt ts ⟨hs, ds, a, b⟩ ts.length := if_pos h
theorem togA_no {hs : List Head} {ds : List DescD} {a b : List Frame} {ts : List Bool} (h : togOk hs ds a b ts = false) : togA_ hs ds a b ts = ⟨hs, ds, a, b⟩ := if_neg (by rw [h]; simp)
end Go.Proofs.Ytambpjjfndnadaa
