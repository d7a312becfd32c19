/- Texts of the claim. -/
import Derived.Test.YtcafdihekamnkaaN10o
import Derived.Test.YtcafdihekamnkaaF0
import Derived.Test.YtcafdihekamnkaaF8
import Derived.Test.YtcafdihekamnkaaN10
/- The types of stage 9 lie in N10o from stage 10 on. -/
/- Chapter 9: what its functions answer. -/
namespace Go.Proofs.Ytcafdihekamnkaa
set_option maxRecDepth 100000
open Go.RowKit Go.Proofs Go.Own
/-- An instruction of a program of n lines. -/
def instrOk (e : Instr) (n : Int) : Bool :=
  if e.op_ = 1 then inB e.a_ 0 3 && inB e.b_ 0 7 else
  if e.op_ = 2 then inB e.a_ 0 7 && inB e.b_ 0 3 else
  if e.op_ = 3 then inB e.a_ 0 3 && isVal e.b_ else
  if e.op_ = 4 then inB e.a_ 0 3 && inB e.b_ 0 3 else
  if e.op_ = 5 then inB e.a_ 0 3 && inB e.b_ 0 n else
  if e.op_ = 6 then e.a_ == 0 && e.b_ == 0 else
  if e.op_ = 7 then e.a_ == 0 && e.b_ == 0 else
  if e.op_ = 8 then inB e.a_ 0 n && e.b_ == 0 else false
theorem op_of {e : Instr} {n : Int} (h : instrOk e n = true) : e.op_ = 1 ∨ e.op_ = 2 ∨ e.op_ = 3 ∨ e.op_ = 4 ∨ e.op_ = 5 ∨ e.op_ = 6 ∨ e.op_ = 7 ∨ e.op_ = 8 := by
  unfold instrOk at h
  repeat (split at h; · omega)
  cases h
def progAt (xs : List Instr) (k : Nat) : Bool := (xs.drop k).all fun e => instrOk e xs.length
def progOk (xs : List Instr) : Bool := progAt xs 0 && decide (xs.length ≤ 30)
theorem progAt_step (xs : List Instr) (k : Nat) (h : k < xs.length) : progAt xs k = (instrOk xs[k] xs.length && progAt xs (k+1)) := by
  unfold progAt
  rw [List.drop_eq_getElem_cons h]; rfl
theorem progAt_end (xs : List Instr) (k : Nat) (h : ¬ k < xs.length) : progAt xs k = true := by
  unfold progAt
  rw [List.drop_eq_nil_of_le (by omega)]; rfl
theorem progOk_len {xs : List Instr} (h : progOk xs = true) : xs.length ≤ 30 := by simp [progOk] at h; exact h.2
theorem progOk_get {xs : List Instr} (h : progOk xs = true) (k : Nat) (hk : k < xs.length) : instrOk xs[k] xs.length = true := by
  simp [progOk, progAt] at h; exact h.1 _ (List.getElem_mem hk)
/-- Whether an instruction names the object. -/
def names (e : Instr) (o : Int) : Bool := (e.op_ == 1 && e.b_ == o) || (e.op_ == 2 && e.a_ == o)
def namedAt (xs : List Instr) (o : Int) (k : Nat) : Bool := (xs.take k).any fun e => names e o
theorem namedAt_succ (xs : List Instr) (o : Int) (k : Nat) (h : k < xs.length) : namedAt xs o (k+1) = (namedAt xs o k || names xs[k] o) := by
  unfold namedAt
  rw [List.take_add_one, List.getElem?_eq_getElem h, Option.toList_some, List.any_append]; simp
def named (xs : List Instr) (o : Int) : Bool := namedAt xs o xs.length
/-- The objects below k that are named. -/
def touchTo (xs : List Instr) (k : Nat) : List Int := ((List.range k).filter fun o : Nat => named xs (o : Int)).map fun o : Nat => (o : Int)
theorem touchTo_succ (xs : List Instr) (k : Nat) : touchTo xs (k+1) = touchTo xs k ++ if named xs (k : Int) = true then [(k : Int)] else [] := by
  unfold touchTo
  rw [List.range_succ, List.filter_append, List.map_append]
  by_cases h : named xs (k : Int) = true <;> simp [h]
theorem touchTo_len (xs : List Instr) (k : Nat) : (touchTo xs k).length ≤ k := by
  unfold touchTo
  rw [List.length_map]
  exact Nat.le_trans (List.length_filter_le _ _) (by simp)
def touchL (xs : List Instr) : List Int := if progOk xs = true then touchTo xs 8 else []
theorem touchL_len (xs : List Instr) : (touchL xs).length ≤ 1048576 := by
  unfold touchL; split
  · exact Nat.le_trans (touchTo_len xs 8) (by decide)
  · exact Nat.zero_le _
def isJump (e : Instr) : Bool := e.op_ == 5 || e.op_ == 8
def jumpAt (xs : List Instr) (k : Nat) : Bool := (xs.drop k).any isJump
theorem jumpAt_step (xs : List Instr) (k : Nat) (h : k < xs.length) : jumpAt xs k = (isJump xs[k] || jumpAt xs (k+1)) := by
  unfold jumpAt
  rw [List.drop_eq_getElem_cons h]; rfl
theorem jumpAt_end (xs : List Instr) (k : Nat) (h : ¬ k < xs.length) : jumpAt xs k = false := by
  unfold jumpAt
  rw [List.drop_eq_nil_of_le (by omega)]; rfl
def straightC (xs : List Instr) : Bool := progOk xs && !jumpAt xs 0
end Go.Proofs.Ytcafdihekamnkaa
/- Chapter 10: what its functions answer. -/
namespace Go.Proofs.Ytcafdihekamnkaa
set_option maxRecDepth 100000
open Go.RowKit Go.Proofs Go.Own
def checkOk (t : ThreadD) : Bool := t.check_ == -1 || inB t.check_ 0 ((t.open_.length : Int) - 2)
def firstOk (s : StoreD) (t : ThreadD) : Bool := stackOk s.heads_ s.descs_ t.stack_ && inB t.id_ 0 3 && progOk t.prog_ && inB t.at_ 0 t.prog_.length && openOk t.open_ && checkOk t && inB t.state_ 0 3 && inB t.commits_ 0 1000000 && inB t.fails_ 0 1000000
def regOk (t : ThreadD) : Nat → Bool
  | 0 => isVal t.reg0_
  | 1 => isVal t.reg1_
  | 2 => isVal t.reg2_
  | _ => isVal t.reg3_
def objsAt (n : Nat) (xs : List Entry) (k : Nat) : Bool := (xs.drop k).all fun e => decide (e.object_ < (n : Int))
theorem objsAt_step (n : Nat) (xs : List Entry) (k : Nat) (h : k < xs.length) : objsAt n xs k = (decide (xs[k].object_ < (n : Int)) && objsAt n xs (k+1)) := by
  unfold objsAt
  rw [List.drop_eq_getElem_cons h]; rfl
theorem objsAt_end (n : Nat) (xs : List Entry) (k : Nat) (h : ¬ k < xs.length) : objsAt n xs k = true := by
  unfold objsAt
  rw [List.drop_eq_nil_of_le (by omega)]; rfl
def ownerAt (ds : List DescD) (m : Int) : Int := match ds[m.toNat]? with | some d => d.owner_ | none => 0
def opAt (xs : List Instr) (k : Int) : Int := match xs[k.toNat]? with | some i => i.op_ | none => 0
def mineOk (s : StoreD) (t : ThreadD) : Bool := t.mine_ == -1 || (t.check_ == -1 && inB t.mine_ 0 ((s.descs_.length : Int) - 1) && ownerAt s.descs_ t.mine_ == t.id_ && decide (0 < t.stack_.length) && decide (t.at_ < (t.prog_.length : Int)) && opAt t.prog_ t.at_ == 6)
def threadOk (s : StoreD) (t : ThreadD) : Bool := firstOk s t && (regOk t 0 && regOk t 1 && regOk t 2 && regOk t 3) && objsAt s.heads_.length t.open_ 0 && mineOk s t
end Go.Proofs.Ytcafdihekamnkaa
