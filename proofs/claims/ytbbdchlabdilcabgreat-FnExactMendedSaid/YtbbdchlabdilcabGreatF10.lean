/- Chapter 10: what its functions answer. -/
import Derived.Test.YtbbdchlabdilcabGreatF8
import Derived.Test.YtbbdchlabdilcabGreatM3
import Derived.Test.YtbbdchlabdilcabGreatN10
namespace Go.Proofs.YtbbdchlabdilcabGreat
set_option maxRecDepth 100000
open Go.RowKit Go.Proofs Go.Own
def checkOk (t : ThreadD) : Bool := t.check_ == -1 || inB t.check_ 0 ((t.open_.length : Int) - 2)
def firstOk (s : StoreD) (t : ThreadD) : Bool := stackOk s.heads_ s.descs_ t.stack_ && inB t.id_ 0 3 && progOk t.prog_ && inB t.at_ 0 t.prog_.length && openOk t.open_ && checkOk t && inB t.state_ 0 3 && inB t.commits_ 0 1000000 && inB t.fails_ 0 1000000
def regOk (t : ThreadD) : Nat → Bool
  | 0 => isVal t.reg0_
  | 1 => isVal t.reg1_
  | 2 => isVal t.reg2_
  | _ => isVal t.reg3_
def objsAt (n : Nat) (xs : List Entry) (k : Nat) : Bool := (xs.drop k).all fun e => decide (e.object_ < (n : Int))
theorem objsAt_step (n : Nat) (xs : List Entry) (k : Nat) (h : k < xs.length) : objsAt n xs k = (decide (xs[k].object_ < (n : Int)) && objsAt n xs (k+1)) := by
  unfold objsAt
  rw [List.drop_eq_getElem_cons h]; rfl
theorem objsAt_end (n : Nat) (xs : List Entry) (k : Nat) (h : ¬ k < xs.length) : objsAt n xs k = true := by
  unfold objsAt
  rw [List.drop_eq_nil_of_le (by omega)]; rfl
def ownerAt (ds : List DescD) (m : Int) : Int := match ds[m.toNat]? with | some d => d.owner_ | none => 0
def opAt (xs : List Instr) (k : Int) : Int := match xs[k.toNat]? with | some i => i.op_ | none => 0
def mineOk (s : StoreD) (t : ThreadD) : Bool := t.mine_ == -1 || (t.check_ == -1 && inB t.mine_ 0 ((s.descs_.length : Int) - 1) && ownerAt s.descs_ t.mine_ == t.id_ && decide (0 < t.stack_.length) && decide (t.at_ < (t.prog_.length : Int)) && opAt t.prog_ t.at_ == 6)
def threadOk (s : StoreD) (t : ThreadD) : Bool := firstOk s t && (regOk t 0 && regOk t 1 && regOk t 2 && regOk t 3) && objsAt s.heads_.length t.open_ 0 && mineOk s t
end Go.Proofs.YtbbdchlabdilcabGreat
