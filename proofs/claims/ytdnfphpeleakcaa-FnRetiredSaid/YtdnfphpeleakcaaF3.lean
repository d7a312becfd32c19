/- What chapter 3 says, as functions on lists. -/
import Derived.Test.YtdnfphpeleakcaaF2
import Derived.Test.YtdnfphpeleakcaaTypes2
namespace Go.Proofs.Ytdnfphpeleakcaa
set_option maxRecDepth 100000
open Go.RowKit Go.Proofs Go.Own

structure Yard where
  arena : Arena
  pins : List Int
  retired : List Gone
  passes : Int
/-- Handles of retired blocks are numbers of the machine. -/
def GonesIn (gs : List Gone) : Prop := ∀ g ∈ gs, InI g.handle_
def zeroG : Gone := ⟨0, 0⟩
def hasGone (l : List Gone) (h : Int) : Bool := l.any fun g => decide (g.handle_ = h)
def findF : List Gone → Int → Int
  | [], _ => -1
  | g :: l, h => if g.handle_ = h then 0 else if findF l h = -1 then -1 else findF l h + 1
def goneOk (y : Yard) (k : Nat) : Bool :=
  let g := y.retired.getD k zeroG
  liveF y.arena g.handle_ && inB g.pass_ 0 y.passes && !(decide (0 < k) && decide ((y.retired.getD (k - 1) zeroG).pass_ > g.pass_)) && !decide (0 ≤ findF (y.retired.take k) g.handle_)
def yardOk (y : Yard) : Bool :=
  arenaOk y.arena && inB y.passes 0 1000000 && inB y.pins.length 1 6 && y.pins.all (inB · (-1) y.passes) && decide (y.retired.length ≤ 24) && (List.range y.retired.length).all (goneOk y)
def newYardF (b t : Int) : Yard × Bool :=
  if (newArenaF b).2 && inB t 1 6 then (⟨(newArenaF b).1, List.replicate t.toNat (-1), [], 0⟩, true) else (⟨⟨[], []⟩, [], [], 0⟩, false)
def pinF (y : Yard) (t : Int) : Yard × Int :=
  if !yardOk y || !inB t 0 (y.pins.length - 1) then (y, 1)
  else if 0 ≤ y.pins.getD t.toNat 0 then (y, 2)
  else ({ y with pins := y.pins.set t.toNat y.passes }, 0)
def unpinF (y : Yard) (t : Int) : Yard × Int :=
  if !yardOk y || !inB t 0 (y.pins.length - 1) then (y, 1)
  else if y.pins.getD t.toNat 0 < 0 then (y, 3)
  else ({ y with pins := y.pins.set t.toNat (-1) }, 0)
def retireF (y : Yard) (h : Int) : Yard × Int :=
  if !yardOk y then (y, 1)
  else if !liveF y.arena h || decide (0 ≤ findF y.retired h) then (y, 4)
  else if y.retired.length = 24 then (y, 5)
  else ({ y with retired := y.retired ++ [⟨h, y.passes⟩] }, 0)
def leastF (pins : List Int) : Int := pins.foldl (fun m p => if 0 ≤ p then min m p else m) 1000001
def passStep (least : Int) (s : Arena × List Gone × Int) (g : Gone) : Arena × List Gone × Int :=
  if g.pass_ < least then ((giveF s.1 g.handle_).1, s.2.1, s.2.2 + 1) else (s.1, s.2.1 ++ [g], s.2.2)
def passAt (y : Yard) (k : Nat) : Arena × List Gone × Int := (y.retired.take k).foldl (passStep (leastF y.pins)) (y.arena, [], 0)
def passF (y : Yard) : Yard × Int × Int :=
  if !yardOk y || decide (y.passes = 1000000) then (y, 0, 1)
  else (⟨(passAt y y.retired.length).1, y.pins, (passAt y y.retired.length).2.1, y.passes + 1⟩, (passAt y y.retired.length).2.2, 0)
def classF (y : Yard) (p : Int) : Int :=
  if !yardOk y || !inB p 0 (y.arena.blocks.length - 1) then -1
  else
    let b := y.arena.blocks.getD p.toNat zeroB
    if hasFrom y.arena.list p 0 then 0 else if b.free_ then 1 else if 0 ≤ findF y.retired (8 * p + b.gen_) then 2 else 3
def countClass (y : Yard) (c : Int) : Nat := (List.range y.arena.blocks.length).countP fun p : Nat => decide (classF y p = c)
def countsF (y : Yard) : List Int × Bool := if yardOk y then ([0, 1, 2, 3].map fun c : Int => (countClass y c : Int), true) else ([0, 0, 0, 0], false)
end Go.Proofs.Ytdnfphpeleakcaa
