/- What chapter 2 says, as functions on lists. -/
import Derived.Test.YtdnfphpeleakcaaF0
import Derived.Test.YtdnfphpeleakcaaTypes2
namespace Go.Proofs.Ytdnfphpeleakcaa
set_option maxRecDepth 100000
open Go.RowKit Go.Proofs Go.Own

structure Arena where
  blocks : List Block
  list : List Int
def Block.words (b : Block) : List Int := [b.words0_, b.words1_, b.words2_]
def blockOk (b : Block) : Bool := inB b.gen_ 0 5 && !(!b.free_ && decide (b.gen_ = 5)) && b.words.all isVal
/-- Whether a block is one that the list must hold. -/
def openB (b : Block) : Bool := b.free_ && decide (b.gen_ < 5)
def zeroB : Block := ⟨0, false, 0, 0, 0⟩
def placeIn (a : Arena) (k : Nat) : Bool :=
  let p := a.list.getD k 0
  inB p 0 (a.blocks.length - 1) && (a.blocks.getD p.toNat zeroB).free_ && !decide ((a.blocks.getD p.toNat zeroB).gen_ = 5) && !hasFrom (a.list.take k) p 0
def arenaOk (a : Arena) : Bool :=
  inB a.blocks.length 1 24 && a.blocks.all blockOk && (List.range a.list.length).all (placeIn a) && decide (a.list.length = a.blocks.countP openB)
def newArenaF (n : Int) : Arena × Bool :=
  if inB n 1 24 then (⟨List.replicate n.toNat ⟨0, true, 0, 0, 0⟩, (List.range n.toNat).map Int.ofNat⟩, true) else (⟨[], []⟩, false)
def liveF (a : Arena) (h : Int) : Bool :=
  arenaOk a && inB h 0 (8 * a.blocks.length - 1) && !(a.blocks.getD (h / 8).toNat zeroB).free_ && decide ((a.blocks.getD (h / 8).toNat zeroB).gen_ = h % 8)
def takeF (a : Arena) : Arena × Int × Bool :=
  if arenaOk a && !a.list.isEmpty then
    let p := a.list.headD 0
    let g := (a.blocks.getD p.toNat zeroB).gen_
    (⟨a.blocks.set p.toNat ⟨g, false, 0, 0, 0⟩, a.list.tail⟩, 8 * p + g, true)
  else (a, -1, false)
def giveF (a : Arena) (h : Int) : Arena × Bool :=
  if liveF a h then
    let p := (h / 8).toNat
    let b := a.blocks.getD p zeroB
    (⟨a.blocks.set p { b with free_ := true, gen_ := b.gen_ + 1 }, if b.gen_ + 1 < 5 then (h / 8) :: a.list else a.list⟩, true)
  else (a, false)
def getF (a : Arena) (h k : Int) : Int × Bool :=
  if liveF a h && inB k 0 2 then ((a.blocks.getD (h / 8).toNat zeroB).words.getD k.toNat 0, true) else (0, false)
def Block.put (b : Block) (k x : Int) : Block := if k = 0 then { b with words0_ := x } else if k = 1 then { b with words1_ := x } else { b with words2_ := x }
def putF (a : Arena) (h k x : Int) : Arena × Bool :=
  if liveF a h && inB k 0 2 && isVal x then (⟨a.blocks.set (h / 8).toNat ((a.blocks.getD (h / 8).toNat zeroB).put k x), a.list⟩, true) else (a, false)
def spentF (a : Arena) : Int := if arenaOk a then (a.blocks.countP fun b => b.free_ && decide (b.gen_ = 5) : Nat) else -1
end Go.Proofs.Ytdnfphpeleakcaa
