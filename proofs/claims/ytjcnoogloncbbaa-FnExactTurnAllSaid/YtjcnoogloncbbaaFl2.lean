/- The run of a float's operation as an equation that a walk takes by itself: some bits, in the world as it was or drawn once more. -/
import Derived.Test.YtjcnoogloncbbaaFl
import Derived.Deep.Draws
import Derived.WalkLawsBesides
namespace Go.Own
set_option maxRecDepth 100000
open Go.RowKit
open Go
set_option linter.unusedVariables false
/-- How often an operation draws. -/
def fn (op : BinOp) (k : FloatKind) (x y : Nat) : Nat := if (floatBits op k x y).isSome then 0 else 1
/-- The bits that it answers in this world. -/
def fr (op : BinOp) (k : FloatKind) (x y : Nat) (w : World) : Nat := (floatBits op k x y).getD ((Question.nanBits k x y).cut (w.tape w.drawn (.nanBits k x y)))
theorem rdF_fr (op : BinOp) (k : FloatKind) (x y : Nat) (w : World) : rdF k (fr op k x y w) = fop op k (rdF k x) (rdF k y) := by
  rw [fop_rd]; unfold fr
  cases h : floatBits op k x y with
  | some r => exact rdF_some (floatBits_is h)
  | none => exact rdF_none (nan_cut _ _ _ _)
theorem run_farith {P : Program} (op : BinOp) (hop : op = .add ∨ op = .sub ∨ op = .mul ∨ op = .quo) (k : FloatKind) (x y : Nat) (w : World) :
    (Op.floatArith op k x y).run P w = .ok (.float k (fr op k x y w)) (w.drewN (fn op k x y)) := by
  unfold fr fn
  cases h : floatBits op k x y with
  | some r => unfold floatBits at h; rcases hop with rfl | rfl | rfl | rfl <;> simp only at h <;> simp [Op.floatArith, h] <;> rfl
  | none =>
    rcases hop with rfl | rfl | rfl | rfl <;> simp only [floatBits] at h <;> simp [Op.floatArith, h, Question.forced] <;> rfl
@[go_sem] theorem run_fadd {P : Program} (t : TypeId) (k : FloatKind) (x y : Nat) (w : World) : (binOp .add t (.float k x) (.float k y)).run P w = .ok (.float k (fr .add k x y w)) (w.drewN (fn .add k x y)) := by
  have h := run_farith (P := P) .add (by simp) k x y w
  simpa [binOp] using h
@[go_sem] theorem run_fsub {P : Program} (t : TypeId) (k : FloatKind) (x y : Nat) (w : World) : (binOp .sub t (.float k x) (.float k y)).run P w = .ok (.float k (fr .sub k x y w)) (w.drewN (fn .sub k x y)) := by
  have h := run_farith (P := P) .sub (by simp) k x y w
  simpa [binOp] using h
@[go_sem] theorem run_fmul {P : Program} (t : TypeId) (k : FloatKind) (x y : Nat) (w : World) : (binOp .mul t (.float k x) (.float k y)).run P w = .ok (.float k (fr .mul k x y w)) (w.drewN (fn .mul k x y)) := by
  have h := run_farith (P := P) .mul (by simp) k x y w
  simpa [binOp] using h
@[go_sem] theorem run_fquo {P : Program} (t : TypeId) (k : FloatKind) (x y : Nat) (w : World) : (binOp .quo t (.float k x) (.float k y)).run P w = .ok (.float k (fr .quo k x y w)) (w.drewN (fn .quo k x y)) := by
  have h := run_farith (P := P) .quo (by simp) k x y w
  simpa [binOp] using h
@[go_sem] theorem run_cadd {P : Program} (t : TypeId) (k : FloatKind) (a b c d : Nat) (w : World) : (binOp .add t (.complex k a b) (.complex k c d)).run P w = .ok (.complex k (fr .add k a c w) (fr .add k b d (w.drewN (fn .add k a c)))) (w.drewN (fn .add k a c + fn .add k b d)) := by
  have h := fun x y w => run_farith (P := P) .add (by simp) k x y w
  simp [binOp, Op.complexOp, Op.Complex.arith, h]
/-- A conversion between the two sizes: some bits, in the world as it was or drawn once more. -/
def fc (s k : FloatKind) (b : Nat) (w : World) : Nat :=
  if s = k then b else match s.decode b with
  | .nan _ _ => (Question.nanConv k b).cut (w.tape w.drawn (.nanConv k b))
  | .infinity g => k.encode (.infinity g)
  | .number g m e => if (k.decode (k.encode (.number g m e))).isInfinity then (Question.floatToFloat b).cut (w.tape w.drawn (.floatToFloat b)) else k.encode (.number g m e)
def fm (s k : FloatKind) (b : Nat) : Nat := if (floatToFloatBits s b k).isSome then 0 else 1
theorem run_fconv {P : Program} (s k : FloatKind) (b : Nat) (w : World) : (Conv.floatToFloat s b k).run P w = .ok (.float k (fc s k b w)) (w.drewN (fm s k b)) := by
  unfold Conv.floatToFloat fc fm floatToFloatBits
  by_cases h : s = k
  · simp [h]; rfl
  · simp only [if_neg h]
    cases hd : s.decode b with
    | nan a c => simp [Question.forced]; rfl
    | infinity g => simp; rfl
    | number g m e =>
      simp only
      split
      · simp [Question.forced]; rfl
      · simp; rfl
theorem run_convert_ff {P : Program} (src dst : TypeId) (s k : FloatKind) (b : Nat) (w : World) (hs : (P.underlying src).isSome = true) (hd : P.underlying dst = some (.float k)) :
    (convert src dst (.float s b)).run P w = .ok (.float k (fc s k b w)) (w.drewN (fm s k b)) := by
  obtain ⟨u, hs'⟩ := Option.isSome_iff_exists.1 hs
  have h := run_fconv (P := P) s k b w
  cases u <;> simp [convert, run_underlying hs', run_underlying hd, h]
theorem run_convert_cc {P : Program} (src dst : TypeId) (s k : FloatKind) (a b : Nat) (w : World) (hs : (P.underlying src).isSome = true) (hd : P.underlying dst = some (.complex k)) :
    (convert src dst (.complex s a b)).run P w = .ok (.complex k (fc s k a w) (fc s k b (w.drewN (fm s k a)))) (w.drewN (fm s k a + fm s k b)) := by
  obtain ⟨u, hs'⟩ := Option.isSome_iff_exists.1 hs
  have h := fun b w => run_fconv (P := P) s k b w
  cases u <;> simp [convert, run_underlying hs', run_underlying hd, Conv.complexToComplex, h]
theorem run_convert_if {P : Program} (src dst : TypeId) (i : IntKind) (n : Int) (k : FloatKind) (w : World) (hs : (P.underlying src).isSome = true) (hd : P.underlying dst = some (.float k)) :
    (convert src dst (.int i n)).run P w = .ok (.float k (floatOfInt k n)) w := by
  obtain ⟨u, hs'⟩ := Option.isSome_iff_exists.1 hs
  cases u <;> simp [convert, run_underlying hs', run_underlying hd, Conv.intToFloat, floatOfInt]
theorem datum_self {d : Ieee.Datum} (h : d.isNaN = false) : d.order d = some .eq := by
  cases d with
  | number s m e => simp [Ieee.Datum.order, compare, compareOfLessAndEq]
  | infinity s => simp [Ieee.Datum.order, compare, compareOfLessAndEq]
  | nan s t => cases h
theorem order_self {k : FloatKind} {x : Nat} (h : nanB k x = false) : k.format.order x x = some .eq := datum_self h
@[go_sem] theorem run_store_float {P : Program} (w : World) (a : Addr) (m : Mode) (k : FloatKind) (b : Nat) : (store a (.float k b) m).run P w = stored P w a (.float k b) m := run_store P w a _ m rfl
@[go_sem] theorem run_store_complex {P : Program} (w : World) (a : Addr) (m : Mode) (k : FloatKind) (b c : Nat) : (store a (.complex k b c) m).run P w = stored P w a (.complex k b c) m := run_store P w a _ m rfl
theorem order_ofInt (x : Int) : FloatKind.f64.format.order (floatOfInt .f64 x) (floatOfInt .f64 x) = some .eq := order_self (show (Ieee.double.read (Ieee.double.write (.number (x < 0) x.natAbs 0))).isNaN = false from read_write Ieee.double rfl)
theorem below_chain {W w w' : World} (h : Below W.heap.size W w) (h2 : Below w.heap.size w w') : Below W.heap.size W w' := h.trans (h2.mono h.size)
@[go_sem] theorem run_neg_float {P : Program} (k : FloatKind) (b : Nat) (w : World) : (Op.unary .neg (.float k b)).run P w = .ok (.float k (Op.negFloat k b)) w := rfl
@[go_sem] theorem setCell_drewN (w : World) (n : Nat) (a : Addr) (v : Value) : (w.drewN n).setCell a v = (w.setCell a v).drewN n := rfl
@[go_sem] theorem alloc_drewN (w : World) (n : Nat) (o : Obj) : (w.drewN n).alloc o = (w.alloc o).drewN n := rfl
theorem gen_world {K : Act → World → Prop} {a : Act} {w : World} (p : World → Prop) (h : p w) (k : ∀ W, p W → K a W) : K a w := k w h
end Go.Own
