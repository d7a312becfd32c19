/- What chapter 4's functions answer, as functions of what is read (every NaN is one). -/
import Derived.Test.YtjcnoogloncbbaaTypes4
namespace Go.Proofs.Ytjcnoogloncbbaa
set_option maxRecDepth 100000
open Go.RowKit Go.Proofs Go.Own
abbrev C := R × R
def addR (a b : R) : R := fop .add .f64 a b
def subR (a b : R) : R := fop .sub .f64 a b
def mulR (a b : R) : R := fop .mul .f64 a b
def quoR (a b : R) : R := fop .quo .f64 a b
def negR (a : R) : R := fneg .f64 a
theorem rd_add (x y : Nat) (w : World) : rd (fr .add .f64 x y w) = addR (rd x) (rd y) := rdF_fr _ _ _ _ _
theorem rd_sub (x y : Nat) (w : World) : rd (fr .sub .f64 x y w) = subR (rd x) (rd y) := rdF_fr _ _ _ _ _
theorem rd_mul (x y : Nat) (w : World) : rd (fr .mul .f64 x y w) = mulR (rd x) (rd y) := rdF_fr _ _ _ _ _
theorem rd_quo (x y : Nat) (w : World) : rd (fr .quo .f64 x y w) = quoR (rd x) (rd y) := rdF_fr _ _ _ _ _
theorem rd_neg (x : Nat) : rd (Op.negFloat .f64 x) = negR (rd x) := fneg_rd _ _
def fullR (a : C) : C := (a.1.map wide, a.2.map wide)
def timesR (a b : C) : C := (subR (mulR a.1 b.1) (mulR a.2 b.2), addR (mulR a.1 b.2) (mulR a.2 b.1))
def plusR (a b : C) : C := (addR a.1 b.1, addR a.2 b.2)
def barR (a : C) : C := (a.1, negR a.2)
theorem ph_rd (x y : Nat) : (Phasor.mk x y).rd = (rd x, rd y) := rfl
end Go.Proofs.Ytjcnoogloncbbaa
