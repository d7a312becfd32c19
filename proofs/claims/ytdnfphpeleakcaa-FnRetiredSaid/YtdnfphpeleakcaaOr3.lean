/- A handle of a place and a Gen. -/
import Derived.Test.YtdnfphpeleakcaaI2d
namespace Go.Proofs.Ytdnfphpeleakcaa
set_option maxRecDepth 100000
open Go.RowKit Go.Proofs Go.Own
set_option linter.unusedVariables false
set_option linter.unusedSimpArgs false

theorem or3 (p g : Nat) (hp : p < 1024) (hg : g < 8) : bits .or .i64 ((p : Int) * 8) (g : Int) = 8 * (p : Int) + (g : Int) := by
  have e1 : ((p : Int) * 8) = ((p * 8 : Nat) : Int) := by omega
  have h1 : (BitVec.ofInt 64 ((p * 8 : Nat) : Int)).toNat = p * 8 := by
    rw [BitVec.ofInt_natCast, BitVec.toNat_ofNat]; exact Nat.mod_eq_of_lt (by omega)
  have h2 : (BitVec.ofInt 64 (g : Int)).toNat = g := by
    rw [BitVec.ofInt_natCast, BitVec.toNat_ofNat]; exact Nat.mod_eq_of_lt (by omega)
  rw [e1]
  show IntKind.i64.wrap ((BitVec.ofInt 64 ((p * 8 : Nat) : Int) ||| BitVec.ofInt 64 (g : Int)).toNat : Int) = _
  have h3 : (p * 8) ||| g = p * 8 + g := by
    have := Nat.shiftLeft_add_eq_or_of_lt (b := g) (i := 3) (by omega) p
    rw [Nat.shiftLeft_eq, show p * 2 ^ 3 = p * 8 from rfl] at this
    exact this.symm
  rw [BitVec.toNat_or, h1, h2, h3, IntKind.wrap_i64]
  omega
theorem impl_handleOf (p : Nat) (g : Int) (w : World) (hp : p < 1024) (h0 : 0 ≤ g) (h1 : g < 8) :
    Calls Try.prog 40 #[.int .i64 p, .int .i64 g] w fun e w' => e = .returned (.int .i64 (8 * (p : Int) + g)) ∧ w = w' := by
  obtain ⟨k, rfl⟩ : ∃ k : Nat, g = k := ⟨g.toNat, by omega⟩
  have hk : k < 8 := by omega
  go_enter Try.func40, Try.ntmps40
  go_wp2
  go_ret
  refine ⟨ret_int ?_, rfl⟩
  exact or3 p k hp hk
end Go.Proofs.Ytdnfphpeleakcaa
