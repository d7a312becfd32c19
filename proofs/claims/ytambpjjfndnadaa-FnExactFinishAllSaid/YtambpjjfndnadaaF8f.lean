/- Chapter 8: what Finish answers. -/
import Derived.Test.YtambpjjfndnadaaF8
namespace Go.Proofs.Ytambpjjfndnadaa
set_option maxRecDepth 100000
open Go.RowKit Go.Proofs Go.Own
/-- At most so many steps, till the stack is empty; how many they were. -/
def finR : Nat → HS → HS × Nat
  | 0, x => (x, 0)
  | k+1, x => if x.st.length = 0 then (x, 0) else ((finR k (helpR x)).1, (finR k (helpR x)).2 + 1)
theorem finR_nil {k : Nat} {x : HS} (h : x.st.length = 0) : finR k x = (x, 0) := by cases k with
  | zero => rfl
  | succ k => exact if_pos h
theorem finR_cons {k : Nat} {x : HS} (h : ¬ x.st.length = 0) : finR (k+1) x = ((finR k (helpR x)).1, (finR k (helpR x)).2 + 1) := if_neg h
theorem finR_ok : ∀ (k : Nat) {x : HS}, x.ok → (finR k x).1.ok
  | 0, x, h => h
  | k+1, x, h => by
    by_cases hz : x.st.length = 0
    · rw [finR_nil hz]; exact h
    · rw [finR_cons hz]; exact finR_ok k (help_ok h)
theorem finR_le : ∀ (k : Nat) (x : HS), (finR k x).2 ≤ k
  | 0, x => Nat.le_refl _
  | k+1, x => by
    by_cases hz : x.st.length = 0
    · rw [finR_nil hz]; exact Nat.zero_le _
    · rw [finR_cons hz]; have := finR_le k (helpR x); show (finR k (helpR x)).2 + 1 ≤ k + 1; omega
/-- What has been reached behind n steps. -/
def FinAt (m : Nat) (x : HS) (n : Nat) (y : HS) : Prop := n ≤ m ∧ y.ok ∧ (finR m x).1 = (finR (m - n) y).1 ∧ (finR m x).2 = (finR (m - n) y).2 + n
theorem FinAt.zero (m : Nat) {x : HS} (h : x.ok) : FinAt m x 0 x := ⟨Nat.zero_le _, h, rfl, rfl⟩
theorem FinAt.step {m n : Nat} {x y : HS} (h : FinAt m x n y) (hn : n < m) (hy : ¬ y.st.length = 0) : FinAt m x (n+1) (helpR y) := by
  obtain ⟨h1, h2, h3, h4⟩ := h
  rw [show m - n = (m - (n+1)) + 1 by omega, finR_cons hy] at h3 h4
  exact ⟨hn, help_ok h2, h3, by rw [h4]; show (finR (m - (n+1)) (helpR y)).2 + 1 + n = _; omega⟩
theorem FinAt.end {m n : Nat} {x y : HS} (h : FinAt m x n y) (he : n = m ∨ y.st.length = 0) : finR m x = (y, n) := by
  obtain ⟨h1, h2, h3, h4⟩ := h
  have e : finR (m - n) y = (y, 0) := by
    rcases he with rfl | he
    · rw [Nat.sub_self]; rfl
    · exact finR_nil he
  rw [e] at h3 h4
  exact Prod.ext h3 (by rw [h4]; simp)
/-- What Finish answers. -/
structure FinD where
  x : HS
  n : Int
  b : Bool
def finOk (hs : List Head) (ds : List DescD) (st : List Frame) (m : Int) : Bool := stackOk hs ds st && inB m 0 2000
def finA (hs : List Head) (ds : List DescD) (st : List Frame) (m : Int) : FinD := if finOk hs ds st m = true then ⟨(finR m.toNat ⟨hs, ds, st⟩).1, (finR m.toNat ⟨hs, ds, st⟩).2, decide ((finR m.toNat ⟨hs, ds, st⟩).1.st.length = 0)⟩ else ⟨⟨hs, ds, st⟩, 0, false⟩
theorem finA_no {hs : List Head} {ds : List DescD} {st : List Frame} {m : Int} (h : finOk hs ds st m = false) : finA hs ds st m = ⟨⟨hs, ds, st⟩, 0, false⟩ := if_neg (by rw [h]; simp)
theorem finA_yes {hs : List Head} {ds : List DescD} {st : List Frame} {k : Nat} (h : finOk hs ds st k = true) {y : HS} {n : Nat} (e : finR k ⟨hs, ds, st⟩ = (y, n)) : finA hs ds st k = ⟨y, n, decide (y.st.length = 0)⟩ := by
  unfold finA; rw [if_pos h, Int.toNat_natCast, e]
end Go.Proofs.Ytambpjjfndnadaa
