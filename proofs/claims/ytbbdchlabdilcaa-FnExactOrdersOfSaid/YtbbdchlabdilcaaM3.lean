/- Lists of descriptors: the laws' helpers, in the form that the laws' walks take. -/
import Derived.Test.YtbbdchlabdilcaaN7o
import Derived.Test.YtbbdchlabdilcaaS12q
import Derived.Test.YtbbdchlabdilcaaI12p
namespace Go.Proofs.Ytbbdchlabdilcaa
set_option maxRecDepth 100000
open Go.RowKit Go.Proofs Go.Own
set_option linter.unusedVariables false
def szDescSD (xs : List DescD) : Nat := szD xs
def DescSB (xs : List DescD) : Prop := szDescSD xs ≤ 1048576
theorem descSB_store {xs : List DescD} (h : DescSB xs) : StoreB ⟨[], xs⟩ := by
  unfold DescSB szDescSD at h; unfold StoreB; simpa using h
theorem cntDescS_le {xs : List DescD} (h : DescSB xs) : cntDs xs ≤ 100000000 := by
  have z := storeB_parts (descSB_store h)
  have z2 := z.2.1
  have z3 := z.2.2.2
  dsimp only at z2 z3
  rw [cntDs_eq]
  omega
theorem toDescS_o (xs : List DescD) (v : Value) (w : World) (r : rdsL w v xs) (hb : DescSB xs) :
    Calls Try.prog 8 #[v] w fun e w' => ∃ u : Value, ∃ S : Nat → Prop, e = .returned u ∧ ownL S w' u xs ∧ (∀ b, S b → Rg w.heap.size w'.heap.size b) ∧ Below w.heap.size w w' := by
  have z := storeB_parts (descSB_store hb)
  refine (toDescS_v v xs w z.2.1 z.2.2.1 r).mono ?_
  rintro e w' ⟨u, rfl, o, b⟩
  exact ⟨u, _, rfl, o, fun _ h => h, b⟩
theorem eqDescS_o (xs : List DescD) (v u : Value) (w : World) (r : rdsL w v xs) (g : rdsL w u xs) :
    Calls Try.prog 11 #[v, u] w fun e w' => e = .returned (.bool true) ∧ Below w.heap.size w w' := eqDescS_v v u xs w r g
theorem szDescS_o (xs : List DescD) (v : Value) (k : Int) (w : World) (h0 : 0 ≤ k) (h1 : k ≤ 1048576) (r : rdsL w v xs) :
    Calls Try.prog 5 #[v, .int .i64 k] w fun e w' => e = .returned (.int .i64 (szR k (szDescSD xs))) ∧ Below w.heap.size w w' := szDescS_v v xs k w h0 h1 r
def cntDescS (xs : List DescD) : Nat := cntDs xs
def markDescSD (xs : List DescD) (k : Int) : List DescD := markDs xs k
theorem markDescS_o (S : Nat → Prop) (xs : List DescD) (v : Value) (k : Int) (w : World) (hS : ∀ b, S b → b < w.heap.size) (hb : DescSB xs) (h0 : 0 ≤ k) (h1 : k ≤ 900000000000) (o : ownL S w v xs) :
    Calls Try.prog 13 #[v, .int .i64 k] w fun r w' => r = .returned (.int .i64 (k + cntDescS xs)) ∧ ownL S w' v (markDescSD xs k) ∧ ChgS S w w' := by
  have z := storeB_parts (descSB_store hb)
  exact markDescS_v S v xs k w hS (fun i hi => by have := z.2.2.1 i hi; dsimp only at this; omega) h0 (by have := cntDescS_le hb; omega) o
end Go.Proofs.Ytbbdchlabdilcaa
/- Chapter 12: OrdersOf's contracts as the law's walk takes them. -/
namespace Go.Proofs.Ytbbdchlabdilcaa
set_option maxRecDepth 100000
open Go.RowKit Go.Proofs Go.Own
set_option linter.unusedVariables false
theorem spec_OrdersOfW (fs : List Int) (v0 : Value) (ds : List DescD) (v1 : Value) (w : World) (r0 : rdsL w v0 fs) (hb0 : IntSB fs) (r1 : rdsL w v1 ds) (hb1 : DescSB ds) :
    Calls Try.prog 15 #[v0, v1] w fun e w' => e = .returned (.tuple #[.int .i64 (ordC fs ds), .bool (args12 fs ds 6)]) ∧ Below w.heap.size w w' := spec_OrdersOf0 fs ds v0 v1 w r0 r1
theorem impl_OrdersOfW (fs : List Int) (v0 : Value) (ds : List DescD) (v1 : Value) (w : World) (r0 : rdsL w v0 fs) (hb0 : IntSB fs) (r1 : rdsL w v1 ds) (hb1 : DescSB ds) :
    Calls Try.prog 16 #[v0, v1] w fun e w' => e = .returned (.tuple #[.int .i64 (ordC fs ds), .bool (args12 fs ds 6)]) ∧ Below w.heap.size w w' := impl_OrdersOf0 fs ds v0 v1 w r0 r1 hb0 (storeB_parts (descSB_store hb1)).2.1
end Go.Proofs.Ytbbdchlabdilcaa
