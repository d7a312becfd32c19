/- Chapter 7's program: a frame's step: the place behind, a decision, a head freed. -/
import Derived.Test.YtcafdihekamnkaaGreatI7g
import Derived.Test.YtcafdihekamnkaaGreatM13
namespace Go.Proofs.YtcafdihekamnkaaGreat
set_option maxRecDepth 100000
open Go.RowKit Go.Proofs Go.Own
set_option linter.unusedVariables false
set_option linter.unusedSimpArgs false
/-- The place behind an entry; 0 behind the last. -/
def behindC (a n : Nat) : Int := if a + 1 < n then ((a : Int) + 1) else 0
set_option maxHeartbeats 1000000 in
theorem impl_behind (g o : Nat) (ad : Option Addr) (n cap : Nat) (a : Nat) (w : World) (h2 : w.cell? ⟨g, o + 2, none⟩ = some (.slice ad n cap)) (hn : 0 < n) (hn2 : n ≤ 1048576) (ha : a < n) :
    Calls Tryz.prog 246 #[.pointer (some ⟨g, o, none⟩), .int .i64 (a : Int)] w fun e w' => e = .returned (.int .i64 (behindC a n)) ∧ w = w' := by
  have h1 : ¬ (n : Int) = 0 := by omega
  have h1' : ((n : Int) == 0) = false := by rw [beq_eq_false_iff_ne]; omega
  have hm2 := hid (show ((a : Int) + 1) % (n : Int) = behindC a n by
    unfold behindC
    by_cases h : a + 1 < n
    · rw [if_pos h]; exact Int.emod_eq_of_lt (by omega) (by omega)
    · rw [if_neg h, show (a : Int) + 1 = (n : Int) by omega, Int.emod_self])
  go_enter Tryz.func246, Tryz.ntmps246
  go_wp2
  go_ret
  exact ⟨ret_int hm2.out, rfl⟩
set_option maxHeartbeats 1000000 in
theorem impl_decideY (g o : Nat) (x : Int) (w : World) (h1 : w.cell? ⟨g, o + 1, none⟩ = some (.int .i64 0)) (f1 : w.frozen? ⟨g, o + 1, none⟩ = false) :
    Calls Tryz.prog 247 #[.pointer (some ⟨g, o, none⟩), .int .i64 x] w fun e w' => e = .returned (.tuple #[]) ∧ w' = w.setCell ⟨g, o + 1, none⟩ (.int .i64 x) := by
  go_enter Tryz.func247, Tryz.ntmps247
  go_wp2
  refine bodyPost_end (results_none rfl _ _ _) rfl ⟨rfl, rfl⟩
set_option maxHeartbeats 1000000 in
theorem impl_decideN (g o : Nat) (st x : Int) (w : World) (h1 : w.cell? ⟨g, o + 1, none⟩ = some (.int .i64 st)) (hs : ¬ st = 0) :
    Calls Tryz.prog 247 #[.pointer (some ⟨g, o, none⟩), .int .i64 x] w fun e w' => e = .returned (.tuple #[]) ∧ w' = w := by
  have hs' : (st == 0) = false := by rw [beq_eq_false_iff_ne]; exact hs
  go_enter Tryz.func247, Tryz.ntmps247
  go_wp2
  refine bodyPost_end (results_none rfl _ _ _) rfl ⟨rfl, rfl⟩
set_option maxHeartbeats 2000000 in
theorem impl_freeY (g o : Nat) (x v d st : Int) (e : Entry) (w : World) (hg : g < w.heap.size) (h0 : w.cell? ⟨g, o, none⟩ = some (.int .i64 x)) (h1 : w.cell? ⟨g, o + 1, none⟩ = some (.int .i64 v)) (h2 : w.cell? ⟨g, o + 2, none⟩ = some (.int .i64 d)) (f0 : w.frozen? ⟨g, o, none⟩ = false) (f1 : w.frozen? ⟨g, o + 1, none⟩ = false) (f2 : w.frozen? ⟨g, o + 2, none⟩ = false) (hv : 0 ≤ v ∧ v ≤ 1000000) (hs : st = 1) (hw : e.write_ = true) :
    Calls Tryz.prog 112 #[.pointer (some ⟨g, o, none⟩), .agg #[.int .i64 e.object_, .int .i64 e.version_, .int .i64 e.old_, .int .i64 e.new_, .bool e.write_], .int .i64 st] w fun r w' => r = .returned (.tuple #[]) ∧ w' = (((w.setCell ⟨g, o + 2, none⟩ (.int .i64 (-1))).setCell ⟨g, o, none⟩ (.int .i64 e.new_)).setCell ⟨g, o + 1, none⟩ (.int .i64 ((v + 1) % 1000001))).alloc (.cells #[.int .i64 e.object_, .int .i64 e.version_, .int .i64 e.old_, .int .i64 e.new_, .bool e.write_] 146) := by
  obtain ⟨e0, e1, e2, e3, e4⟩ := e
  dsimp only at *
  obtain ⟨hv0, hv1⟩ := hv
  have hne : g ≠ w.heap.size := by omega
  subst hs hw
  go_enter Tryz.func112, Tryz.ntmps112
  go_wp2
  refine bodyPost_end (results_none rfl _ _ _) rfl ⟨rfl, rfl⟩
set_option maxHeartbeats 2000000 in
theorem impl_freeN (g o : Nat) (x v d st : Int) (e : Entry) (w : World) (hg : g < w.heap.size) (h0 : w.cell? ⟨g, o, none⟩ = some (.int .i64 x)) (h1 : w.cell? ⟨g, o + 1, none⟩ = some (.int .i64 v)) (h2 : w.cell? ⟨g, o + 2, none⟩ = some (.int .i64 d)) (f0 : w.frozen? ⟨g, o, none⟩ = false) (f1 : w.frozen? ⟨g, o + 1, none⟩ = false) (f2 : w.frozen? ⟨g, o + 2, none⟩ = false) (hv : 0 ≤ v ∧ v ≤ 1000000) (hs : (st == 1) = false) :
    Calls Tryz.prog 112 #[.pointer (some ⟨g, o, none⟩), .agg #[.int .i64 e.object_, .int .i64 e.version_, .int .i64 e.old_, .int .i64 e.new_, .bool e.write_], .int .i64 st] w fun r w' => r = .returned (.tuple #[]) ∧ w' = (w.setCell ⟨g, o + 2, none⟩ (.int .i64 (-1))).alloc (.cells #[.int .i64 e.object_, .int .i64 e.version_, .int .i64 e.old_, .int .i64 e.new_, .bool e.write_] 146) := by
  obtain ⟨e0, e1, e2, e3, e4⟩ := e
  dsimp only at *
  obtain ⟨hv0, hv1⟩ := hv
  have hne : g ≠ w.heap.size := by omega
  go_enter Tryz.func112, Tryz.ntmps112
  go_wp2
  refine bodyPost_end (results_none rfl _ _ _) rfl ⟨rfl, rfl⟩
set_option maxHeartbeats 2000000 in
theorem impl_freeN2 (g o : Nat) (x v d st : Int) (e : Entry) (w : World) (hg : g < w.heap.size) (h0 : w.cell? ⟨g, o, none⟩ = some (.int .i64 x)) (h1 : w.cell? ⟨g, o + 1, none⟩ = some (.int .i64 v)) (h2 : w.cell? ⟨g, o + 2, none⟩ = some (.int .i64 d)) (f0 : w.frozen? ⟨g, o, none⟩ = false) (f1 : w.frozen? ⟨g, o + 1, none⟩ = false) (f2 : w.frozen? ⟨g, o + 2, none⟩ = false) (hv : 0 ≤ v ∧ v ≤ 1000000) (hs : st = 1) (hw : e.write_ = false) :
    Calls Tryz.prog 112 #[.pointer (some ⟨g, o, none⟩), .agg #[.int .i64 e.object_, .int .i64 e.version_, .int .i64 e.old_, .int .i64 e.new_, .bool e.write_], .int .i64 st] w fun r w' => r = .returned (.tuple #[]) ∧ w' = (w.setCell ⟨g, o + 2, none⟩ (.int .i64 (-1))).alloc (.cells #[.int .i64 e.object_, .int .i64 e.version_, .int .i64 e.old_, .int .i64 e.new_, .bool e.write_] 146) := by
  obtain ⟨e0, e1, e2, e3, e4⟩ := e
  dsimp only at *
  obtain ⟨hv0, hv1⟩ := hv
  have hne : g ≠ w.heap.size := by omega
  subst hs hw
  go_enter Tryz.func112, Tryz.ntmps112
  go_wp2
  refine bodyPost_end (results_none rfl _ _ _) rfl ⟨rfl, rfl⟩
end Go.Proofs.YtcafdihekamnkaaGreat
