/- Chapter 7's model: the next frame. -/
import Derived.Test.YtpdgpblekbongaaS7c
namespace Go.Proofs.Ytpdgpblekbongaa
set_option maxRecDepth 100000
open Go.RowKit Go.Proofs Go.Own
open Go Go.BigFrame
set_option linter.unusedVariables false
set_option linter.unusedSimpArgs false
set_option maxHeartbeats 8000000 in
theorem spec_l7Next0 (hs : List Head) (ds : List DescD) (v0 v1 : Value) (f : Frame) (b : Int) (w : World) (h0 : rdsL w v0 hs) (h1 : rdsL w v1 ds) (k : Nat) (hf : f.desc_ = k) (hk : k < ds.length) (ha : 0 ≤ f.at_ ∧ f.at_ ≤ 1048576) :
    Calls Try.prog 84 #[.agg #[v0, v1], .agg #[.int .i64 f.desc_, .int .i64 f.phase_, .int .i64 f.at_], .int .i64 b] w fun e w' => e = .returned (.agg #[.int .i64 (nextF ds f b).desc_, .int .i64 (nextF ds f b).phase_, .int .i64 (nextF ds f b).at_]) ∧ Below w.heap.size w w' := by
  obtain ⟨a0, cap0, rfl, hl0, hm0, -⟩ := rdsL_open h0
  obtain ⟨a1, cap1, rfl, hl1, hm1, hc1⟩ := rdsL_open h1
  clear h0 h1
  have hlen1 : ds.length ≤ 9223372036854775807 := by omega
  obtain ⟨fd, fp, fa⟩ := f
  simp only at hf ha ⊢
  subst hf
  have hki : (k : Int) < (ds.length : Int) := by omega
  have hk0 : (0 : Int) ≤ (k : Int) := by omega
  have hu := hid (show nextF ds ⟨(k : Int), fp, fa⟩ b = if fa + 1 < (ds[k].entries_.length : Int) then ⟨(k : Int), fp, fa + 1⟩ else ⟨(k : Int), b, 0⟩ by unfold nextF; rw [entsAt_eq hk])
  generalize nextF ds ⟨(k : Int), fp, fa⟩ b = R at *
  obtain ⟨bb, off, cs, rfl, hbs, ⟨v2, rfl, h2⟩, hcell⟩ := hc1 k hk
  obtain ⟨ea, ecap, rfl, hle, hlm⟩ := (rdsEntrys.1 h2).form
  have hlen2 : ds[k].entries_.length ≤ 9223372036854775807 := by omega
  obtain ⟨W1, hW1⟩ : ∃ X, ((w.alloc (.cells #[Value.slice a0 hs.length cap0, Value.slice (some ⟨bb, off, none⟩) ds.length cap1] 31)).alloc (.cells #[.int .i64 k, .int .i64 fp, .int .i64 fa] 65)).alloc (.cells #[.int .i64 0, .int .i64 0, .int .i64 0] 65) = X := ⟨_, rfl⟩
  have hB1 : Below w.heap.size w W1 := by rw [← hW1]; exact (((Below.refl _ _).alloc (Nat.le_refl _) _).alloc (by simp) _).alloc (by simp; omega) _
  have hN : W1.heap.size = w.heap.size + 3 := by rw [← hW1]; simp
  have k1 : W1.cell? ⟨w.heap.size, 1, none⟩ = some (Value.slice (some ⟨bb, off, none⟩) ds.length cap1) := by rw [← hW1]; simp [go_sem]
  have m0 : W1.cell? ⟨w.heap.size + 1, 0, none⟩ = some (.int .i64 (k : Int)) := by rw [← hW1]; simp [go_sem]
  have m1 : W1.cell? ⟨w.heap.size + 1, 1, none⟩ = some (.int .i64 fp) := by rw [← hW1]; simp [go_sem]
  have m2 : W1.cell? ⟨w.heap.size + 1, 2, none⟩ = some (.int .i64 fa) := by rw [← hW1]; simp [go_sem]
  have f2 : W1.frozen? ⟨w.heap.size + 1, 2, none⟩ = false := by rw [← hW1]; simp [go_sem]
  have n0 : W1.cell? ⟨w.heap.size + 1 + 1, 0, none⟩ = some (.int .i64 0) := by rw [← hW1]; simp [go_sem]
  have n1 : W1.cell? ⟨w.heap.size + 1 + 1, 1, none⟩ = some (.int .i64 0) := by rw [← hW1]; simp [go_sem]
  have n2 : W1.cell? ⟨w.heap.size + 1 + 1, 2, none⟩ = some (.int .i64 0) := by rw [← hW1]; simp [go_sem]
  have g0 : W1.frozen? ⟨w.heap.size + 1 + 1, 0, none⟩ = false := by rw [← hW1]; simp [go_sem]
  have g1 : W1.frozen? ⟨w.heap.size + 1 + 1, 1, none⟩ = false := by rw [← hW1]; simp [go_sem]
  have g2 : W1.frozen? ⟨w.heap.size + 1 + 1, 2, none⟩ = false := by rw [← hW1]; simp [go_sem]
  have e2 := (hB1.cell (p := ⟨bb, off + k * 3 + 2, none⟩) hbs).trans (show w.cell? ⟨bb, off + k * 3 + 2, none⟩ = some _ from hcell 2 (show 2 < 3 by omega))
  have hb2 := Nat.lt_of_lt_of_le hbs hB1.size
  clear hcell h2 hc1
  go_enter Try.func84, Try.ntmps84
  go_wp2_with fail
  go_quiet (fail)
  by_cases hlt : fa + 1 < (ds[k].entries_.length : Int)
  · have HR := hid (show R = ⟨(k : Int), fp, fa + 1⟩ by rw [hu.out, if_pos hlt])
    clear hu
    go_wp2
    refine bodyPost_ret (v := .agg #[.int .i64 (k : Int), .int .i64 fp, .int .i64 (fa + 1)]) ?_ rfl ⟨?_, ?_⟩
    · simp [results, Try.results84, go_sem, m0, m1, m2, n0, n1, n2, f2, g0, g1, g2]
    · rw [HR.out]
    · exact ((((below_drewN hB1 _).setCell (by show w.heap.size ≤ w.heap.size + 1; omega) _).setCell (by show w.heap.size ≤ w.heap.size + 1 + 1; omega) _).setCell (by show w.heap.size ≤ w.heap.size + 1 + 1; omega) _).setCell (by show w.heap.size ≤ w.heap.size + 1 + 1; omega) _
  · have HR := hid (show R = ⟨(k : Int), b, 0⟩ by rw [hu.out, if_neg hlt])
    clear hu
    go_wp2
    refine bodyPost_ret (v := .agg #[.int .i64 (k : Int), .int .i64 b, .int .i64 0]) ?_ rfl ⟨?_, ?_⟩
    · simp [results, Try.results84, go_sem, m0, m1, m2, n0, n1, n2, f2, g0, g1, g2]
    · rw [HR.out]
    · exact (((below_drewN hB1 _).setCell (by show w.heap.size ≤ w.heap.size + 1 + 1; omega) _).setCell (by show w.heap.size ≤ w.heap.size + 1 + 1; omega) _).setCell (by show w.heap.size ≤ w.heap.size + 1 + 1; omega) _
end Go.Proofs.Ytpdgpblekbongaa
