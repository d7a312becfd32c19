import Derived.Test.YtambpjjfndnadaaTypes6
import Derived.Test.YtambpjjfndnadaaBase2
namespace Go.Proofs.Ytambpjjfndnadaa
set_option maxRecDepth 100000
open Go.RowKit Go.Proofs Go.Own
set_option linter.unusedSimpArgs false
set_option linter.unusedVariables false

set_option maxHeartbeats 1000000 in
theorem toDesc_c (s0 : Int) (s1 : Int) (v2 : Value) (x2 : List Entry) (w : World) (hx2 : x2.length ≤ 1048576) (h2 : Entrys w v2 x2) :
    Calls Try.prog 72 #[.agg #[.int .i64 s0, .int .i64 s1, v2]] w fun e w' => ∃ u2, e = .returned (.agg #[.int .i64 s0, .int .i64 s1, u2]) ∧ w'.ownsRow w.heap.size 97 5 u2 x2.length (x2.flatMap Entry.enc) ∧ Below w.heap.size w w' := by
  obtain ⟨a2, cap2, rfl, hl2, hm2⟩ := h2.form
  go_enter Try.func72, Try.ntmps72
  go_wp2_with fail
  refine (toEntryS_c _ x2 _ hx2 (Flat.below h2 (by repeat (first | exact Below.refl _ _ | refine below_drewN ?_ _ | refine Below.alloc ?_ (by simp; try omega) _)))).mono ?_
  rintro e w2 ⟨u2, rfl, o2, b⟩
  obtain ⟨ua2, uc2, rfl, _, _⟩ := owns_form o2
  have hB_w2 : Below w.heap.size w w2 := Below.trans (by repeat (first | exact Below.refl _ _ | refine below_drewN ?_ _ | refine Below.alloc ?_ (by simp; try omega) _)) (b.mono (by simp; try omega))
  have hS_w2 : w.heap.size + 3 ≤ w2.heap.size := by have := b.size; simp at this; omega
  replace o2 := owns_mono (base' := w.heap.size + 3) o2 (by simp)
  have c0w2 : w2.cell? ⟨w.heap.size + 1 + 1, 0, none⟩ = some (.int .i64 s0) := by rw [b.cell (p := ⟨w.heap.size + 1 + 1, 0, none⟩) (by simp; try omega)]; simp [go_sem]
  have cf0w2 : w2.frozen? ⟨w.heap.size + 1 + 1, 0, none⟩ = false := by rw [b.frozen (p := ⟨w.heap.size + 1 + 1, 0, none⟩) (by simp; try omega)]; simp [go_sem]
  have c1w2 : w2.cell? ⟨w.heap.size + 1 + 1, 1, none⟩ = some (.int .i64 s1) := by rw [b.cell (p := ⟨w.heap.size + 1 + 1, 1, none⟩) (by simp; try omega)]; simp [go_sem]
  have cf1w2 : w2.frozen? ⟨w.heap.size + 1 + 1, 1, none⟩ = false := by rw [b.frozen (p := ⟨w.heap.size + 1 + 1, 1, none⟩) (by simp; try omega)]; simp [go_sem]
  have c2w2 : w2.cell? ⟨w.heap.size + 1 + 1, 2, none⟩ = some (.slice none 0 0) := by rw [b.cell (p := ⟨w.heap.size + 1 + 1, 2, none⟩) (by simp; try omega)]; simp [go_sem]
  have cf2w2 : w2.frozen? ⟨w.heap.size + 1 + 1, 2, none⟩ = false := by rw [b.frozen (p := ⟨w.heap.size + 1 + 1, 2, none⟩) (by simp; try omega)]; simp [go_sem]
  have d0w2 : w2.cell? ⟨w.heap.size + 1, 0, none⟩ = some (.int .i64 0) := by rw [b.cell (p := ⟨w.heap.size + 1, 0, none⟩) (by simp; try omega)]; simp [go_sem]
  have df0w2 : w2.frozen? ⟨w.heap.size + 1, 0, none⟩ = false := by rw [b.frozen (p := ⟨w.heap.size + 1, 0, none⟩) (by simp; try omega)]; simp [go_sem]
  have d1w2 : w2.cell? ⟨w.heap.size + 1, 1, none⟩ = some (.int .i64 0) := by rw [b.cell (p := ⟨w.heap.size + 1, 1, none⟩) (by simp; try omega)]; simp [go_sem]
  have df1w2 : w2.frozen? ⟨w.heap.size + 1, 1, none⟩ = false := by rw [b.frozen (p := ⟨w.heap.size + 1, 1, none⟩) (by simp; try omega)]; simp [go_sem]
  have d2w2 : w2.cell? ⟨w.heap.size + 1, 2, none⟩ = some (.slice none 0 0) := by rw [b.cell (p := ⟨w.heap.size + 1, 2, none⟩) (by simp; try omega)]; simp [go_sem]
  have df2w2 : w2.frozen? ⟨w.heap.size + 1, 2, none⟩ = false := by rw [b.frozen (p := ⟨w.heap.size + 1, 2, none⟩) (by simp; try omega)]; simp [go_sem]
  clear b
  go_wp2
  refine bodyPost_ret (v := .agg #[.int .i64 s0, .int .i64 s1, .slice ua2 x2.length uc2]) ?_ rfl ⟨_, rfl, ?_, ?_⟩
  · simp [results, Try.results72, go_sem, d0w2, d1w2, d2w2]
  · refine owns_mono (base := w.heap.size + 3) ?_ (by omega)
    repeat (refine owns_setCell ?_ _ _ (by simp; try omega))
    exact o2
  · repeat (refine Below.setCell ?_ (by simp; try omega) _)
    exact hB_w2

set_option maxHeartbeats 1000000 in
theorem eqDesc_c (s0 : Int) (s1 : Int) (v2 u2 : Value) (x2 : List Entry) (w : World) (h2 : Entrys w v2 x2) (g2 : Entrys w u2 x2) :
    Calls Try.prog 78 #[.agg #[.int .i64 s0, .int .i64 s1, v2], .agg #[.int .i64 s0, .int .i64 s1, u2]] w fun e w' => e = .returned (.bool true) ∧ Below w.heap.size w w' := by
  obtain ⟨a2, cap2, rfl, hl2, hm2⟩ := h2.form
  obtain ⟨ua2, uc2, rfl, ul2, um2⟩ := g2.form
  go_enter Try.func78, Try.ntmps78
  go_wp2_with fail
  refine (eqEntryS_c _ _ x2 _ (Flat.below h2 (by repeat (first | exact Below.refl _ _ | refine below_drewN ?_ _ | refine Below.alloc ?_ (by simp; try omega) _))) (Flat.below g2 (by repeat (first | exact Below.refl _ _ | refine below_drewN ?_ _ | refine Below.alloc ?_ (by simp; try omega) _)))).mono ?_
  rintro e w2 ⟨rfl, b⟩
  have hB_w2 : Below w.heap.size w w2 := Below.trans (by repeat (first | exact Below.refl _ _ | refine below_drewN ?_ _ | refine Below.alloc ?_ (by simp; try omega) _)) (b.mono (by simp; try omega))
  clear b
  go_wp2
  go_ret
  exact ⟨rfl, hB_w2⟩

set_option maxHeartbeats 1000000 in
theorem szDesc_c (s0 : Int) (s1 : Int) (a2 : Option Addr) (n2 cap2 : Nat) (k : Int) (w : World) (hn2 : n2 ≤ 9223372036854775807) (h0 : 0 ≤ k) (h1 : k ≤ 1048576) :
    Calls Try.prog 68 #[.agg #[.int .i64 s0, .int .i64 s1, .slice a2 n2 cap2], .int .i64 k] w fun e w' => e = .returned (.int .i64 (if k < (n2 : Int) then -1 else k - ((n2 : Int)))) ∧ Below w.heap.size w w' := by
  go_enter Try.func68, Try.ntmps68
  go_wp2_with fail
  refine (szEntryS_c _ _ _ _ _ (by omega) (by omega) (by omega)).mono ?_
  rintro e w' ⟨rfl, rfl⟩
  by_cases hk2 : k < (n2 : Int)
  · rw [if_pos hk2]
    go_wp2
    go_ret
    all_goals first | exact ⟨rfl, (by repeat (first | exact Below.refl _ _ | refine below_drewN ?_ _ | refine Below.alloc ?_ (by simp; try omega) _))⟩ | (exfalso; omega)
  rw [if_neg hk2]
  go_wp2
  go_ret
  all_goals first | exact ⟨ret_int (by omega), (by repeat (first | exact Below.refl _ _ | refine below_drewN ?_ _ | refine Below.alloc ?_ (by simp; try omega) _))⟩ | (exfalso; omega)



end Go.Proofs.Ytambpjjfndnadaa
