import Derived.Test.YtdnfphpeleakcaaTypes2
import Derived.Test.YtdnfphpeleakcaaBase2
namespace Go.Proofs.Ytdnfphpeleakcaa
set_option maxRecDepth 100000
open Go.RowKit Go.Proofs Go.Own
set_option linter.unusedSimpArgs false
set_option linter.unusedVariables false

set_option maxHeartbeats 1000000 in
theorem toArena_c (v0 : Value) (x0 : List Block) (v1 : Value) (x1 : List Int) (w : World) (hx0 : x0.length ≤ 1048576) (hx1 : x1.length ≤ 1048576) (h0 : Blocks w v0 x0) (h1 : Ints w v1 x1) :
    Calls Try.prog 57 #[.agg #[v0, v1]] w fun e w' => ∃ u0 u1, e = .returned (.agg #[u0, u1]) ∧ w'.ownsRow w.heap.size 64 5 u0 x0.length (x0.flatMap Block.enc) ∧ w'.ownsRow w.heap.size 3 1 u1 x1.length (x1.flatMap encI) ∧ ((u0.ownBlock = none ∨ u0.ownBlock ≠ u1.ownBlock) ∧ (u1.ownBlock = none ∨ u1.ownBlock ≠ u0.ownBlock)) ∧ Below w.heap.size w w' := by
  obtain ⟨a0, cap0, rfl, hl0, hm0⟩ := h0.form
  obtain ⟨a1, cap1, rfl, hl1, hm1⟩ := h1.form
  go_enter Try.func57, Try.ntmps57
  go_wp2_with fail
  refine (toBlockS_c _ x0 _ hx0 (Flat.below h0 (by repeat (first | exact Below.refl _ _ | refine Below.alloc ?_ (by simp; try omega) _)))).mono ?_
  rintro e w2 ⟨u0, rfl, o0, b⟩
  obtain ⟨ua0, uc0, rfl, _, _⟩ := owns_form o0
  have hB_w2 : Below w.heap.size w w2 := Below.trans (by repeat (first | exact Below.refl _ _ | refine Below.alloc ?_ (by simp; try omega) _)) (b.mono (by simp; try omega))
  have hS_w2 : w.heap.size + 3 ≤ w2.heap.size := by have := b.size; simp at this; omega
  replace o0 := owns_mono (base' := w.heap.size + 3) o0 (by simp)
  have p1w2 : w2.cell? ⟨w.heap.size, 1, none⟩ = some (.slice a1 x1.length cap1) := by rw [b.cell (p := ⟨w.heap.size, 1, none⟩) (by simp; try omega)]; simp [go_sem]
  have c0w2 : w2.cell? ⟨w.heap.size + 1 + 1, 0, none⟩ = some (.slice none 0 0) := by rw [b.cell (p := ⟨w.heap.size + 1 + 1, 0, none⟩) (by simp; try omega)]; simp [go_sem]
  have cf0w2 : w2.frozen? ⟨w.heap.size + 1 + 1, 0, none⟩ = false := by rw [b.frozen (p := ⟨w.heap.size + 1 + 1, 0, none⟩) (by simp; try omega)]; simp [go_sem]
  have c1w2 : w2.cell? ⟨w.heap.size + 1 + 1, 1, none⟩ = some (.slice none 0 0) := by rw [b.cell (p := ⟨w.heap.size + 1 + 1, 1, none⟩) (by simp; try omega)]; simp [go_sem]
  have cf1w2 : w2.frozen? ⟨w.heap.size + 1 + 1, 1, none⟩ = false := by rw [b.frozen (p := ⟨w.heap.size + 1 + 1, 1, none⟩) (by simp; try omega)]; simp [go_sem]
  have d0w2 : w2.cell? ⟨w.heap.size + 1, 0, none⟩ = some (.slice none 0 0) := by rw [b.cell (p := ⟨w.heap.size + 1, 0, none⟩) (by simp; try omega)]; simp [go_sem]
  have df0w2 : w2.frozen? ⟨w.heap.size + 1, 0, none⟩ = false := by rw [b.frozen (p := ⟨w.heap.size + 1, 0, none⟩) (by simp; try omega)]; simp [go_sem]
  have d1w2 : w2.cell? ⟨w.heap.size + 1, 1, none⟩ = some (.slice none 0 0) := by rw [b.cell (p := ⟨w.heap.size + 1, 1, none⟩) (by simp; try omega)]; simp [go_sem]
  have df1w2 : w2.frozen? ⟨w.heap.size + 1, 1, none⟩ = false := by rw [b.frozen (p := ⟨w.heap.size + 1, 1, none⟩) (by simp; try omega)]; simp [go_sem]
  clear b
  go_wp2_with fail
  refine (toIntS_c _ x1 _ hx1 (Flat.below h1 (by (repeat (refine Below.setCell ?_ (by simp; try omega) _)); exact hB_w2))).mono ?_
  rintro e w3 ⟨u1, rfl, o1, b⟩
  have ap0_1 := apart o0 (by simp [World.setCell]) o1
  obtain ⟨ua1, uc1, rfl, _, _⟩ := owns_form o1
  have hB_w3 : Below w.heap.size w w3 := Below.trans (by (repeat (refine Below.setCell ?_ (by simp; try omega) _)); exact hB_w2) (b.mono (by simp [World.setCell]; omega))
  have hS_w3 : w.heap.size + 3 ≤ w3.heap.size := by have := b.size; simp [World.setCell] at this; omega
  replace o1 := owns_mono (base' := w.heap.size + 3) o1 (by simp [World.setCell]; omega)
  have o0 : w3.ownsRow (w.heap.size + 3) 64 5 (.slice ua0 x0.length uc0) x0.length (x0.flatMap Block.enc) := owns_below (by (repeat (refine owns_setCell ?_ _ _ (by simp; try omega))); exact o0) b
  have c0w3 : w3.cell? ⟨w.heap.size + 1 + 1, 0, none⟩ = some (.slice ua0 x0.length uc0) := by rw [b.cell (p := ⟨w.heap.size + 1 + 1, 0, none⟩) (by simp [World.setCell]; omega)]; simp [go_sem, p1w2, c0w2, cf0w2, c1w2, cf1w2, d0w2, df0w2, d1w2, df1w2]
  have cf0w3 : w3.frozen? ⟨w.heap.size + 1 + 1, 0, none⟩ = false := by rw [b.frozen (p := ⟨w.heap.size + 1 + 1, 0, none⟩) (by simp [World.setCell]; omega)]; simp [go_sem, p1w2, c0w2, cf0w2, c1w2, cf1w2, d0w2, df0w2, d1w2, df1w2]
  have c1w3 : w3.cell? ⟨w.heap.size + 1 + 1, 1, none⟩ = some (.slice none 0 0) := by rw [b.cell (p := ⟨w.heap.size + 1 + 1, 1, none⟩) (by simp [World.setCell]; omega)]; simp [go_sem, p1w2, c0w2, cf0w2, c1w2, cf1w2, d0w2, df0w2, d1w2, df1w2]
  have cf1w3 : w3.frozen? ⟨w.heap.size + 1 + 1, 1, none⟩ = false := by rw [b.frozen (p := ⟨w.heap.size + 1 + 1, 1, none⟩) (by simp [World.setCell]; omega)]; simp [go_sem, p1w2, c0w2, cf0w2, c1w2, cf1w2, d0w2, df0w2, d1w2, df1w2]
  have d0w3 : w3.cell? ⟨w.heap.size + 1, 0, none⟩ = some (.slice none 0 0) := by rw [b.cell (p := ⟨w.heap.size + 1, 0, none⟩) (by simp [World.setCell]; omega)]; simp [go_sem, p1w2, c0w2, cf0w2, c1w2, cf1w2, d0w2, df0w2, d1w2, df1w2]
  have df0w3 : w3.frozen? ⟨w.heap.size + 1, 0, none⟩ = false := by rw [b.frozen (p := ⟨w.heap.size + 1, 0, none⟩) (by simp [World.setCell]; omega)]; simp [go_sem, p1w2, c0w2, cf0w2, c1w2, cf1w2, d0w2, df0w2, d1w2, df1w2]
  have d1w3 : w3.cell? ⟨w.heap.size + 1, 1, none⟩ = some (.slice none 0 0) := by rw [b.cell (p := ⟨w.heap.size + 1, 1, none⟩) (by simp [World.setCell]; omega)]; simp [go_sem, p1w2, c0w2, cf0w2, c1w2, cf1w2, d0w2, df0w2, d1w2, df1w2]
  have df1w3 : w3.frozen? ⟨w.heap.size + 1, 1, none⟩ = false := by rw [b.frozen (p := ⟨w.heap.size + 1, 1, none⟩) (by simp [World.setCell]; omega)]; simp [go_sem, p1w2, c0w2, cf0w2, c1w2, cf1w2, d0w2, df0w2, d1w2, df1w2]
  clear b p1w2 c0w2 cf0w2 c1w2 cf1w2 d0w2 df0w2 d1w2 df1w2
  go_wp2
  refine bodyPost_ret (v := .agg #[.slice ua0 x0.length uc0, .slice ua1 x1.length uc1]) ?_ rfl ⟨_, _, rfl, ?_, ?_, ap0_1, ?_⟩
  · simp [results, Try.results57, go_sem, d0w3, d1w3]
  · refine owns_mono (base := w.heap.size + 3) ?_ (by omega)
    repeat (refine owns_setCell ?_ _ _ (by simp; try omega))
    exact o0
  · refine owns_mono (base := w.heap.size + 3) ?_ (by omega)
    repeat (refine owns_setCell ?_ _ _ (by simp; try omega))
    exact o1
  · repeat (refine Below.setCell ?_ (by simp; try omega) _)
    exact hB_w3

set_option maxHeartbeats 1000000 in
theorem eqArena_c (v0 u0 : Value) (x0 : List Block) (v1 u1 : Value) (x1 : List Int) (w : World) (h0 : Blocks w v0 x0) (h1 : Ints w v1 x1) (g0 : Blocks w u0 x0) (g1 : Ints w u1 x1) :
    Calls Try.prog 62 #[.agg #[v0, v1], .agg #[u0, u1]] w fun e w' => e = .returned (.bool true) ∧ Below w.heap.size w w' := by
  obtain ⟨a0, cap0, rfl, hl0, hm0⟩ := h0.form
  obtain ⟨ua0, uc0, rfl, ul0, um0⟩ := g0.form
  obtain ⟨a1, cap1, rfl, hl1, hm1⟩ := h1.form
  obtain ⟨ua1, uc1, rfl, ul1, um1⟩ := g1.form
  go_enter Try.func62, Try.ntmps62
  go_wp2_with fail
  refine (eqBlockS_c _ _ x0 _ (Flat.below h0 (by repeat (first | exact Below.refl _ _ | refine Below.alloc ?_ (by simp; try omega) _))) (Flat.below g0 (by repeat (first | exact Below.refl _ _ | refine Below.alloc ?_ (by simp; try omega) _)))).mono ?_
  rintro e w2 ⟨rfl, b⟩
  have hB_w2 : Below w.heap.size w w2 := Below.trans (by repeat (first | exact Below.refl _ _ | refine Below.alloc ?_ (by simp; try omega) _)) (b.mono (by simp; try omega))
  have hS_w2 : w.heap.size + 2 ≤ w2.heap.size := by have := b.size; simp at this; omega
  have p1w2 : w2.cell? ⟨w.heap.size, 1, none⟩ = some (.slice a1 x1.length cap1) := by rw [b.cell (p := ⟨w.heap.size, 1, none⟩) (by simp; try omega)]; simp [go_sem]
  have q1w2 : w2.cell? ⟨w.heap.size + 1, 1, none⟩ = some (.slice ua1 x1.length uc1) := by rw [b.cell (p := ⟨w.heap.size + 1, 1, none⟩) (by simp; try omega)]; simp [go_sem]
  clear b
  go_wp2_with fail
  refine (eqIntS_c _ _ x1 _ (Flat.below h1 hB_w2) (Flat.below g1 hB_w2)).mono ?_
  rintro e w3 ⟨rfl, b⟩
  have hB_w3 : Below w.heap.size w w3 := Below.trans hB_w2 (b.mono (by omega))
  clear b p1w2 q1w2
  go_wp2
  go_ret
  exact ⟨rfl, hB_w3⟩

set_option maxHeartbeats 1000000 in
theorem szArena_c (a0 : Option Addr) (n0 cap0 : Nat) (a1 : Option Addr) (n1 cap1 : Nat) (k : Int) (w : World) (hn0 : n0 ≤ 9223372036854775807) (hn1 : n1 ≤ 9223372036854775807) (h0 : 0 ≤ k) (h1 : k ≤ 1048576) :
    Calls Try.prog 49 #[.agg #[.slice a0 n0 cap0, .slice a1 n1 cap1], .int .i64 k] w fun e w' => e = .returned (.int .i64 (if k < (n0 : Int) + (n1 : Int) then -1 else k - ((n0 : Int) + (n1 : Int)))) ∧ Below w.heap.size w w' := by
  go_enter Try.func49, Try.ntmps49
  go_wp2_with fail
  refine (szBlockS_c _ _ _ _ _ (by omega) (by omega) (by omega)).mono ?_
  rintro e w' ⟨rfl, rfl⟩
  by_cases hk0 : k < (n0 : Int)
  · rw [if_pos hk0]
    go_wp2
    go_ret
    all_goals first | exact ⟨rfl, (by repeat (first | exact Below.refl _ _ | refine Below.alloc ?_ (by simp; try omega) _))⟩ | (exfalso; omega)
  rw [if_neg hk0]
  go_wp2_with fail
  refine (szIntS_c _ _ _ _ _ (by omega) (by omega) (by omega)).mono ?_
  rintro e w' ⟨rfl, rfl⟩
  by_cases hk1 : k - (n0 : Int) < (n1 : Int)
  · rw [if_pos hk1]
    go_wp2
    go_ret
    all_goals first | exact ⟨rfl, (by repeat (first | exact Below.refl _ _ | refine Below.alloc ?_ (by simp; try omega) _))⟩ | (exfalso; omega)
  rw [if_neg hk1]
  go_wp2
  go_ret
  all_goals first | exact ⟨ret_int (by omega), (by repeat (first | exact Below.refl _ _ | refine Below.alloc ?_ (by simp; try omega) _))⟩ | (exfalso; omega)

set_option maxHeartbeats 1000000 in
theorem markArena_c (base : Nat) (v0 : Value) (n0 : Nat) (y0 : List Value) (v1 : Value) (n1 : Nat) (y1 : List Value) (k : Int) (w : World) (hn0 : n0 ≤ 1099511627776) (hn1 : n1 ≤ 1099511627776) (h0 : 0 ≤ k) (h1 : k + 5 * n0 + n1 ≤ 1125899906842624) (o0 : w.ownsRow base 64 5 v0 n0 y0) (o1 : w.ownsRow base 3 1 v1 n1 y1) (ap0_1 : ((v0.ownBlock = none ∨ v0.ownBlock ≠ v1.ownBlock) ∧ (v1.ownBlock = none ∨ v1.ownBlock ≠ v0.ownBlock))) :
    Calls Try.prog 66 #[.agg #[v0, v1], .int .i64 k] w fun r w' => ∃ z0, r = .returned (.int .i64 (k + 5 * n0 + n1)) ∧ w'.ownsRow base 64 5 v0 n0 (markV markBlock (n0 * 5) (k)) ∧ w'.ownsRow base 3 1 v1 n1 (markV markI n1 (k + 5 * n0)) ∧ w.grownBy z0 v0.ownBlock ∧ z0.grownBy w' v1.ownBlock := by
  have lt0 := World.ownsRow.lt o0
  obtain ⟨a0, cap0, rfl, hl0, hm0⟩ := owns_form o0
  have lt1 := World.ownsRow.lt o1
  obtain ⟨a1, cap1, rfl, hl1, hm1⟩ := owns_form o1
  have p0 := World.ownsRow.alloc o0 (.cells #[.slice a0 n0 cap0, .slice a1 n1 cap1] 27)
  have p1 := World.ownsRow.alloc o1 (.cells #[.slice a0 n0 cap0, .slice a1 n1 cap1] 27)
  go_enter Try.func66, Try.ntmps66
  go_wp2_with fail
  refine (markBlockS_c _ _ _ _ _ _ _ (by omega) (by omega) (by omega) p0).mono ?_
  rintro e w2 ⟨rfl, p0, g0⟩
  replace p1 := World.ownsRow.kept p1 g0 ap0_1.2
  have c1w2 : w2.cell? ⟨w.heap.size, 1, none⟩ = some (.slice a1 n1 cap1) := by rw [grown_cell (p := ⟨w.heap.size, 1, none⟩) g0 (by have := True.intro; simp at this ⊢; try omega) (by intro e; have := (lt0 _ e).2; simp at this)]; simp [go_sem]
  have hS_w2 : w.heap.size + 1 ≤ w2.heap.size := by have := Nat.le_trans (World.grownBy.size g0) (Nat.le_refl _); simp at this; omega
  go_wp2_with fail
  refine (markIntS_c _ _ _ _ _ _ _ (by omega) (by omega) (by omega) p1).mono ?_
  rintro e w3 ⟨rfl, p1, g1⟩
  replace p0 := World.ownsRow.kept p0 g1 ap0_1.1
  have hS_w3 : w.heap.size + 1 ≤ w3.heap.size := by have t1 := World.grownBy.size g1; simp at *; omega
  clear c1w2
  go_wp2
  go_ret
  exact ⟨_, ret_int (by omega), p0, p1, grownBy_trans (grownBy_of_below _ (by repeat (first | exact Below.refl _ _ | refine Below.alloc ?_ (by simp; try omega) _))) g0, g1⟩

set_option maxHeartbeats 1000000 in
theorem heldArena_c (v0 : Value) (n0 : Nat) (v1 : Value) (n1 : Nat) (k : Int) (w : World) (hn0 : n0 ≤ 1099511627776) (hn1 : n1 ≤ 1099511627776) (h0 : 0 ≤ k) (h1 : k + 5 * n0 + n1 ≤ 1125899906842624) (h0 : Flat w v0 n0 5 (markV markBlock (n0 * 5) (k))) (h1 : Flat w v1 n1 1 (markV markI n1 (k + 5 * n0))) :
    Calls Try.prog 69 #[.agg #[v0, v1], .int .i64 k] w fun r w' => r = .returned (.int .i64 (k + 5 * n0 + n1)) ∧ Below w.heap.size w w' := by
  obtain ⟨a0, cap0, rfl, hl0, hm0⟩ := h0.form
  obtain ⟨a1, cap1, rfl, hl1, hm1⟩ := h1.form
  go_enter Try.func69, Try.ntmps69
  go_wp2_with fail
  refine (heldBlockS_c _ _ _ _ (by omega) (by omega) (by omega) (Flat.below h0 (by repeat (first | exact Below.refl _ _ | refine Below.alloc ?_ (by simp; try omega) _)))).mono ?_
  rintro e w2 ⟨rfl, b⟩
  have hB_w2 : Below w.heap.size w w2 := Below.trans (by repeat (first | exact Below.refl _ _ | refine Below.alloc ?_ (by simp; try omega) _)) (b.mono (by simp))
  have hS_w2 : w.heap.size + 1 ≤ w2.heap.size := by have := b.size; simp at this; omega
  have c1w2 : w2.cell? ⟨w.heap.size, 1, none⟩ = some (.slice a1 n1 cap1) := by rw [b.cell (p := ⟨w.heap.size, 1, none⟩) (by simp)]; simp [go_sem]
  clear b
  go_wp2_with fail
  refine (heldIntS_c _ _ _ _ (by omega) (by omega) (by omega) (Flat.below h1 hB_w2)).mono ?_
  rintro e w3 ⟨rfl, b⟩
  have hB_w3 : Below w.heap.size w w3 := Below.trans hB_w2 (b.mono (by omega))
  have hS_w3 : w.heap.size + 1 ≤ w3.heap.size := by have := b.size; omega
  clear b c1w2
  go_wp2
  go_ret
  exact ⟨ret_int (by omega), hB_w3⟩

set_option maxHeartbeats 1000000 in
theorem toYard_c (v0 : Value) (x0 : List Block) (v1 : Value) (x1 : List Int) (v2 : Value) (x2 : List Int) (v3 : Value) (x3 : List Gone) (s4 : Int) (w : World) (hx0 : x0.length ≤ 1048576) (hx1 : x1.length ≤ 1048576) (hx2 : x2.length ≤ 1048576) (hx3 : x3.length ≤ 1048576) (h0 : Blocks w v0 x0) (h1 : Ints w v1 x1) (h2 : Ints w v2 x2) (h3 : Gones w v3 x3) :
    Calls Try.prog 21 #[.agg #[v0, v1, v2, v3, .int .i64 s4]] w fun e w' => ∃ u0 u1 u2 u3, e = .returned (.agg #[u0, u1, u2, u3, .int .i64 s4]) ∧ w'.ownsRow w.heap.size 64 5 u0 x0.length (x0.flatMap Block.enc) ∧ w'.ownsRow w.heap.size 3 1 u1 x1.length (x1.flatMap encI) ∧ w'.ownsRow w.heap.size 3 1 u2 x2.length (x2.flatMap encI) ∧ w'.ownsRow w.heap.size 70 2 u3 x3.length (x3.flatMap Gone.enc) ∧ ((u0.ownBlock = none ∨ u0.ownBlock ≠ u1.ownBlock) ∧ (u1.ownBlock = none ∨ u1.ownBlock ≠ u0.ownBlock)) ∧ ((u0.ownBlock = none ∨ u0.ownBlock ≠ u2.ownBlock) ∧ (u2.ownBlock = none ∨ u2.ownBlock ≠ u0.ownBlock)) ∧ ((u0.ownBlock = none ∨ u0.ownBlock ≠ u3.ownBlock) ∧ (u3.ownBlock = none ∨ u3.ownBlock ≠ u0.ownBlock)) ∧ ((u1.ownBlock = none ∨ u1.ownBlock ≠ u2.ownBlock) ∧ (u2.ownBlock = none ∨ u2.ownBlock ≠ u1.ownBlock)) ∧ ((u1.ownBlock = none ∨ u1.ownBlock ≠ u3.ownBlock) ∧ (u3.ownBlock = none ∨ u3.ownBlock ≠ u1.ownBlock)) ∧ ((u2.ownBlock = none ∨ u2.ownBlock ≠ u3.ownBlock) ∧ (u3.ownBlock = none ∨ u3.ownBlock ≠ u2.ownBlock)) ∧ Below w.heap.size w w' := by
  obtain ⟨a0, cap0, rfl, hl0, hm0⟩ := h0.form
  obtain ⟨a1, cap1, rfl, hl1, hm1⟩ := h1.form
  obtain ⟨a2, cap2, rfl, hl2, hm2⟩ := h2.form
  obtain ⟨a3, cap3, rfl, hl3, hm3⟩ := h3.form
  go_enter Try.func21, Try.ntmps21
  go_wp2_with fail
  refine (toArena_c _ x0 _ x1 _ hx0 hx1 (Flat.below h0 (by repeat (first | exact Below.refl _ _ | refine Below.alloc ?_ (by simp; try omega) _))) (Flat.below h1 (by repeat (first | exact Below.refl _ _ | refine Below.alloc ?_ (by simp; try omega) _)))).mono ?_
  rintro e w2 ⟨u0, u1, rfl, o0, o1, ap0_1, b⟩
  obtain ⟨ua0, uc0, rfl, _, _⟩ := owns_form o0
  obtain ⟨ua1, uc1, rfl, _, _⟩ := owns_form o1
  have hB_w2 : Below w.heap.size w w2 := Below.trans (by repeat (first | exact Below.refl _ _ | refine Below.alloc ?_ (by simp; try omega) _)) (b.mono (by simp; try omega))
  have hS_w2 : w.heap.size + 3 ≤ w2.heap.size := by have := b.size; simp at this; omega
  replace o0 := owns_mono (base' := w.heap.size + 3) o0 (by simp)
  replace o1 := owns_mono (base' := w.heap.size + 3) o1 (by simp)
  have p2w2 : w2.cell? ⟨w.heap.size, 2, none⟩ = some (.slice a2 x2.length cap2) := by rw [b.cell (p := ⟨w.heap.size, 2, none⟩) (by simp; try omega)]; simp [go_sem]
  have p3w2 : w2.cell? ⟨w.heap.size, 3, none⟩ = some (.slice a3 x3.length cap3) := by rw [b.cell (p := ⟨w.heap.size, 3, none⟩) (by simp; try omega)]; simp [go_sem]
  have p4w2 : w2.cell? ⟨w.heap.size, 4, none⟩ = some (.int .i64 s4) := by rw [b.cell (p := ⟨w.heap.size, 4, none⟩) (by simp; try omega)]; simp [go_sem]
  have c0w2 : w2.cell? ⟨w.heap.size + 1 + 1, 0, none⟩ = some (.slice none 0 0) := by rw [b.cell (p := ⟨w.heap.size + 1 + 1, 0, none⟩) (by simp; try omega)]; simp [go_sem]
  have cf0w2 : w2.frozen? ⟨w.heap.size + 1 + 1, 0, none⟩ = false := by rw [b.frozen (p := ⟨w.heap.size + 1 + 1, 0, none⟩) (by simp; try omega)]; simp [go_sem]
  have c1w2 : w2.cell? ⟨w.heap.size + 1 + 1, 1, none⟩ = some (.slice none 0 0) := by rw [b.cell (p := ⟨w.heap.size + 1 + 1, 1, none⟩) (by simp; try omega)]; simp [go_sem]
  have cf1w2 : w2.frozen? ⟨w.heap.size + 1 + 1, 1, none⟩ = false := by rw [b.frozen (p := ⟨w.heap.size + 1 + 1, 1, none⟩) (by simp; try omega)]; simp [go_sem]
  have c2w2 : w2.cell? ⟨w.heap.size + 1 + 1, 2, none⟩ = some (.slice none 0 0) := by rw [b.cell (p := ⟨w.heap.size + 1 + 1, 2, none⟩) (by simp; try omega)]; simp [go_sem]
  have cf2w2 : w2.frozen? ⟨w.heap.size + 1 + 1, 2, none⟩ = false := by rw [b.frozen (p := ⟨w.heap.size + 1 + 1, 2, none⟩) (by simp; try omega)]; simp [go_sem]
  have c3w2 : w2.cell? ⟨w.heap.size + 1 + 1, 3, none⟩ = some (.slice none 0 0) := by rw [b.cell (p := ⟨w.heap.size + 1 + 1, 3, none⟩) (by simp; try omega)]; simp [go_sem]
  have cf3w2 : w2.frozen? ⟨w.heap.size + 1 + 1, 3, none⟩ = false := by rw [b.frozen (p := ⟨w.heap.size + 1 + 1, 3, none⟩) (by simp; try omega)]; simp [go_sem]
  have c4w2 : w2.cell? ⟨w.heap.size + 1 + 1, 4, none⟩ = some (.int .i64 0) := by rw [b.cell (p := ⟨w.heap.size + 1 + 1, 4, none⟩) (by simp; try omega)]; simp [go_sem]
  have cf4w2 : w2.frozen? ⟨w.heap.size + 1 + 1, 4, none⟩ = false := by rw [b.frozen (p := ⟨w.heap.size + 1 + 1, 4, none⟩) (by simp; try omega)]; simp [go_sem]
  have d0w2 : w2.cell? ⟨w.heap.size + 1, 0, none⟩ = some (.slice none 0 0) := by rw [b.cell (p := ⟨w.heap.size + 1, 0, none⟩) (by simp; try omega)]; simp [go_sem]
  have df0w2 : w2.frozen? ⟨w.heap.size + 1, 0, none⟩ = false := by rw [b.frozen (p := ⟨w.heap.size + 1, 0, none⟩) (by simp; try omega)]; simp [go_sem]
  have d1w2 : w2.cell? ⟨w.heap.size + 1, 1, none⟩ = some (.slice none 0 0) := by rw [b.cell (p := ⟨w.heap.size + 1, 1, none⟩) (by simp; try omega)]; simp [go_sem]
  have df1w2 : w2.frozen? ⟨w.heap.size + 1, 1, none⟩ = false := by rw [b.frozen (p := ⟨w.heap.size + 1, 1, none⟩) (by simp; try omega)]; simp [go_sem]
  have d2w2 : w2.cell? ⟨w.heap.size + 1, 2, none⟩ = some (.slice none 0 0) := by rw [b.cell (p := ⟨w.heap.size + 1, 2, none⟩) (by simp; try omega)]; simp [go_sem]
  have df2w2 : w2.frozen? ⟨w.heap.size + 1, 2, none⟩ = false := by rw [b.frozen (p := ⟨w.heap.size + 1, 2, none⟩) (by simp; try omega)]; simp [go_sem]
  have d3w2 : w2.cell? ⟨w.heap.size + 1, 3, none⟩ = some (.slice none 0 0) := by rw [b.cell (p := ⟨w.heap.size + 1, 3, none⟩) (by simp; try omega)]; simp [go_sem]
  have df3w2 : w2.frozen? ⟨w.heap.size + 1, 3, none⟩ = false := by rw [b.frozen (p := ⟨w.heap.size + 1, 3, none⟩) (by simp; try omega)]; simp [go_sem]
  have d4w2 : w2.cell? ⟨w.heap.size + 1, 4, none⟩ = some (.int .i64 0) := by rw [b.cell (p := ⟨w.heap.size + 1, 4, none⟩) (by simp; try omega)]; simp [go_sem]
  have df4w2 : w2.frozen? ⟨w.heap.size + 1, 4, none⟩ = false := by rw [b.frozen (p := ⟨w.heap.size + 1, 4, none⟩) (by simp; try omega)]; simp [go_sem]
  clear b
  go_wp2_with fail
  refine (toIntS_c _ x2 _ hx2 (Flat.below h2 (by (repeat (refine Below.setCell ?_ (by simp; try omega) _)); exact hB_w2))).mono ?_
  rintro e w3 ⟨u2, rfl, o2, b⟩
  have ap0_2 := apart o0 (by simp [World.setCell]) o2
  have ap1_2 := apart o1 (by simp [World.setCell]) o2
  obtain ⟨ua2, uc2, rfl, _, _⟩ := owns_form o2
  have hB_w3 : Below w.heap.size w w3 := Below.trans (by (repeat (refine Below.setCell ?_ (by simp; try omega) _)); exact hB_w2) (b.mono (by simp [World.setCell]; omega))
  have hS_w3 : w.heap.size + 3 ≤ w3.heap.size := by have := b.size; simp [World.setCell] at this; omega
  replace o2 := owns_mono (base' := w.heap.size + 3) o2 (by simp [World.setCell]; omega)
  have o0 : w3.ownsRow (w.heap.size + 3) 64 5 (.slice ua0 x0.length uc0) x0.length (x0.flatMap Block.enc) := owns_below (by (repeat (refine owns_setCell ?_ _ _ (by simp; try omega))); exact o0) b
  have o1 : w3.ownsRow (w.heap.size + 3) 3 1 (.slice ua1 x1.length uc1) x1.length (x1.flatMap encI) := owns_below (by (repeat (refine owns_setCell ?_ _ _ (by simp; try omega))); exact o1) b
  have p3w3 : w3.cell? ⟨w.heap.size, 3, none⟩ = some (.slice a3 x3.length cap3) := by rw [b.cell (p := ⟨w.heap.size, 3, none⟩) (by simp [World.setCell]; omega)]; simp [go_sem, p2w2, p3w2, p4w2, c0w2, cf0w2, c1w2, cf1w2, c2w2, cf2w2, c3w2, cf3w2, c4w2, cf4w2, d0w2, df0w2, d1w2, df1w2, d2w2, df2w2, d3w2, df3w2, d4w2, df4w2]
  have p4w3 : w3.cell? ⟨w.heap.size, 4, none⟩ = some (.int .i64 s4) := by rw [b.cell (p := ⟨w.heap.size, 4, none⟩) (by simp [World.setCell]; omega)]; simp [go_sem, p2w2, p3w2, p4w2, c0w2, cf0w2, c1w2, cf1w2, c2w2, cf2w2, c3w2, cf3w2, c4w2, cf4w2, d0w2, df0w2, d1w2, df1w2, d2w2, df2w2, d3w2, df3w2, d4w2, df4w2]
  have c0w3 : w3.cell? ⟨w.heap.size + 1 + 1, 0, none⟩ = some (.slice ua0 x0.length uc0) := by rw [b.cell (p := ⟨w.heap.size + 1 + 1, 0, none⟩) (by simp [World.setCell]; omega)]; simp [go_sem, p2w2, p3w2, p4w2, c0w2, cf0w2, c1w2, cf1w2, c2w2, cf2w2, c3w2, cf3w2, c4w2, cf4w2, d0w2, df0w2, d1w2, df1w2, d2w2, df2w2, d3w2, df3w2, d4w2, df4w2]
  have cf0w3 : w3.frozen? ⟨w.heap.size + 1 + 1, 0, none⟩ = false := by rw [b.frozen (p := ⟨w.heap.size + 1 + 1, 0, none⟩) (by simp [World.setCell]; omega)]; simp [go_sem, p2w2, p3w2, p4w2, c0w2, cf0w2, c1w2, cf1w2, c2w2, cf2w2, c3w2, cf3w2, c4w2, cf4w2, d0w2, df0w2, d1w2, df1w2, d2w2, df2w2, d3w2, df3w2, d4w2, df4w2]
  have c1w3 : w3.cell? ⟨w.heap.size + 1 + 1, 1, none⟩ = some (.slice ua1 x1.length uc1) := by rw [b.cell (p := ⟨w.heap.size + 1 + 1, 1, none⟩) (by simp [World.setCell]; omega)]; simp [go_sem, p2w2, p3w2, p4w2, c0w2, cf0w2, c1w2, cf1w2, c2w2, cf2w2, c3w2, cf3w2, c4w2, cf4w2, d0w2, df0w2, d1w2, df1w2, d2w2, df2w2, d3w2, df3w2, d4w2, df4w2]
  have cf1w3 : w3.frozen? ⟨w.heap.size + 1 + 1, 1, none⟩ = false := by rw [b.frozen (p := ⟨w.heap.size + 1 + 1, 1, none⟩) (by simp [World.setCell]; omega)]; simp [go_sem, p2w2, p3w2, p4w2, c0w2, cf0w2, c1w2, cf1w2, c2w2, cf2w2, c3w2, cf3w2, c4w2, cf4w2, d0w2, df0w2, d1w2, df1w2, d2w2, df2w2, d3w2, df3w2, d4w2, df4w2]
  have c2w3 : w3.cell? ⟨w.heap.size + 1 + 1, 2, none⟩ = some (.slice none 0 0) := by rw [b.cell (p := ⟨w.heap.size + 1 + 1, 2, none⟩) (by simp [World.setCell]; omega)]; simp [go_sem, p2w2, p3w2, p4w2, c0w2, cf0w2, c1w2, cf1w2, c2w2, cf2w2, c3w2, cf3w2, c4w2, cf4w2, d0w2, df0w2, d1w2, df1w2, d2w2, df2w2, d3w2, df3w2, d4w2, df4w2]
  have cf2w3 : w3.frozen? ⟨w.heap.size + 1 + 1, 2, none⟩ = false := by rw [b.frozen (p := ⟨w.heap.size + 1 + 1, 2, none⟩) (by simp [World.setCell]; omega)]; simp [go_sem, p2w2, p3w2, p4w2, c0w2, cf0w2, c1w2, cf1w2, c2w2, cf2w2, c3w2, cf3w2, c4w2, cf4w2, d0w2, df0w2, d1w2, df1w2, d2w2, df2w2, d3w2, df3w2, d4w2, df4w2]
  have c3w3 : w3.cell? ⟨w.heap.size + 1 + 1, 3, none⟩ = some (.slice none 0 0) := by rw [b.cell (p := ⟨w.heap.size + 1 + 1, 3, none⟩) (by simp [World.setCell]; omega)]; simp [go_sem, p2w2, p3w2, p4w2, c0w2, cf0w2, c1w2, cf1w2, c2w2, cf2w2, c3w2, cf3w2, c4w2, cf4w2, d0w2, df0w2, d1w2, df1w2, d2w2, df2w2, d3w2, df3w2, d4w2, df4w2]
  have cf3w3 : w3.frozen? ⟨w.heap.size + 1 + 1, 3, none⟩ = false := by rw [b.frozen (p := ⟨w.heap.size + 1 + 1, 3, none⟩) (by simp [World.setCell]; omega)]; simp [go_sem, p2w2, p3w2, p4w2, c0w2, cf0w2, c1w2, cf1w2, c2w2, cf2w2, c3w2, cf3w2, c4w2, cf4w2, d0w2, df0w2, d1w2, df1w2, d2w2, df2w2, d3w2, df3w2, d4w2, df4w2]
  have c4w3 : w3.cell? ⟨w.heap.size + 1 + 1, 4, none⟩ = some (.int .i64 0) := by rw [b.cell (p := ⟨w.heap.size + 1 + 1, 4, none⟩) (by simp [World.setCell]; omega)]; simp [go_sem, p2w2, p3w2, p4w2, c0w2, cf0w2, c1w2, cf1w2, c2w2, cf2w2, c3w2, cf3w2, c4w2, cf4w2, d0w2, df0w2, d1w2, df1w2, d2w2, df2w2, d3w2, df3w2, d4w2, df4w2]
  have cf4w3 : w3.frozen? ⟨w.heap.size + 1 + 1, 4, none⟩ = false := by rw [b.frozen (p := ⟨w.heap.size + 1 + 1, 4, none⟩) (by simp [World.setCell]; omega)]; simp [go_sem, p2w2, p3w2, p4w2, c0w2, cf0w2, c1w2, cf1w2, c2w2, cf2w2, c3w2, cf3w2, c4w2, cf4w2, d0w2, df0w2, d1w2, df1w2, d2w2, df2w2, d3w2, df3w2, d4w2, df4w2]
  have d0w3 : w3.cell? ⟨w.heap.size + 1, 0, none⟩ = some (.slice none 0 0) := by rw [b.cell (p := ⟨w.heap.size + 1, 0, none⟩) (by simp [World.setCell]; omega)]; simp [go_sem, p2w2, p3w2, p4w2, c0w2, cf0w2, c1w2, cf1w2, c2w2, cf2w2, c3w2, cf3w2, c4w2, cf4w2, d0w2, df0w2, d1w2, df1w2, d2w2, df2w2, d3w2, df3w2, d4w2, df4w2]
  have df0w3 : w3.frozen? ⟨w.heap.size + 1, 0, none⟩ = false := by rw [b.frozen (p := ⟨w.heap.size + 1, 0, none⟩) (by simp [World.setCell]; omega)]; simp [go_sem, p2w2, p3w2, p4w2, c0w2, cf0w2, c1w2, cf1w2, c2w2, cf2w2, c3w2, cf3w2, c4w2, cf4w2, d0w2, df0w2, d1w2, df1w2, d2w2, df2w2, d3w2, df3w2, d4w2, df4w2]
  have d1w3 : w3.cell? ⟨w.heap.size + 1, 1, none⟩ = some (.slice none 0 0) := by rw [b.cell (p := ⟨w.heap.size + 1, 1, none⟩) (by simp [World.setCell]; omega)]; simp [go_sem, p2w2, p3w2, p4w2, c0w2, cf0w2, c1w2, cf1w2, c2w2, cf2w2, c3w2, cf3w2, c4w2, cf4w2, d0w2, df0w2, d1w2, df1w2, d2w2, df2w2, d3w2, df3w2, d4w2, df4w2]
  have df1w3 : w3.frozen? ⟨w.heap.size + 1, 1, none⟩ = false := by rw [b.frozen (p := ⟨w.heap.size + 1, 1, none⟩) (by simp [World.setCell]; omega)]; simp [go_sem, p2w2, p3w2, p4w2, c0w2, cf0w2, c1w2, cf1w2, c2w2, cf2w2, c3w2, cf3w2, c4w2, cf4w2, d0w2, df0w2, d1w2, df1w2, d2w2, df2w2, d3w2, df3w2, d4w2, df4w2]
  have d2w3 : w3.cell? ⟨w.heap.size + 1, 2, none⟩ = some (.slice none 0 0) := by rw [b.cell (p := ⟨w.heap.size + 1, 2, none⟩) (by simp [World.setCell]; omega)]; simp [go_sem, p2w2, p3w2, p4w2, c0w2, cf0w2, c1w2, cf1w2, c2w2, cf2w2, c3w2, cf3w2, c4w2, cf4w2, d0w2, df0w2, d1w2, df1w2, d2w2, df2w2, d3w2, df3w2, d4w2, df4w2]
  have df2w3 : w3.frozen? ⟨w.heap.size + 1, 2, none⟩ = false := by rw [b.frozen (p := ⟨w.heap.size + 1, 2, none⟩) (by simp [World.setCell]; omega)]; simp [go_sem, p2w2, p3w2, p4w2, c0w2, cf0w2, c1w2, cf1w2, c2w2, cf2w2, c3w2, cf3w2, c4w2, cf4w2, d0w2, df0w2, d1w2, df1w2, d2w2, df2w2, d3w2, df3w2, d4w2, df4w2]
  have d3w3 : w3.cell? ⟨w.heap.size + 1, 3, none⟩ = some (.slice none 0 0) := by rw [b.cell (p := ⟨w.heap.size + 1, 3, none⟩) (by simp [World.setCell]; omega)]; simp [go_sem, p2w2, p3w2, p4w2, c0w2, cf0w2, c1w2, cf1w2, c2w2, cf2w2, c3w2, cf3w2, c4w2, cf4w2, d0w2, df0w2, d1w2, df1w2, d2w2, df2w2, d3w2, df3w2, d4w2, df4w2]
  have df3w3 : w3.frozen? ⟨w.heap.size + 1, 3, none⟩ = false := by rw [b.frozen (p := ⟨w.heap.size + 1, 3, none⟩) (by simp [World.setCell]; omega)]; simp [go_sem, p2w2, p3w2, p4w2, c0w2, cf0w2, c1w2, cf1w2, c2w2, cf2w2, c3w2, cf3w2, c4w2, cf4w2, d0w2, df0w2, d1w2, df1w2, d2w2, df2w2, d3w2, df3w2, d4w2, df4w2]
  have d4w3 : w3.cell? ⟨w.heap.size + 1, 4, none⟩ = some (.int .i64 0) := by rw [b.cell (p := ⟨w.heap.size + 1, 4, none⟩) (by simp [World.setCell]; omega)]; simp [go_sem, p2w2, p3w2, p4w2, c0w2, cf0w2, c1w2, cf1w2, c2w2, cf2w2, c3w2, cf3w2, c4w2, cf4w2, d0w2, df0w2, d1w2, df1w2, d2w2, df2w2, d3w2, df3w2, d4w2, df4w2]
  have df4w3 : w3.frozen? ⟨w.heap.size + 1, 4, none⟩ = false := by rw [b.frozen (p := ⟨w.heap.size + 1, 4, none⟩) (by simp [World.setCell]; omega)]; simp [go_sem, p2w2, p3w2, p4w2, c0w2, cf0w2, c1w2, cf1w2, c2w2, cf2w2, c3w2, cf3w2, c4w2, cf4w2, d0w2, df0w2, d1w2, df1w2, d2w2, df2w2, d3w2, df3w2, d4w2, df4w2]
  clear b p2w2 p3w2 p4w2 c0w2 cf0w2 c1w2 cf1w2 c2w2 cf2w2 c3w2 cf3w2 c4w2 cf4w2 d0w2 df0w2 d1w2 df1w2 d2w2 df2w2 d3w2 df3w2 d4w2 df4w2
  go_wp2_with fail
  refine (toGoneS_c _ x3 _ hx3 (Flat.below h3 (by (repeat (refine Below.setCell ?_ (by simp; try omega) _)); exact hB_w3))).mono ?_
  rintro e w4 ⟨u3, rfl, o3, b⟩
  have ap0_3 := apart o0 (by simp [World.setCell]) o3
  have ap1_3 := apart o1 (by simp [World.setCell]) o3
  have ap2_3 := apart o2 (by simp [World.setCell]) o3
  obtain ⟨ua3, uc3, rfl, _, _⟩ := owns_form o3
  have hB_w4 : Below w.heap.size w w4 := Below.trans (by (repeat (refine Below.setCell ?_ (by simp; try omega) _)); exact hB_w3) (b.mono (by simp [World.setCell]; omega))
  have hS_w4 : w.heap.size + 3 ≤ w4.heap.size := by have := b.size; simp [World.setCell] at this; omega
  replace o3 := owns_mono (base' := w.heap.size + 3) o3 (by simp [World.setCell]; omega)
  have o0 : w4.ownsRow (w.heap.size + 3) 64 5 (.slice ua0 x0.length uc0) x0.length (x0.flatMap Block.enc) := owns_below (by (repeat (refine owns_setCell ?_ _ _ (by simp; try omega))); exact o0) b
  have o1 : w4.ownsRow (w.heap.size + 3) 3 1 (.slice ua1 x1.length uc1) x1.length (x1.flatMap encI) := owns_below (by (repeat (refine owns_setCell ?_ _ _ (by simp; try omega))); exact o1) b
  have o2 : w4.ownsRow (w.heap.size + 3) 3 1 (.slice ua2 x2.length uc2) x2.length (x2.flatMap encI) := owns_below (by (repeat (refine owns_setCell ?_ _ _ (by simp; try omega))); exact o2) b
  have p4w4 : w4.cell? ⟨w.heap.size, 4, none⟩ = some (.int .i64 s4) := by rw [b.cell (p := ⟨w.heap.size, 4, none⟩) (by simp [World.setCell]; omega)]; simp [go_sem, p3w3, p4w3, c0w3, cf0w3, c1w3, cf1w3, c2w3, cf2w3, c3w3, cf3w3, c4w3, cf4w3, d0w3, df0w3, d1w3, df1w3, d2w3, df2w3, d3w3, df3w3, d4w3, df4w3]
  have c0w4 : w4.cell? ⟨w.heap.size + 1 + 1, 0, none⟩ = some (.slice ua0 x0.length uc0) := by rw [b.cell (p := ⟨w.heap.size + 1 + 1, 0, none⟩) (by simp [World.setCell]; omega)]; simp [go_sem, p3w3, p4w3, c0w3, cf0w3, c1w3, cf1w3, c2w3, cf2w3, c3w3, cf3w3, c4w3, cf4w3, d0w3, df0w3, d1w3, df1w3, d2w3, df2w3, d3w3, df3w3, d4w3, df4w3]
  have cf0w4 : w4.frozen? ⟨w.heap.size + 1 + 1, 0, none⟩ = false := by rw [b.frozen (p := ⟨w.heap.size + 1 + 1, 0, none⟩) (by simp [World.setCell]; omega)]; simp [go_sem, p3w3, p4w3, c0w3, cf0w3, c1w3, cf1w3, c2w3, cf2w3, c3w3, cf3w3, c4w3, cf4w3, d0w3, df0w3, d1w3, df1w3, d2w3, df2w3, d3w3, df3w3, d4w3, df4w3]
  have c1w4 : w4.cell? ⟨w.heap.size + 1 + 1, 1, none⟩ = some (.slice ua1 x1.length uc1) := by rw [b.cell (p := ⟨w.heap.size + 1 + 1, 1, none⟩) (by simp [World.setCell]; omega)]; simp [go_sem, p3w3, p4w3, c0w3, cf0w3, c1w3, cf1w3, c2w3, cf2w3, c3w3, cf3w3, c4w3, cf4w3, d0w3, df0w3, d1w3, df1w3, d2w3, df2w3, d3w3, df3w3, d4w3, df4w3]
  have cf1w4 : w4.frozen? ⟨w.heap.size + 1 + 1, 1, none⟩ = false := by rw [b.frozen (p := ⟨w.heap.size + 1 + 1, 1, none⟩) (by simp [World.setCell]; omega)]; simp [go_sem, p3w3, p4w3, c0w3, cf0w3, c1w3, cf1w3, c2w3, cf2w3, c3w3, cf3w3, c4w3, cf4w3, d0w3, df0w3, d1w3, df1w3, d2w3, df2w3, d3w3, df3w3, d4w3, df4w3]
  have c2w4 : w4.cell? ⟨w.heap.size + 1 + 1, 2, none⟩ = some (.slice ua2 x2.length uc2) := by rw [b.cell (p := ⟨w.heap.size + 1 + 1, 2, none⟩) (by simp [World.setCell]; omega)]; simp [go_sem, p3w3, p4w3, c0w3, cf0w3, c1w3, cf1w3, c2w3, cf2w3, c3w3, cf3w3, c4w3, cf4w3, d0w3, df0w3, d1w3, df1w3, d2w3, df2w3, d3w3, df3w3, d4w3, df4w3]
  have cf2w4 : w4.frozen? ⟨w.heap.size + 1 + 1, 2, none⟩ = false := by rw [b.frozen (p := ⟨w.heap.size + 1 + 1, 2, none⟩) (by simp [World.setCell]; omega)]; simp [go_sem, p3w3, p4w3, c0w3, cf0w3, c1w3, cf1w3, c2w3, cf2w3, c3w3, cf3w3, c4w3, cf4w3, d0w3, df0w3, d1w3, df1w3, d2w3, df2w3, d3w3, df3w3, d4w3, df4w3]
  have c3w4 : w4.cell? ⟨w.heap.size + 1 + 1, 3, none⟩ = some (.slice none 0 0) := by rw [b.cell (p := ⟨w.heap.size + 1 + 1, 3, none⟩) (by simp [World.setCell]; omega)]; simp [go_sem, p3w3, p4w3, c0w3, cf0w3, c1w3, cf1w3, c2w3, cf2w3, c3w3, cf3w3, c4w3, cf4w3, d0w3, df0w3, d1w3, df1w3, d2w3, df2w3, d3w3, df3w3, d4w3, df4w3]
  have cf3w4 : w4.frozen? ⟨w.heap.size + 1 + 1, 3, none⟩ = false := by rw [b.frozen (p := ⟨w.heap.size + 1 + 1, 3, none⟩) (by simp [World.setCell]; omega)]; simp [go_sem, p3w3, p4w3, c0w3, cf0w3, c1w3, cf1w3, c2w3, cf2w3, c3w3, cf3w3, c4w3, cf4w3, d0w3, df0w3, d1w3, df1w3, d2w3, df2w3, d3w3, df3w3, d4w3, df4w3]
  have c4w4 : w4.cell? ⟨w.heap.size + 1 + 1, 4, none⟩ = some (.int .i64 0) := by rw [b.cell (p := ⟨w.heap.size + 1 + 1, 4, none⟩) (by simp [World.setCell]; omega)]; simp [go_sem, p3w3, p4w3, c0w3, cf0w3, c1w3, cf1w3, c2w3, cf2w3, c3w3, cf3w3, c4w3, cf4w3, d0w3, df0w3, d1w3, df1w3, d2w3, df2w3, d3w3, df3w3, d4w3, df4w3]
  have cf4w4 : w4.frozen? ⟨w.heap.size + 1 + 1, 4, none⟩ = false := by rw [b.frozen (p := ⟨w.heap.size + 1 + 1, 4, none⟩) (by simp [World.setCell]; omega)]; simp [go_sem, p3w3, p4w3, c0w3, cf0w3, c1w3, cf1w3, c2w3, cf2w3, c3w3, cf3w3, c4w3, cf4w3, d0w3, df0w3, d1w3, df1w3, d2w3, df2w3, d3w3, df3w3, d4w3, df4w3]
  have d0w4 : w4.cell? ⟨w.heap.size + 1, 0, none⟩ = some (.slice none 0 0) := by rw [b.cell (p := ⟨w.heap.size + 1, 0, none⟩) (by simp [World.setCell]; omega)]; simp [go_sem, p3w3, p4w3, c0w3, cf0w3, c1w3, cf1w3, c2w3, cf2w3, c3w3, cf3w3, c4w3, cf4w3, d0w3, df0w3, d1w3, df1w3, d2w3, df2w3, d3w3, df3w3, d4w3, df4w3]
  have df0w4 : w4.frozen? ⟨w.heap.size + 1, 0, none⟩ = false := by rw [b.frozen (p := ⟨w.heap.size + 1, 0, none⟩) (by simp [World.setCell]; omega)]; simp [go_sem, p3w3, p4w3, c0w3, cf0w3, c1w3, cf1w3, c2w3, cf2w3, c3w3, cf3w3, c4w3, cf4w3, d0w3, df0w3, d1w3, df1w3, d2w3, df2w3, d3w3, df3w3, d4w3, df4w3]
  have d1w4 : w4.cell? ⟨w.heap.size + 1, 1, none⟩ = some (.slice none 0 0) := by rw [b.cell (p := ⟨w.heap.size + 1, 1, none⟩) (by simp [World.setCell]; omega)]; simp [go_sem, p3w3, p4w3, c0w3, cf0w3, c1w3, cf1w3, c2w3, cf2w3, c3w3, cf3w3, c4w3, cf4w3, d0w3, df0w3, d1w3, df1w3, d2w3, df2w3, d3w3, df3w3, d4w3, df4w3]
  have df1w4 : w4.frozen? ⟨w.heap.size + 1, 1, none⟩ = false := by rw [b.frozen (p := ⟨w.heap.size + 1, 1, none⟩) (by simp [World.setCell]; omega)]; simp [go_sem, p3w3, p4w3, c0w3, cf0w3, c1w3, cf1w3, c2w3, cf2w3, c3w3, cf3w3, c4w3, cf4w3, d0w3, df0w3, d1w3, df1w3, d2w3, df2w3, d3w3, df3w3, d4w3, df4w3]
  have d2w4 : w4.cell? ⟨w.heap.size + 1, 2, none⟩ = some (.slice none 0 0) := by rw [b.cell (p := ⟨w.heap.size + 1, 2, none⟩) (by simp [World.setCell]; omega)]; simp [go_sem, p3w3, p4w3, c0w3, cf0w3, c1w3, cf1w3, c2w3, cf2w3, c3w3, cf3w3, c4w3, cf4w3, d0w3, df0w3, d1w3, df1w3, d2w3, df2w3, d3w3, df3w3, d4w3, df4w3]
  have df2w4 : w4.frozen? ⟨w.heap.size + 1, 2, none⟩ = false := by rw [b.frozen (p := ⟨w.heap.size + 1, 2, none⟩) (by simp [World.setCell]; omega)]; simp [go_sem, p3w3, p4w3, c0w3, cf0w3, c1w3, cf1w3, c2w3, cf2w3, c3w3, cf3w3, c4w3, cf4w3, d0w3, df0w3, d1w3, df1w3, d2w3, df2w3, d3w3, df3w3, d4w3, df4w3]
  have d3w4 : w4.cell? ⟨w.heap.size + 1, 3, none⟩ = some (.slice none 0 0) := by rw [b.cell (p := ⟨w.heap.size + 1, 3, none⟩) (by simp [World.setCell]; omega)]; simp [go_sem, p3w3, p4w3, c0w3, cf0w3, c1w3, cf1w3, c2w3, cf2w3, c3w3, cf3w3, c4w3, cf4w3, d0w3, df0w3, d1w3, df1w3, d2w3, df2w3, d3w3, df3w3, d4w3, df4w3]
  have df3w4 : w4.frozen? ⟨w.heap.size + 1, 3, none⟩ = false := by rw [b.frozen (p := ⟨w.heap.size + 1, 3, none⟩) (by simp [World.setCell]; omega)]; simp [go_sem, p3w3, p4w3, c0w3, cf0w3, c1w3, cf1w3, c2w3, cf2w3, c3w3, cf3w3, c4w3, cf4w3, d0w3, df0w3, d1w3, df1w3, d2w3, df2w3, d3w3, df3w3, d4w3, df4w3]
  have d4w4 : w4.cell? ⟨w.heap.size + 1, 4, none⟩ = some (.int .i64 0) := by rw [b.cell (p := ⟨w.heap.size + 1, 4, none⟩) (by simp [World.setCell]; omega)]; simp [go_sem, p3w3, p4w3, c0w3, cf0w3, c1w3, cf1w3, c2w3, cf2w3, c3w3, cf3w3, c4w3, cf4w3, d0w3, df0w3, d1w3, df1w3, d2w3, df2w3, d3w3, df3w3, d4w3, df4w3]
  have df4w4 : w4.frozen? ⟨w.heap.size + 1, 4, none⟩ = false := by rw [b.frozen (p := ⟨w.heap.size + 1, 4, none⟩) (by simp [World.setCell]; omega)]; simp [go_sem, p3w3, p4w3, c0w3, cf0w3, c1w3, cf1w3, c2w3, cf2w3, c3w3, cf3w3, c4w3, cf4w3, d0w3, df0w3, d1w3, df1w3, d2w3, df2w3, d3w3, df3w3, d4w3, df4w3]
  clear b p3w3 p4w3 c0w3 cf0w3 c1w3 cf1w3 c2w3 cf2w3 c3w3 cf3w3 c4w3 cf4w3 d0w3 df0w3 d1w3 df1w3 d2w3 df2w3 d3w3 df3w3 d4w3 df4w3
  go_wp2
  refine bodyPost_ret (v := .agg #[.slice ua0 x0.length uc0, .slice ua1 x1.length uc1, .slice ua2 x2.length uc2, .slice ua3 x3.length uc3, .int .i64 s4]) ?_ rfl ⟨_, _, _, _, rfl, ?_, ?_, ?_, ?_, ap0_1, ap0_2, ap0_3, ap1_2, ap1_3, ap2_3, ?_⟩
  · simp [results, Try.results21, go_sem, d0w4, d1w4, d2w4, d3w4, d4w4]
  · refine owns_mono (base := w.heap.size + 3) ?_ (by omega)
    repeat (refine owns_setCell ?_ _ _ (by simp; try omega))
    exact o0
  · refine owns_mono (base := w.heap.size + 3) ?_ (by omega)
    repeat (refine owns_setCell ?_ _ _ (by simp; try omega))
    exact o1
  · refine owns_mono (base := w.heap.size + 3) ?_ (by omega)
    repeat (refine owns_setCell ?_ _ _ (by simp; try omega))
    exact o2
  · refine owns_mono (base := w.heap.size + 3) ?_ (by omega)
    repeat (refine owns_setCell ?_ _ _ (by simp; try omega))
    exact o3
  · repeat (refine Below.setCell ?_ (by simp; try omega) _)
    exact hB_w4

set_option maxHeartbeats 1000000 in
theorem eqYard_c (v0 u0 : Value) (x0 : List Block) (v1 u1 : Value) (x1 : List Int) (v2 u2 : Value) (x2 : List Int) (v3 u3 : Value) (x3 : List Gone) (s4 : Int) (w : World) (h0 : Blocks w v0 x0) (h1 : Ints w v1 x1) (h2 : Ints w v2 x2) (h3 : Gones w v3 x3) (g0 : Blocks w u0 x0) (g1 : Ints w u1 x1) (g2 : Ints w u2 x2) (g3 : Gones w u3 x3) :
    Calls Try.prog 23 #[.agg #[v0, v1, v2, v3, .int .i64 s4], .agg #[u0, u1, u2, u3, .int .i64 s4]] w fun e w' => e = .returned (.bool true) ∧ Below w.heap.size w w' := by
  obtain ⟨a0, cap0, rfl, hl0, hm0⟩ := h0.form
  obtain ⟨ua0, uc0, rfl, ul0, um0⟩ := g0.form
  obtain ⟨a1, cap1, rfl, hl1, hm1⟩ := h1.form
  obtain ⟨ua1, uc1, rfl, ul1, um1⟩ := g1.form
  obtain ⟨a2, cap2, rfl, hl2, hm2⟩ := h2.form
  obtain ⟨ua2, uc2, rfl, ul2, um2⟩ := g2.form
  obtain ⟨a3, cap3, rfl, hl3, hm3⟩ := h3.form
  obtain ⟨ua3, uc3, rfl, ul3, um3⟩ := g3.form
  go_enter Try.func23, Try.ntmps23
  go_wp2_with fail
  refine (eqArena_c _ _ x0 _ _ x1 _ (Flat.below h0 (by repeat (first | exact Below.refl _ _ | refine Below.alloc ?_ (by simp; try omega) _))) (Flat.below h1 (by repeat (first | exact Below.refl _ _ | refine Below.alloc ?_ (by simp; try omega) _))) (Flat.below g0 (by repeat (first | exact Below.refl _ _ | refine Below.alloc ?_ (by simp; try omega) _))) (Flat.below g1 (by repeat (first | exact Below.refl _ _ | refine Below.alloc ?_ (by simp; try omega) _)))).mono ?_
  rintro e w2 ⟨rfl, b⟩
  have hB_w2 : Below w.heap.size w w2 := Below.trans (by repeat (first | exact Below.refl _ _ | refine Below.alloc ?_ (by simp; try omega) _)) (b.mono (by simp; try omega))
  have hS_w2 : w.heap.size + 2 ≤ w2.heap.size := by have := b.size; simp at this; omega
  have p2w2 : w2.cell? ⟨w.heap.size, 2, none⟩ = some (.slice a2 x2.length cap2) := by rw [b.cell (p := ⟨w.heap.size, 2, none⟩) (by simp; try omega)]; simp [go_sem]
  have p3w2 : w2.cell? ⟨w.heap.size, 3, none⟩ = some (.slice a3 x3.length cap3) := by rw [b.cell (p := ⟨w.heap.size, 3, none⟩) (by simp; try omega)]; simp [go_sem]
  have p4w2 : w2.cell? ⟨w.heap.size, 4, none⟩ = some (.int .i64 s4) := by rw [b.cell (p := ⟨w.heap.size, 4, none⟩) (by simp; try omega)]; simp [go_sem]
  have q2w2 : w2.cell? ⟨w.heap.size + 1, 2, none⟩ = some (.slice ua2 x2.length uc2) := by rw [b.cell (p := ⟨w.heap.size + 1, 2, none⟩) (by simp; try omega)]; simp [go_sem]
  have q3w2 : w2.cell? ⟨w.heap.size + 1, 3, none⟩ = some (.slice ua3 x3.length uc3) := by rw [b.cell (p := ⟨w.heap.size + 1, 3, none⟩) (by simp; try omega)]; simp [go_sem]
  have q4w2 : w2.cell? ⟨w.heap.size + 1, 4, none⟩ = some (.int .i64 s4) := by rw [b.cell (p := ⟨w.heap.size + 1, 4, none⟩) (by simp; try omega)]; simp [go_sem]
  clear b
  go_wp2_with fail
  refine (eqIntS_c _ _ x2 _ (Flat.below h2 hB_w2) (Flat.below g2 hB_w2)).mono ?_
  rintro e w3 ⟨rfl, b⟩
  have hB_w3 : Below w.heap.size w w3 := Below.trans hB_w2 (b.mono (by omega))
  have hS_w3 : w.heap.size + 2 ≤ w3.heap.size := by have := b.size; omega
  have p3w3 : w3.cell? ⟨w.heap.size, 3, none⟩ = some (.slice a3 x3.length cap3) := by rw [b.cell (p := ⟨w.heap.size, 3, none⟩) (by show _ < _; simp; omega)]; simp [go_sem, p2w2, p3w2, p4w2, q2w2, q3w2, q4w2]
  have p4w3 : w3.cell? ⟨w.heap.size, 4, none⟩ = some (.int .i64 s4) := by rw [b.cell (p := ⟨w.heap.size, 4, none⟩) (by show _ < _; simp; omega)]; simp [go_sem, p2w2, p3w2, p4w2, q2w2, q3w2, q4w2]
  have q3w3 : w3.cell? ⟨w.heap.size + 1, 3, none⟩ = some (.slice ua3 x3.length uc3) := by rw [b.cell (p := ⟨w.heap.size + 1, 3, none⟩) (by show _ < _; simp; omega)]; simp [go_sem, p2w2, p3w2, p4w2, q2w2, q3w2, q4w2]
  have q4w3 : w3.cell? ⟨w.heap.size + 1, 4, none⟩ = some (.int .i64 s4) := by rw [b.cell (p := ⟨w.heap.size + 1, 4, none⟩) (by show _ < _; simp; omega)]; simp [go_sem, p2w2, p3w2, p4w2, q2w2, q3w2, q4w2]
  clear b p2w2 p3w2 p4w2 q2w2 q3w2 q4w2
  go_wp2_with fail
  refine (eqGoneS_c _ _ x3 _ (Flat.below h3 hB_w3) (Flat.below g3 hB_w3)).mono ?_
  rintro e w4 ⟨rfl, b⟩
  have hB_w4 : Below w.heap.size w w4 := Below.trans hB_w3 (b.mono (by omega))
  have hS_w4 : w.heap.size + 2 ≤ w4.heap.size := by have := b.size; omega
  have p4w4 : w4.cell? ⟨w.heap.size, 4, none⟩ = some (.int .i64 s4) := by rw [b.cell (p := ⟨w.heap.size, 4, none⟩) (by show _ < _; simp; omega)]; simp [go_sem, p3w3, p4w3, q3w3, q4w3]
  have q4w4 : w4.cell? ⟨w.heap.size + 1, 4, none⟩ = some (.int .i64 s4) := by rw [b.cell (p := ⟨w.heap.size + 1, 4, none⟩) (by show _ < _; simp; omega)]; simp [go_sem, p3w3, p4w3, q3w3, q4w3]
  clear b p3w3 p4w3 q3w3 q4w3
  go_wp2
  go_ret
  exact ⟨rfl, hB_w4⟩

set_option maxHeartbeats 1000000 in
theorem szYard_c (a0 : Option Addr) (n0 cap0 : Nat) (a1 : Option Addr) (n1 cap1 : Nat) (a2 : Option Addr) (n2 cap2 : Nat) (a3 : Option Addr) (n3 cap3 : Nat) (s4 : Int) (k : Int) (w : World) (hn0 : n0 ≤ 9223372036854775807) (hn1 : n1 ≤ 9223372036854775807) (hn2 : n2 ≤ 9223372036854775807) (hn3 : n3 ≤ 9223372036854775807) (h0 : 0 ≤ k) (h1 : k ≤ 1048576) :
    Calls Try.prog 19 #[.agg #[.slice a0 n0 cap0, .slice a1 n1 cap1, .slice a2 n2 cap2, .slice a3 n3 cap3, .int .i64 s4], .int .i64 k] w fun e w' => e = .returned (.int .i64 (if k < (n0 : Int) + (n1 : Int) + (n2 : Int) + (n3 : Int) then -1 else k - ((n0 : Int) + (n1 : Int) + (n2 : Int) + (n3 : Int)))) ∧ Below w.heap.size w w' := by
  go_enter Try.func19, Try.ntmps19
  go_wp2_with fail
  refine (szArena_c _ _ _ _ _ _ _ _ (by omega) (by omega) (by omega) (by omega)).mono ?_
  rintro e w2 ⟨rfl, b⟩
  have hB_w2 : Below w.heap.size w w2 := Below.trans (by repeat (first | exact Below.refl _ _ | refine Below.alloc ?_ (by simp; try omega) _)) (b.mono (by simp))
  have p2w2 : w2.cell? ⟨w.heap.size, 2, none⟩ = some (.slice a2 n2 cap2) := by rw [b.cell (p := ⟨w.heap.size, 2, none⟩) (by simp)]; simp [go_sem]
  have p3w2 : w2.cell? ⟨w.heap.size, 3, none⟩ = some (.slice a3 n3 cap3) := by rw [b.cell (p := ⟨w.heap.size, 3, none⟩) (by simp)]; simp [go_sem]
  have p4w2 : w2.cell? ⟨w.heap.size, 4, none⟩ = some (.int .i64 s4) := by rw [b.cell (p := ⟨w.heap.size, 4, none⟩) (by simp)]; simp [go_sem]
  clear b
  by_cases hk0 : k < (n0 : Int) + (n1 : Int)
  · rw [if_pos hk0]
    go_wp2
    go_ret
    all_goals first | exact ⟨rfl, hB_w2⟩ | (exfalso; omega)
  rw [if_neg hk0]
  go_wp2_with fail
  refine (szIntS_c _ _ _ _ _ (by omega) (by omega) (by omega)).mono ?_
  rintro e w' ⟨rfl, rfl⟩
  by_cases hk2 : k - ((n0 : Int) + (n1 : Int)) < (n2 : Int)
  · rw [if_pos hk2]
    go_wp2
    go_ret
    all_goals first | exact ⟨rfl, hB_w2⟩ | (exfalso; omega)
  rw [if_neg hk2]
  go_wp2_with fail
  refine (szGoneS_c _ _ _ _ _ (by omega) (by omega) (by omega)).mono ?_
  rintro e w' ⟨rfl, rfl⟩
  by_cases hk3 : k - ((n0 : Int) + (n1 : Int)) - (n2 : Int) < (n3 : Int)
  · rw [if_pos hk3]
    go_wp2
    go_ret
    all_goals first | exact ⟨rfl, hB_w2⟩ | (exfalso; omega)
  rw [if_neg hk3]
  go_wp2
  go_ret
  all_goals first | exact ⟨ret_int (by omega), hB_w2⟩ | (exfalso; omega)

set_option maxHeartbeats 1000000 in
theorem markYard_c (base : Nat) (v0 : Value) (n0 : Nat) (y0 : List Value) (v1 : Value) (n1 : Nat) (y1 : List Value) (v2 : Value) (n2 : Nat) (y2 : List Value) (v3 : Value) (n3 : Nat) (y3 : List Value) (s4 : Int) (k : Int) (w : World) (hn0 : n0 ≤ 1099511627776) (hn1 : n1 ≤ 1099511627776) (hn2 : n2 ≤ 1099511627776) (hn3 : n3 ≤ 1099511627776) (h0 : 0 ≤ k) (h1 : k + 5 * n0 + n1 + n2 + 2 * n3 ≤ 1125899906842624) (o0 : w.ownsRow base 64 5 v0 n0 y0) (o1 : w.ownsRow base 3 1 v1 n1 y1) (o2 : w.ownsRow base 3 1 v2 n2 y2) (o3 : w.ownsRow base 70 2 v3 n3 y3) (ap0_1 : ((v0.ownBlock = none ∨ v0.ownBlock ≠ v1.ownBlock) ∧ (v1.ownBlock = none ∨ v1.ownBlock ≠ v0.ownBlock))) (ap0_2 : ((v0.ownBlock = none ∨ v0.ownBlock ≠ v2.ownBlock) ∧ (v2.ownBlock = none ∨ v2.ownBlock ≠ v0.ownBlock))) (ap0_3 : ((v0.ownBlock = none ∨ v0.ownBlock ≠ v3.ownBlock) ∧ (v3.ownBlock = none ∨ v3.ownBlock ≠ v0.ownBlock))) (ap1_2 : ((v1.ownBlock = none ∨ v1.ownBlock ≠ v2.ownBlock) ∧ (v2.ownBlock = none ∨ v2.ownBlock ≠ v1.ownBlock))) (ap1_3 : ((v1.ownBlock = none ∨ v1.ownBlock ≠ v3.ownBlock) ∧ (v3.ownBlock = none ∨ v3.ownBlock ≠ v1.ownBlock))) (ap2_3 : ((v2.ownBlock = none ∨ v2.ownBlock ≠ v3.ownBlock) ∧ (v3.ownBlock = none ∨ v3.ownBlock ≠ v2.ownBlock))) :
    Calls Try.prog 25 #[.agg #[v0, v1, v2, v3, .int .i64 s4], .int .i64 k] w fun r w' => ∃ z0 z1 z2, r = .returned (.int .i64 (k + 5 * n0 + n1 + n2 + 2 * n3)) ∧ w'.ownsRow base 64 5 v0 n0 (markV markBlock (n0 * 5) (k)) ∧ w'.ownsRow base 3 1 v1 n1 (markV markI n1 (k + 5 * n0)) ∧ w'.ownsRow base 3 1 v2 n2 (markV markI n2 (k + 5 * n0 + n1)) ∧ w'.ownsRow base 70 2 v3 n3 (markV markI (n3 * 2) (k + 5 * n0 + n1 + n2)) ∧ w.grownBy z0 v0.ownBlock ∧ z0.grownBy z1 v1.ownBlock ∧ z1.grownBy z2 v2.ownBlock ∧ z2.grownBy w' v3.ownBlock := by
  have lt0 := World.ownsRow.lt o0
  obtain ⟨a0, cap0, rfl, hl0, hm0⟩ := owns_form o0
  have lt1 := World.ownsRow.lt o1
  obtain ⟨a1, cap1, rfl, hl1, hm1⟩ := owns_form o1
  have lt2 := World.ownsRow.lt o2
  obtain ⟨a2, cap2, rfl, hl2, hm2⟩ := owns_form o2
  have lt3 := World.ownsRow.lt o3
  obtain ⟨a3, cap3, rfl, hl3, hm3⟩ := owns_form o3
  have p0 := World.ownsRow.alloc o0 (.cells #[.slice a0 n0 cap0, .slice a1 n1 cap1, .slice a2 n2 cap2, .slice a3 n3 cap3, .int .i64 s4] 30)
  have p1 := World.ownsRow.alloc o1 (.cells #[.slice a0 n0 cap0, .slice a1 n1 cap1, .slice a2 n2 cap2, .slice a3 n3 cap3, .int .i64 s4] 30)
  have p2 := World.ownsRow.alloc o2 (.cells #[.slice a0 n0 cap0, .slice a1 n1 cap1, .slice a2 n2 cap2, .slice a3 n3 cap3, .int .i64 s4] 30)
  have p3 := World.ownsRow.alloc o3 (.cells #[.slice a0 n0 cap0, .slice a1 n1 cap1, .slice a2 n2 cap2, .slice a3 n3 cap3, .int .i64 s4] 30)
  go_enter Try.func25, Try.ntmps25
  go_wp2_with fail
  refine (markArena_c _ _ _ _ _ _ _ _ _ (by omega) (by omega) (by omega) (by omega) p0 p1 ap0_1).mono ?_
  rintro e w2 ⟨z0, rfl, p0, p1, g0, g1⟩
  have hZ0 : w.heap.size + 1 ≤ z0.heap.size := by have t := World.grownBy.size g0; have t2 := True.intro; simp at t t2; omega
  replace p2 := World.ownsRow.kept p2 g0 ap0_2.2
  replace p2 := World.ownsRow.kept p2 g1 ap1_2.2
  replace p3 := World.ownsRow.kept p3 g0 ap0_3.2
  replace p3 := World.ownsRow.kept p3 g1 ap1_3.2
  have c2w2 : w2.cell? ⟨w.heap.size, 2, none⟩ = some (.slice a2 n2 cap2) := by rw [grown_cell (p := ⟨w.heap.size, 2, none⟩) g1 (by have := hZ0; simp at this ⊢; try omega) (by intro e; have := (lt1 _ e).2; simp at this), grown_cell (p := ⟨w.heap.size, 2, none⟩) g0 (by have := True.intro; simp at this ⊢; try omega) (by intro e; have := (lt0 _ e).2; simp at this)]; simp [go_sem]
  have c3w2 : w2.cell? ⟨w.heap.size, 3, none⟩ = some (.slice a3 n3 cap3) := by rw [grown_cell (p := ⟨w.heap.size, 3, none⟩) g1 (by have := hZ0; simp at this ⊢; try omega) (by intro e; have := (lt1 _ e).2; simp at this), grown_cell (p := ⟨w.heap.size, 3, none⟩) g0 (by have := True.intro; simp at this ⊢; try omega) (by intro e; have := (lt0 _ e).2; simp at this)]; simp [go_sem]
  have c4w2 : w2.cell? ⟨w.heap.size, 4, none⟩ = some (.int .i64 s4) := by rw [grown_cell (p := ⟨w.heap.size, 4, none⟩) g1 (by have := hZ0; simp at this ⊢; try omega) (by intro e; have := (lt1 _ e).2; simp at this), grown_cell (p := ⟨w.heap.size, 4, none⟩) g0 (by have := True.intro; simp at this ⊢; try omega) (by intro e; have := (lt0 _ e).2; simp at this)]; simp [go_sem]
  have hS_w2 : w.heap.size + 1 ≤ w2.heap.size := by have t0 := World.grownBy.size g0; have t1 := World.grownBy.size g1; simp at *; omega
  go_wp2_with fail
  refine (markIntS_c _ _ _ _ _ _ _ (by omega) (by omega) (by omega) p2).mono ?_
  rintro e w3 ⟨rfl, p2, g2⟩
  replace p0 := World.ownsRow.kept p0 g2 ap0_2.1
  replace p1 := World.ownsRow.kept p1 g2 ap1_2.1
  replace p3 := World.ownsRow.kept p3 g2 ap2_3.2
  have c3w3 : w3.cell? ⟨w.heap.size, 3, none⟩ = some (.slice a3 n3 cap3) := by rw [grown_cell (p := ⟨w.heap.size, 3, none⟩) g2 (by have := hS_w2; simp at this ⊢; try omega) (by intro e; have := (lt2 _ e).2; simp at this)]; simp [go_sem, c2w2, c3w2, c4w2]
  have c4w3 : w3.cell? ⟨w.heap.size, 4, none⟩ = some (.int .i64 s4) := by rw [grown_cell (p := ⟨w.heap.size, 4, none⟩) g2 (by have := hS_w2; simp at this ⊢; try omega) (by intro e; have := (lt2 _ e).2; simp at this)]; simp [go_sem, c2w2, c3w2, c4w2]
  have hS_w3 : w.heap.size + 1 ≤ w3.heap.size := by have t2 := World.grownBy.size g2; simp at *; omega
  clear c2w2 c3w2 c4w2
  go_wp2_with fail
  refine (markGoneS_c _ _ _ _ _ _ _ (by omega) (by omega) (by omega) p3).mono ?_
  rintro e w4 ⟨rfl, p3, g3⟩
  replace p0 := World.ownsRow.kept p0 g3 ap0_3.1
  replace p1 := World.ownsRow.kept p1 g3 ap1_3.1
  replace p2 := World.ownsRow.kept p2 g3 ap2_3.1
  have c4w4 : w4.cell? ⟨w.heap.size, 4, none⟩ = some (.int .i64 s4) := by rw [grown_cell (p := ⟨w.heap.size, 4, none⟩) g3 (by have := hS_w3; simp at this ⊢; try omega) (by intro e; have := (lt3 _ e).2; simp at this)]; simp [go_sem, c3w3, c4w3]
  have hS_w4 : w.heap.size + 1 ≤ w4.heap.size := by have t3 := World.grownBy.size g3; simp at *; omega
  clear c3w3 c4w3
  go_wp2
  go_ret
  exact ⟨_, _, _, ret_int (by omega), p0, p1, p2, p3, grownBy_trans (grownBy_of_below _ (by repeat (first | exact Below.refl _ _ | refine Below.alloc ?_ (by simp; try omega) _))) g0, g1, g2, g3⟩

set_option maxHeartbeats 1000000 in
theorem heldYard_c (v0 : Value) (n0 : Nat) (v1 : Value) (n1 : Nat) (v2 : Value) (n2 : Nat) (v3 : Value) (n3 : Nat) (s4 : Int) (k : Int) (w : World) (hn0 : n0 ≤ 1099511627776) (hn1 : n1 ≤ 1099511627776) (hn2 : n2 ≤ 1099511627776) (hn3 : n3 ≤ 1099511627776) (h0 : 0 ≤ k) (h1 : k + 5 * n0 + n1 + n2 + 2 * n3 ≤ 1125899906842624) (h0 : Flat w v0 n0 5 (markV markBlock (n0 * 5) (k))) (h1 : Flat w v1 n1 1 (markV markI n1 (k + 5 * n0))) (h2 : Flat w v2 n2 1 (markV markI n2 (k + 5 * n0 + n1))) (h3 : Flat w v3 n3 2 (markV markI (n3 * 2) (k + 5 * n0 + n1 + n2))) :
    Calls Try.prog 26 #[.agg #[v0, v1, v2, v3, .int .i64 s4], .int .i64 k] w fun r w' => r = .returned (.int .i64 (k + 5 * n0 + n1 + n2 + 2 * n3)) ∧ Below w.heap.size w w' := by
  obtain ⟨a0, cap0, rfl, hl0, hm0⟩ := h0.form
  obtain ⟨a1, cap1, rfl, hl1, hm1⟩ := h1.form
  obtain ⟨a2, cap2, rfl, hl2, hm2⟩ := h2.form
  obtain ⟨a3, cap3, rfl, hl3, hm3⟩ := h3.form
  go_enter Try.func26, Try.ntmps26
  go_wp2_with fail
  refine (heldArena_c _ _ _ _ _ _ (by omega) (by omega) (by omega) (by omega) (Flat.below h0 (by repeat (first | exact Below.refl _ _ | refine Below.alloc ?_ (by simp; try omega) _))) (Flat.below h1 (by repeat (first | exact Below.refl _ _ | refine Below.alloc ?_ (by simp; try omega) _)))).mono ?_
  rintro e w2 ⟨rfl, b⟩
  have hB_w2 : Below w.heap.size w w2 := Below.trans (by repeat (first | exact Below.refl _ _ | refine Below.alloc ?_ (by simp; try omega) _)) (b.mono (by simp))
  have hS_w2 : w.heap.size + 1 ≤ w2.heap.size := by have := b.size; simp at this; omega
  have c2w2 : w2.cell? ⟨w.heap.size, 2, none⟩ = some (.slice a2 n2 cap2) := by rw [b.cell (p := ⟨w.heap.size, 2, none⟩) (by simp)]; simp [go_sem]
  have c3w2 : w2.cell? ⟨w.heap.size, 3, none⟩ = some (.slice a3 n3 cap3) := by rw [b.cell (p := ⟨w.heap.size, 3, none⟩) (by simp)]; simp [go_sem]
  have c4w2 : w2.cell? ⟨w.heap.size, 4, none⟩ = some (.int .i64 s4) := by rw [b.cell (p := ⟨w.heap.size, 4, none⟩) (by simp)]; simp [go_sem]
  clear b
  go_wp2_with fail
  refine (heldIntS_c _ _ _ _ (by omega) (by omega) (by omega) (Flat.below h2 hB_w2)).mono ?_
  rintro e w3 ⟨rfl, b⟩
  have hB_w3 : Below w.heap.size w w3 := Below.trans hB_w2 (b.mono (by omega))
  have hS_w3 : w.heap.size + 1 ≤ w3.heap.size := by have := b.size; omega
  have c3w3 : w3.cell? ⟨w.heap.size, 3, none⟩ = some (.slice a3 n3 cap3) := by rw [b.cell (p := ⟨w.heap.size, 3, none⟩) (by show _ < _; simp; omega)]; simp [go_sem, c2w2, c3w2, c4w2]
  have c4w3 : w3.cell? ⟨w.heap.size, 4, none⟩ = some (.int .i64 s4) := by rw [b.cell (p := ⟨w.heap.size, 4, none⟩) (by show _ < _; simp; omega)]; simp [go_sem, c2w2, c3w2, c4w2]
  clear b c2w2 c3w2 c4w2
  go_wp2_with fail
  refine (heldGoneS_c _ _ _ _ (by omega) (by omega) (by omega) (Flat.below h3 hB_w3)).mono ?_
  rintro e w4 ⟨rfl, b⟩
  have hB_w4 : Below w.heap.size w w4 := Below.trans hB_w3 (b.mono (by omega))
  have hS_w4 : w.heap.size + 1 ≤ w4.heap.size := by have := b.size; omega
  have c4w4 : w4.cell? ⟨w.heap.size, 4, none⟩ = some (.int .i64 s4) := by rw [b.cell (p := ⟨w.heap.size, 4, none⟩) (by show _ < _; simp; omega)]; simp [go_sem, c3w3, c4w3]
  clear b c3w3 c4w3
  go_wp2
  go_ret
  exact ⟨ret_int (by omega), hB_w4⟩

end Go.Proofs.Ytdnfphpeleakcaa
