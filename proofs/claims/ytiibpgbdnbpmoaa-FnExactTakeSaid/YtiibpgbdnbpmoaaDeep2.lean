import Derived.Test.YtiibpgbdnbpmoaaTypes2
import Derived.Test.YtiibpgbdnbpmoaaBase2
namespace Go.Proofs.Ytiibpgbdnbpmoaa
open Go.RowKit Go.Proofs Go.Own
set_option linter.unusedSimpArgs false
set_option linter.unusedVariables false

set_option maxHeartbeats 1000000 in
theorem toArena_c (v0 : Value) (x0 : List Block) (v1 : Value) (x1 : List Int) (w : World) (hx0 : x0.length ≤ 1048576) (hx1 : x1.length ≤ 1048576) (h0 : Blocks w v0 x0) (h1 : Ints w v1 x1) :
    Calls Try.prog 13 #[.agg #[v0, v1]] w fun e w' => ∃ u0 u1, e = .returned (.agg #[u0, u1]) ∧ w'.ownsRow w.heap.size 54 5 u0 x0.length (x0.flatMap Block.enc) ∧ w'.ownsRow w.heap.size 3 1 u1 x1.length (x1.flatMap encI) ∧ ((u0.ownBlock = none ∨ u0.ownBlock ≠ u1.ownBlock) ∧ (u1.ownBlock = none ∨ u1.ownBlock ≠ u0.ownBlock)) ∧ Below w.heap.size w w' := by
  obtain ⟨a0, cap0, rfl, hl0, hm0⟩ := h0.form
  obtain ⟨a1, cap1, rfl, hl1, hm1⟩ := h1.form
  go_enter Try.func13, Try.ntmps13
  go_wp2_with fail
  refine (toBlockS_c _ x0 _ hx0 (Flat.below h0 (by repeat (first | exact Below.refl _ _ | refine Below.alloc ?_ (by simp; try omega) _)))).mono ?_
  rintro e w2 ⟨u0, rfl, o0, b⟩
  obtain ⟨ua0, uc0, rfl, _, _⟩ := owns_form o0
  have hB_w2 : Below w.heap.size w w2 := Below.trans (by repeat (first | exact Below.refl _ _ | refine Below.alloc ?_ (by simp; try omega) _)) (b.mono (by simp; try omega))
  have hS_w2 : w.heap.size + 3 ≤ w2.heap.size := by have := b.size; simp at this; omega
  replace o0 := owns_mono (base' := w.heap.size + 3) o0 (by simp)
  have p1w2 : w2.cell? ⟨w.heap.size, 1, none⟩ = some (.slice a1 x1.length cap1) := by rw [b.cell (p := ⟨w.heap.size, 1, none⟩) (by simp; try omega)]; simp [go_sem]
  have c0w2 : w2.cell? ⟨w.heap.size + 1 + 1, 0, none⟩ = some (.slice none 0 0) := by rw [b.cell (p := ⟨w.heap.size + 1 + 1, 0, none⟩) (by simp; try omega)]; simp [go_sem]
  have cf0w2 : w2.frozen? ⟨w.heap.size + 1 + 1, 0, none⟩ = false := by rw [b.frozen (p := ⟨w.heap.size + 1 + 1, 0, none⟩) (by simp; try omega)]; simp [go_sem]
  have c1w2 : w2.cell? ⟨w.heap.size + 1 + 1, 1, none⟩ = some (.slice none 0 0) := by rw [b.cell (p := ⟨w.heap.size + 1 + 1, 1, none⟩) (by simp; try omega)]; simp [go_sem]
  have cf1w2 : w2.frozen? ⟨w.heap.size + 1 + 1, 1, none⟩ = false := by rw [b.frozen (p := ⟨w.heap.size + 1 + 1, 1, none⟩) (by simp; try omega)]; simp [go_sem]
  have d0w2 : w2.cell? ⟨w.heap.size + 1, 0, none⟩ = some (.slice none 0 0) := by rw [b.cell (p := ⟨w.heap.size + 1, 0, none⟩) (by simp; try omega)]; simp [go_sem]
  have df0w2 : w2.frozen? ⟨w.heap.size + 1, 0, none⟩ = false := by rw [b.frozen (p := ⟨w.heap.size + 1, 0, none⟩) (by simp; try omega)]; simp [go_sem]
  have d1w2 : w2.cell? ⟨w.heap.size + 1, 1, none⟩ = some (.slice none 0 0) := by rw [b.cell (p := ⟨w.heap.size + 1, 1, none⟩) (by simp; try omega)]; simp [go_sem]
  have df1w2 : w2.frozen? ⟨w.heap.size + 1, 1, none⟩ = false := by rw [b.frozen (p := ⟨w.heap.size + 1, 1, none⟩) (by simp; try omega)]; simp [go_sem]
  clear b
  go_wp2_with fail
  refine (toIntS_c _ x1 _ hx1 (Flat.below h1 (by (repeat (refine Below.setCell ?_ (by simp; try omega) _)); exact hB_w2))).mono ?_
  rintro e w3 ⟨u1, rfl, o1, b⟩
  have ap0_1 := apart o0 (by simp [World.setCell]) o1
  obtain ⟨ua1, uc1, rfl, _, _⟩ := owns_form o1
  have hB_w3 : Below w.heap.size w w3 := Below.trans (by (repeat (refine Below.setCell ?_ (by simp; try omega) _)); exact hB_w2) (b.mono (by simp [World.setCell]; omega))
  have hS_w3 : w.heap.size + 3 ≤ w3.heap.size := by have := b.size; simp [World.setCell] at this; omega
  replace o1 := owns_mono (base' := w.heap.size + 3) o1 (by simp [World.setCell]; omega)
  have o0 : w3.ownsRow (w.heap.size + 3) 54 5 (.slice ua0 x0.length uc0) x0.length (x0.flatMap Block.enc) := owns_below (by (repeat (refine owns_setCell ?_ _ _ (by simp; try omega))); exact o0) b
  have c0w3 : w3.cell? ⟨w.heap.size + 1 + 1, 0, none⟩ = some (.slice ua0 x0.length uc0) := by rw [b.cell (p := ⟨w.heap.size + 1 + 1, 0, none⟩) (by simp [World.setCell]; omega)]; simp [go_sem, p1w2, c0w2, cf0w2, c1w2, cf1w2, d0w2, df0w2, d1w2, df1w2]
  have cf0w3 : w3.frozen? ⟨w.heap.size + 1 + 1, 0, none⟩ = false := by rw [b.frozen (p := ⟨w.heap.size + 1 + 1, 0, none⟩) (by simp [World.setCell]; omega)]; simp [go_sem, p1w2, c0w2, cf0w2, c1w2, cf1w2, d0w2, df0w2, d1w2, df1w2]
  have c1w3 : w3.cell? ⟨w.heap.size + 1 + 1, 1, none⟩ = some (.slice none 0 0) := by rw [b.cell (p := ⟨w.heap.size + 1 + 1, 1, none⟩) (by simp [World.setCell]; omega)]; simp [go_sem, p1w2, c0w2, cf0w2, c1w2, cf1w2, d0w2, df0w2, d1w2, df1w2]
  have cf1w3 : w3.frozen? ⟨w.heap.size + 1 + 1, 1, none⟩ = false := by rw [b.frozen (p := ⟨w.heap.size + 1 + 1, 1, none⟩) (by simp [World.setCell]; omega)]; simp [go_sem, p1w2, c0w2, cf0w2, c1w2, cf1w2, d0w2, df0w2, d1w2, df1w2]
  have d0w3 : w3.cell? ⟨w.heap.size + 1, 0, none⟩ = some (.slice none 0 0) := by rw [b.cell (p := ⟨w.heap.size + 1, 0, none⟩) (by simp [World.setCell]; omega)]; simp [go_sem, p1w2, c0w2, cf0w2, c1w2, cf1w2, d0w2, df0w2, d1w2, df1w2]
  have df0w3 : w3.frozen? ⟨w.heap.size + 1, 0, none⟩ = false := by rw [b.frozen (p := ⟨w.heap.size + 1, 0, none⟩) (by simp [World.setCell]; omega)]; simp [go_sem, p1w2, c0w2, cf0w2, c1w2, cf1w2, d0w2, df0w2, d1w2, df1w2]
  have d1w3 : w3.cell? ⟨w.heap.size + 1, 1, none⟩ = some (.slice none 0 0) := by rw [b.cell (p := ⟨w.heap.size + 1, 1, none⟩) (by simp [World.setCell]; omega)]; simp [go_sem, p1w2, c0w2, cf0w2, c1w2, cf1w2, d0w2, df0w2, d1w2, df1w2]
  have df1w3 : w3.frozen? ⟨w.heap.size + 1, 1, none⟩ = false := by rw [b.frozen (p := ⟨w.heap.size + 1, 1, none⟩) (by simp [World.setCell]; omega)]; simp [go_sem, p1w2, c0w2, cf0w2, c1w2, cf1w2, d0w2, df0w2, d1w2, df1w2]
  clear b p1w2 c0w2 cf0w2 c1w2 cf1w2 d0w2 df0w2 d1w2 df1w2
  go_wp2
  refine bodyPost_ret (v := .agg #[.slice ua0 x0.length uc0, .slice ua1 x1.length uc1]) ?_ rfl ⟨_, _, rfl, ?_, ?_, ap0_1, ?_⟩
  · simp [results, Try.results13, go_sem, d0w3, d1w3]
  · refine owns_mono (base := w.heap.size + 3) ?_ (by omega)
    repeat (refine owns_setCell ?_ _ _ (by simp; try omega))
    exact o0
  · refine owns_mono (base := w.heap.size + 3) ?_ (by omega)
    repeat (refine owns_setCell ?_ _ _ (by simp; try omega))
    exact o1
  · repeat (refine Below.setCell ?_ (by simp; try omega) _)
    exact hB_w3

set_option maxHeartbeats 1000000 in
theorem eqArena_c (v0 u0 : Value) (x0 : List Block) (v1 u1 : Value) (x1 : List Int) (w : World) (h0 : Blocks w v0 x0) (h1 : Ints w v1 x1) (g0 : Blocks w u0 x0) (g1 : Ints w u1 x1) :
    Calls Try.prog 15 #[.agg #[v0, v1], .agg #[u0, u1]] w fun e w' => e = .returned (.bool true) ∧ Below w.heap.size w w' := by
  obtain ⟨a0, cap0, rfl, hl0, hm0⟩ := h0.form
  obtain ⟨ua0, uc0, rfl, ul0, um0⟩ := g0.form
  obtain ⟨a1, cap1, rfl, hl1, hm1⟩ := h1.form
  obtain ⟨ua1, uc1, rfl, ul1, um1⟩ := g1.form
  go_enter Try.func15, Try.ntmps15
  go_wp2_with fail
  refine (eqBlockS_c _ _ x0 _ (Flat.below h0 (by repeat (first | exact Below.refl _ _ | refine Below.alloc ?_ (by simp; try omega) _))) (Flat.below g0 (by repeat (first | exact Below.refl _ _ | refine Below.alloc ?_ (by simp; try omega) _)))).mono ?_
  rintro e w2 ⟨rfl, b⟩
  have hB_w2 : Below w.heap.size w w2 := Below.trans (by repeat (first | exact Below.refl _ _ | refine Below.alloc ?_ (by simp; try omega) _)) (b.mono (by simp; try omega))
  have hS_w2 : w.heap.size + 2 ≤ w2.heap.size := by have := b.size; simp at this; omega
  have p1w2 : w2.cell? ⟨w.heap.size, 1, none⟩ = some (.slice a1 x1.length cap1) := by rw [b.cell (p := ⟨w.heap.size, 1, none⟩) (by simp; try omega)]; simp [go_sem]
  have q1w2 : w2.cell? ⟨w.heap.size + 1, 1, none⟩ = some (.slice ua1 x1.length uc1) := by rw [b.cell (p := ⟨w.heap.size + 1, 1, none⟩) (by simp; try omega)]; simp [go_sem]
  clear b
  go_wp2_with fail
  refine (eqIntS_c _ _ x1 _ (Flat.below h1 hB_w2) (Flat.below g1 hB_w2)).mono ?_
  rintro e w3 ⟨rfl, b⟩
  have hB_w3 : Below w.heap.size w w3 := Below.trans hB_w2 (b.mono (by omega))
  clear b p1w2 q1w2
  go_wp2
  go_ret
  exact ⟨rfl, hB_w3⟩

set_option maxHeartbeats 1000000 in
theorem szArena_c (a0 : Option Addr) (n0 cap0 : Nat) (a1 : Option Addr) (n1 cap1 : Nat) (k : Int) (w : World) (hn0 : n0 ≤ 9223372036854775807) (hn1 : n1 ≤ 9223372036854775807) (h0 : 0 ≤ k) (h1 : k ≤ 1048576) :
    Calls Try.prog 11 #[.agg #[.slice a0 n0 cap0, .slice a1 n1 cap1], .int .i64 k] w fun e w' => e = .returned (.int .i64 (if k < (n0 : Int) + (n1 : Int) then -1 else k - ((n0 : Int) + (n1 : Int)))) ∧ Below w.heap.size w w' := by
  go_enter Try.func11, Try.ntmps11
  go_wp2_with fail
  refine (szBlockS_c _ _ _ _ _ (by omega) (by omega) (by omega)).mono ?_
  rintro e w' ⟨rfl, rfl⟩
  by_cases hk0 : k < (n0 : Int)
  · rw [if_pos hk0]
    go_wp2
    go_ret
    all_goals first | exact ⟨rfl, (by repeat (first | exact Below.refl _ _ | refine Below.alloc ?_ (by simp; try omega) _))⟩ | (exfalso; omega)
  rw [if_neg hk0]
  go_wp2_with fail
  refine (szIntS_c _ _ _ _ _ (by omega) (by omega) (by omega)).mono ?_
  rintro e w' ⟨rfl, rfl⟩
  by_cases hk1 : k - (n0 : Int) < (n1 : Int)
  · rw [if_pos hk1]
    go_wp2
    go_ret
    all_goals first | exact ⟨rfl, (by repeat (first | exact Below.refl _ _ | refine Below.alloc ?_ (by simp; try omega) _))⟩ | (exfalso; omega)
  rw [if_neg hk1]
  go_wp2
  go_ret
  all_goals first | exact ⟨ret_int (by omega), (by repeat (first | exact Below.refl _ _ | refine Below.alloc ?_ (by simp; try omega) _))⟩ | (exfalso; omega)

set_option maxHeartbeats 1000000 in
theorem markArena_c (base : Nat) (v0 : Value) (n0 : Nat) (y0 : List Value) (v1 : Value) (n1 : Nat) (y1 : List Value) (k : Int) (w : World) (hn0 : n0 ≤ 1099511627776) (hn1 : n1 ≤ 1099511627776) (h0 : 0 ≤ k) (h1 : k + 5 * n0 + n1 ≤ 1125899906842624) (o0 : w.ownsRow base 54 5 v0 n0 y0) (o1 : w.ownsRow base 3 1 v1 n1 y1) (ap0_1 : ((v0.ownBlock = none ∨ v0.ownBlock ≠ v1.ownBlock) ∧ (v1.ownBlock = none ∨ v1.ownBlock ≠ v0.ownBlock))) :
    Calls Try.prog 18 #[.agg #[v0, v1], .int .i64 k] w fun r w' => ∃ z0, r = .returned (.int .i64 (k + 5 * n0 + n1)) ∧ w'.ownsRow base 54 5 v0 n0 (markV markBlock (n0 * 5) (k)) ∧ w'.ownsRow base 3 1 v1 n1 (markV markI n1 (k + 5 * n0)) ∧ w.grownBy z0 v0.ownBlock ∧ z0.grownBy w' v1.ownBlock := by
  have lt0 := World.ownsRow.lt o0
  obtain ⟨a0, cap0, rfl, hl0, hm0⟩ := owns_form o0
  have lt1 := World.ownsRow.lt o1
  obtain ⟨a1, cap1, rfl, hl1, hm1⟩ := owns_form o1
  have p0 := World.ownsRow.alloc o0 (.cells #[.slice a0 n0 cap0, .slice a1 n1 cap1] 30)
  have p1 := World.ownsRow.alloc o1 (.cells #[.slice a0 n0 cap0, .slice a1 n1 cap1] 30)
  go_enter Try.func18, Try.ntmps18
  go_wp2_with fail
  refine (markBlockS_c _ _ _ _ _ _ _ (by omega) (by omega) (by omega) p0).mono ?_
  rintro e w2 ⟨rfl, p0, g0⟩
  replace p1 := World.ownsRow.kept p1 g0 ap0_1.2
  have c1w2 : w2.cell? ⟨w.heap.size, 1, none⟩ = some (.slice a1 n1 cap1) := by rw [grown_cell (p := ⟨w.heap.size, 1, none⟩) g0 (by have := True.intro; simp at this ⊢; try omega) (by intro e; have := (lt0 _ e).2; simp at this)]; simp [go_sem]
  have hS_w2 : w.heap.size + 1 ≤ w2.heap.size := by have := Nat.le_trans (World.grownBy.size g0) (Nat.le_refl _); simp at this; omega
  go_wp2_with fail
  refine (markIntS_c _ _ _ _ _ _ _ (by omega) (by omega) (by omega) p1).mono ?_
  rintro e w3 ⟨rfl, p1, g1⟩
  replace p0 := World.ownsRow.kept p0 g1 ap0_1.1
  have hS_w3 : w.heap.size + 1 ≤ w3.heap.size := by have t1 := World.grownBy.size g1; simp at *; omega
  clear c1w2
  go_wp2
  go_ret
  exact ⟨_, ret_int (by omega), p0, p1, grownBy_trans (grownBy_of_below _ (by repeat (first | exact Below.refl _ _ | refine Below.alloc ?_ (by simp; try omega) _))) g0, g1⟩

set_option maxHeartbeats 1000000 in
theorem heldArena_c (v0 : Value) (n0 : Nat) (v1 : Value) (n1 : Nat) (k : Int) (w : World) (hn0 : n0 ≤ 1099511627776) (hn1 : n1 ≤ 1099511627776) (h0 : 0 ≤ k) (h1 : k + 5 * n0 + n1 ≤ 1125899906842624) (h0 : Flat w v0 n0 5 (markV markBlock (n0 * 5) (k))) (h1 : Flat w v1 n1 1 (markV markI n1 (k + 5 * n0))) :
    Calls Try.prog 19 #[.agg #[v0, v1], .int .i64 k] w fun r w' => r = .returned (.int .i64 (k + 5 * n0 + n1)) ∧ Below w.heap.size w w' := by
  obtain ⟨a0, cap0, rfl, hl0, hm0⟩ := h0.form
  obtain ⟨a1, cap1, rfl, hl1, hm1⟩ := h1.form
  go_enter Try.func19, Try.ntmps19
  go_wp2_with fail
  refine (heldBlockS_c _ _ _ _ (by omega) (by omega) (by omega) (Flat.below h0 (by repeat (first | exact Below.refl _ _ | refine Below.alloc ?_ (by simp; try omega) _)))).mono ?_
  rintro e w2 ⟨rfl, b⟩
  have hB_w2 : Below w.heap.size w w2 := Below.trans (by repeat (first | exact Below.refl _ _ | refine Below.alloc ?_ (by simp; try omega) _)) (b.mono (by simp))
  have hS_w2 : w.heap.size + 1 ≤ w2.heap.size := by have := b.size; simp at this; omega
  have c1w2 : w2.cell? ⟨w.heap.size, 1, none⟩ = some (.slice a1 n1 cap1) := by rw [b.cell (p := ⟨w.heap.size, 1, none⟩) (by simp)]; simp [go_sem]
  clear b
  go_wp2_with fail
  refine (heldIntS_c _ _ _ _ (by omega) (by omega) (by omega) (Flat.below h1 hB_w2)).mono ?_
  rintro e w3 ⟨rfl, b⟩
  have hB_w3 : Below w.heap.size w w3 := Below.trans hB_w2 (b.mono (by omega))
  have hS_w3 : w.heap.size + 1 ≤ w3.heap.size := by have := b.size; omega
  clear b c1w2
  go_wp2
  go_ret
  exact ⟨ret_int (by omega), hB_w3⟩

end Go.Proofs.Ytiibpgbdnbpmoaa
