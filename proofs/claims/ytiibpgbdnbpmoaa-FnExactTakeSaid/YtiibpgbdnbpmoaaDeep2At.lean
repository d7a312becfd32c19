/- Marks of an arena whose list may begin within its block. -/
import Derived.Test.YtiibpgbdnbpmoaaDeep2
import Derived.Test.YtiibpgbdnbpmoaaAt
namespace Go.Proofs.Ytiibpgbdnbpmoaa
open Go.RowKit Go.Proofs Go.Own
set_option linter.unusedVariables false
set_option linter.unusedSimpArgs false

theorem markIntS_at (base e : Nat) (v : Value) (n : Nat) (cs : List Value) (k : Int) (w : World) (hn : n ≤ 1099511627776) (h0 : 0 ≤ k) (h1 : k ≤ 1125899906842624) (h : OwnsAt w base e 1 v n cs) :
    Calls Try.prog 45 #[v, .int .i64 k] w fun r w' => r = .returned (.int .i64 (k + n)) ∧ OwnsAt w' base e 1 v n (markV markI n k) ∧ w.grownBy w' v.ownBlock := by
  obtain ⟨a, cap, rfl, hl, hm⟩ := OwnsAt.form h
  have hF := FillsAt.start (l := markV markI n k) h (by rw [markV_length]; omega)
  clear h
  go_enter Try.func45, Try.ntmps45
  go_wp2
  go_loopw [1, 5] (fun kk i wr => ∃ j : Nat, j ≤ n ∧ i = .int .i64 j ∧ kk = .int .i64 (k + j) ∧ FillsAt wr base e 1 (.slice a n cap) n (markV markI n k) (j) ∧ w.grownBy wr (Value.slice a n cap).ownBlock) (fun _ i _ => n - (intOf i).toNat)
  case atStart => exact ⟨0, by omega, rfl, by simp, hF, World.grownBy.refl _ _⟩
  case round =>
    clear hF
    obtain ⟨j, hj, rfl, rfl, hF, hG⟩ := hrel
    by_cases hlt : j < n
    · have hm4 : (markV markI n k).length = n := markV_length _ _ _
      obtain ⟨g, off, rfl, hbg, hgs, hcells⟩ := hF.at (by rw [hm4]; omega) (by omega)
      obtain ⟨⟨u0, hu0⟩, hf0⟩ := hcells (j) (by omega)
      have s0 := hF.store (.int .i64 (k + j)) (by rw [markV_get _ _ _ _ (by omega)]; simp [markI] <;> omega)
      have hG4 := grownBy_trans hG s0.2
      have hF4 := s0.1
      clear s0 hcells hm4 hF hG
      go_wp2
      go_roundw
      case rel => exact ⟨j+1, by omega, by go_num, by go_num, hF4, hG4⟩
      case measure => simp [intOf]; omega
    · go_wp2
      go_ret
      exact ⟨ret_int (by omega), hF.done (by rw [markV_length]; omega), hG⟩


set_option maxHeartbeats 1000000 in
theorem markArena_at (base : Nat) (v0 : Value) (n0 : Nat) (y0 : List Value) (v1 : Value) (n1 : Nat) (y1 : List Value) (k : Int) (w : World) (hn0 : n0 ≤ 1099511627776) (hn1 : n1 ≤ 1099511627776) (h0 : 0 ≤ k) (h1 : k + 5 * n0 + n1 ≤ 1125899906842624) (o0 : w.ownsRow base 54 5 v0 n0 y0) (o1 : OwnsAt w base 3 1 v1 n1 y1) (ap0_1 : ((v0.ownBlock = none ∨ v0.ownBlock ≠ v1.ownBlock) ∧ (v1.ownBlock = none ∨ v1.ownBlock ≠ v0.ownBlock))) :
    Calls Try.prog 18 #[.agg #[v0, v1], .int .i64 k] w fun r w' => ∃ z0, r = .returned (.int .i64 (k + 5 * n0 + n1)) ∧ w'.ownsRow base 54 5 v0 n0 (markV markBlock (n0 * 5) (k)) ∧ OwnsAt w' base 3 1 v1 n1 (markV markI n1 (k + 5 * n0)) ∧ w.grownBy z0 v0.ownBlock ∧ z0.grownBy w' v1.ownBlock := by
  have lt0 := World.ownsRow.lt o0
  obtain ⟨a0, cap0, rfl, hl0, hm0⟩ := owns_form o0
  have lt1 := OwnsAt.lt o1
  obtain ⟨a1, cap1, rfl, hl1, hm1⟩ := OwnsAt.form o1
  have p0 := World.ownsRow.alloc o0 (.cells #[.slice a0 n0 cap0, .slice a1 n1 cap1] 30)
  have p1 := OwnsAt.alloc o1 (.cells #[.slice a0 n0 cap0, .slice a1 n1 cap1] 30)
  go_enter Try.func18, Try.ntmps18
  go_wp2_with fail
  refine (markBlockS_c _ _ _ _ _ _ _ (by omega) (by omega) (by omega) p0).mono ?_
  rintro e w2 ⟨rfl, p0, g0⟩
  replace p1 := OwnsAt.kept p1 g0 ap0_1.2
  have c1w2 : w2.cell? ⟨w.heap.size, 1, none⟩ = some (.slice a1 n1 cap1) := by rw [grown_cell (p := ⟨w.heap.size, 1, none⟩) g0 (by have := True.intro; simp at this ⊢; try omega) (by intro e; have := (lt0 _ e).2; simp at this)]; simp [go_sem]
  have hS_w2 : w.heap.size + 1 ≤ w2.heap.size := by have := Nat.le_trans (World.grownBy.size g0) (Nat.le_refl _); simp at this; omega
  go_wp2_with fail
  refine (markIntS_at _ _ _ _ _ _ _ (by omega) (by omega) (by omega) p1).mono ?_
  rintro e w3 ⟨rfl, p1, g1⟩
  replace p0 := World.ownsRow.kept p0 g1 ap0_1.1
  have hS_w3 : w.heap.size + 1 ≤ w3.heap.size := by have t1 := World.grownBy.size g1; simp at *; omega
  clear c1w2
  go_wp2
  go_ret
  exact ⟨_, ret_int (by omega), p0, p1, grownBy_trans (grownBy_of_below _ (by repeat (first | exact Below.refl _ _ | refine Below.alloc ?_ (by simp; try omega) _))) g0, g1⟩

end Go.Proofs.Ytiibpgbdnbpmoaa
