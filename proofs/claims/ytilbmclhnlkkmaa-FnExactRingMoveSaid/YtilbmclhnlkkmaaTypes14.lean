/- Texts of the claim. -/
import Derived.Test.YtilbmclhnlkkmaaProg
import Derived.Test.YtilbmclhnlkkmaaBase
namespace Go.Proofs.Ytilbmclhnlkkmaa
open Go.RowKit Go.Proofs Go.Own
set_option maxRecDepth 100000

theorem infoInt : (Try.prog.info? 3).map (fun i => (i.zero, i.size, i.bytes)) = some (some (.int .i64 0), 1, 8) := by kernel_rfl


theorem eqIntS_c (v u : Value) (xs : List Int) (w : World) (h : Ints w v xs) (g : Ints w u xs) :
    Calls Try.prog 19 #[v, u] w fun e w' => e = .returned (.bool true) ∧ Below w.heap.size w w' := by
  obtain ⟨ad, cap, rfl, hl, hm, hc⟩ := h.open
  obtain ⟨ad2, cap2, rfl, hl2, hm2, hc2⟩ := g.open
  clear h g
  have hlen : xs.length ≤ 9223372036854775807 := by omega
  go_enter Try.func19, Try.ntmps19
  go_wp2
  go_loopw [5] (fun i wr => ∃ k : Nat, k ≤ xs.length ∧ i = .int .i64 k ∧ Below w.heap.size w wr) (fun i _ => xs.length - (intOf i).toNat)
  case atStart => exact ⟨0, by omega, rfl, Below.refl _ _⟩
  case round =>
    obtain ⟨k, hk, rfl, hB⟩ := hrel
    by_cases hlt : k < xs.length
    · obtain ⟨bb, off, rfl, hbs, c0⟩ := hc k hlt
      obtain ⟨bb2, off2, rfl, hbs2, d0⟩ := hc2 k hlt
      have kc : ∀ o, wr.cell? ⟨bb, o, none⟩ = w.cell? ⟨bb, o, none⟩ := fun o => hB.cell (p := ⟨bb, o, none⟩) hbs
      have kd : ∀ o, wr.cell? ⟨bb2, o, none⟩ = w.cell? ⟨bb2, o, none⟩ := fun o => hB.cell (p := ⟨bb2, o, none⟩) hbs2
      rw [← kc] at c0
      rw [← kd] at d0
      clear hc hc2 kc kd
      go_wp2
      go_quiet (fail)
      go_wp2
      go_roundw
      case rel => exact ⟨k+1, by omega, by go_num, below_drewN hB _⟩
      case measure => simp [intOf]; omega
    · go_wp2
      go_ret
      exact ⟨rfl, hB⟩

theorem markIntS_c (base e : Nat) (v : Value) (n : Nat) (cs : List Value) (k : Int) (w : World) (hn : n ≤ 1099511627776) (h0 : 0 ≤ k) (h1 : k ≤ 1125899906842624) (h : w.ownsRow base e 1 v n cs) :
    Calls Try.prog 20 #[v, .int .i64 k] w fun r w' => r = .returned (.int .i64 (k + n)) ∧ w'.ownsRow base e 1 v n (markV markI n k) ∧ w.grownBy w' v.ownBlock := by
  obtain ⟨a, cap, rfl, hl, hm⟩ := owns_form h
  have hF := Fills.start (l := markV markI n k) h (by rw [markV_length]; omega)
  clear h
  go_enter Try.func20, Try.ntmps20
  go_wp2
  go_loopw [1, 5] (fun kk i wr => ∃ j : Nat, j ≤ n ∧ i = .int .i64 j ∧ kk = .int .i64 (k + j) ∧ Fills wr base e 1 (.slice a n cap) n (markV markI n k) (j) ∧ w.grownBy wr (Value.slice a n cap).ownBlock) (fun _ i _ => n - (intOf i).toNat)
  case atStart => exact ⟨0, by omega, rfl, by simp, hF, World.grownBy.refl _ _⟩
  case round =>
    clear hF
    obtain ⟨j, hj, rfl, rfl, hF, hG⟩ := hrel
    by_cases hlt : j < n
    · have hm4 : (markV markI n k).length = n := markV_length _ _ _
      obtain ⟨g, rfl, hbg, hgs, hcells⟩ := hF.at (by rw [hm4]; omega) (by omega)
      obtain ⟨⟨u0, hu0⟩, hf0⟩ := hcells (j) (by omega)
      have s0 := hF.store (.int .i64 (k + j)) (by rw [markV_get _ _ _ _ (by omega)]; simp [markI] <;> omega)
      have hG4 := grownBy_trans hG s0.2
      have hF4 := s0.1
      clear s0 hcells hm4 hF hG
      go_wp2
      go_roundw
      case rel => exact ⟨j+1, by omega, by go_num, by go_num, hF4, hG4⟩
      case measure => simp [intOf]; omega
    · go_wp2
      go_ret
      exact ⟨ret_int (by omega), hF.done (by rw [markV_length]; omega), hG⟩

theorem heldIntS_c (v : Value) (n : Nat) (k : Int) (w : World) (hn : n ≤ 1099511627776) (h0 : 0 ≤ k) (h1 : k ≤ 1125899906842624) (h : Flat w v n 1 (markV markI n k)) :
    Calls Try.prog 21 #[v, .int .i64 k] w fun r w' => r = .returned (.int .i64 (k + n)) ∧ Below w.heap.size w w' := by
  obtain ⟨a, cap, rfl, hl, hm, hc⟩ := flat_cells h
  clear h
  go_enter Try.func21, Try.ntmps21
  go_wp2
  go_loopw [1, 5] (fun kk i wr => ∃ j : Nat, j ≤ n ∧ i = .int .i64 j ∧ kk = .int .i64 (k + j) ∧ w = wr) (fun _ i _ => n - (intOf i).toNat)
  case atStart => exact ⟨0, by omega, rfl, by simp, by simp⟩
  case round =>
    obtain ⟨j, hj, rfl, rfl, rfl⟩ := hrel
    by_cases hlt : j < n
    · obtain ⟨b, off, rfl, hbs, hcc⟩ := hc j hlt
      have e0 : w.cell? ⟨b, off + j, none⟩ = some (.int .i64 (k + j)) := by have := hcc 0 (by omega); rw [Nat.mul_one, Nat.add_zero] at this; rw [markV_get _ _ _ _ (by omega)] at this; refine this.trans ?_; simp [markI] <;> omega
      clear hc hcc
      go_wp2
      go_roundw
      case rel => exact ⟨j+1, by omega, by go_num, by go_num, trivial⟩
      case measure => simp [intOf]; omega
    · go_wp2
      go_ret
      exact ⟨ret_int (by omega), Below.refl _ _⟩


theorem toIntA8_c (a0 a1 a2 a3 a4 a5 a6 a7 : Int) (w : World) :
    Calls Try.prog 28 #[.agg #[.int .i64 a0, .int .i64 a1, .int .i64 a2, .int .i64 a3, .int .i64 a4, .int .i64 a5, .int .i64 a6, .int .i64 a7]] w fun e w' => e = .returned (.agg #[.int .i64 a0, .int .i64 a1, .int .i64 a2, .int .i64 a3, .int .i64 a4, .int .i64 a5, .int .i64 a6, .int .i64 a7]) ∧ Below w.heap.size w w' := by
  go_enter Try.func28, Try.ntmps28
  go_wp2
  go_loopw [4] (fun i wr => ∃ (k : Nat) (b0 b1 b2 b3 b4 b5 b6 b7 : Int), k ≤ 8 ∧ i = .int .i64 k ∧ (0 < k → b0 = a0) ∧ (1 < k → b1 = a1) ∧ (2 < k → b2 = a2) ∧ (3 < k → b3 = a3) ∧ (4 < k → b4 = a4) ∧ (5 < k → b5 = a5) ∧ (6 < k → b6 = a6) ∧ (7 < k → b7 = a7) ∧ wr = ((w.alloc (.cells #[.int .i64 a0, .int .i64 a1, .int .i64 a2, .int .i64 a3, .int .i64 a4, .int .i64 a5, .int .i64 a6, .int .i64 a7] 22)).alloc (.cells #[.int .i64 0, .int .i64 0, .int .i64 0, .int .i64 0, .int .i64 0, .int .i64 0, .int .i64 0, .int .i64 0] 22)).alloc (.cells #[.int .i64 b0, .int .i64 b1, .int .i64 b2, .int .i64 b3, .int .i64 b4, .int .i64 b5, .int .i64 b6, .int .i64 b7] 22)) (fun i _ => 8 - (intOf i).toNat)
  case atStart => exact ⟨0, 0, 0, 0, 0, 0, 0, 0, 0, by omega, rfl, by omega, by omega, by omega, by omega, by omega, by omega, by omega, by omega, rfl⟩
  case round =>
    obtain ⟨k, b0, b1, b2, b3, b4, b5, b6, b7, hk, rfl, e0, e1, e2, e3, e4, e5, e6, e7, rfl⟩ := hrel
    obtain rfl | rfl | rfl | rfl | rfl | rfl | rfl | rfl | rfl : k = 0 ∨ k = 1 ∨ k = 2 ∨ k = 3 ∨ k = 4 ∨ k = 5 ∨ k = 6 ∨ k = 7 ∨ k = 8 := by omega
    · clear e0 e1 e2 e3 e4 e5 e6 e7
      go_wp2
      go_roundw
      case rel => exact ⟨1, a0, b1, b2, b3, b4, b5, b6, b7, by omega, rfl, fun _ => rfl, by omega, by omega, by omega, by omega, by omega, by omega, by omega, rfl⟩
      case measure => simp [intOf]
    · obtain rfl := e0 (by omega)
      clear e0 e1 e2 e3 e4 e5 e6 e7
      go_wp2
      go_roundw
      case rel => exact ⟨2, b0, a1, b2, b3, b4, b5, b6, b7, by omega, rfl, fun _ => rfl, fun _ => rfl, by omega, by omega, by omega, by omega, by omega, by omega, rfl⟩
      case measure => simp [intOf]
    · obtain rfl := e0 (by omega)
      obtain rfl := e1 (by omega)
      clear e0 e1 e2 e3 e4 e5 e6 e7
      go_wp2
      go_roundw
      case rel => exact ⟨3, b0, b1, a2, b3, b4, b5, b6, b7, by omega, rfl, fun _ => rfl, fun _ => rfl, fun _ => rfl, by omega, by omega, by omega, by omega, by omega, rfl⟩
      case measure => simp [intOf]
    · obtain rfl := e0 (by omega)
      obtain rfl := e1 (by omega)
      obtain rfl := e2 (by omega)
      clear e0 e1 e2 e3 e4 e5 e6 e7
      go_wp2
      go_roundw
      case rel => exact ⟨4, b0, b1, b2, a3, b4, b5, b6, b7, by omega, rfl, fun _ => rfl, fun _ => rfl, fun _ => rfl, fun _ => rfl, by omega, by omega, by omega, by omega, rfl⟩
      case measure => simp [intOf]
    · obtain rfl := e0 (by omega)
      obtain rfl := e1 (by omega)
      obtain rfl := e2 (by omega)
      obtain rfl := e3 (by omega)
      clear e0 e1 e2 e3 e4 e5 e6 e7
      go_wp2
      go_roundw
      case rel => exact ⟨5, b0, b1, b2, b3, a4, b5, b6, b7, by omega, rfl, fun _ => rfl, fun _ => rfl, fun _ => rfl, fun _ => rfl, fun _ => rfl, by omega, by omega, by omega, rfl⟩
      case measure => simp [intOf]
    · obtain rfl := e0 (by omega)
      obtain rfl := e1 (by omega)
      obtain rfl := e2 (by omega)
      obtain rfl := e3 (by omega)
      obtain rfl := e4 (by omega)
      clear e0 e1 e2 e3 e4 e5 e6 e7
      go_wp2
      go_roundw
      case rel => exact ⟨6, b0, b1, b2, b3, b4, a5, b6, b7, by omega, rfl, fun _ => rfl, fun _ => rfl, fun _ => rfl, fun _ => rfl, fun _ => rfl, fun _ => rfl, by omega, by omega, rfl⟩
      case measure => simp [intOf]
    · obtain rfl := e0 (by omega)
      obtain rfl := e1 (by omega)
      obtain rfl := e2 (by omega)
      obtain rfl := e3 (by omega)
      obtain rfl := e4 (by omega)
      obtain rfl := e5 (by omega)
      clear e0 e1 e2 e3 e4 e5 e6 e7
      go_wp2
      go_roundw
      case rel => exact ⟨7, b0, b1, b2, b3, b4, b5, a6, b7, by omega, rfl, fun _ => rfl, fun _ => rfl, fun _ => rfl, fun _ => rfl, fun _ => rfl, fun _ => rfl, fun _ => rfl, by omega, rfl⟩
      case measure => simp [intOf]
    · obtain rfl := e0 (by omega)
      obtain rfl := e1 (by omega)
      obtain rfl := e2 (by omega)
      obtain rfl := e3 (by omega)
      obtain rfl := e4 (by omega)
      obtain rfl := e5 (by omega)
      obtain rfl := e6 (by omega)
      clear e0 e1 e2 e3 e4 e5 e6 e7
      go_wp2
      go_roundw
      case rel => exact ⟨8, b0, b1, b2, b3, b4, b5, b6, a7, by omega, rfl, fun _ => rfl, fun _ => rfl, fun _ => rfl, fun _ => rfl, fun _ => rfl, fun _ => rfl, fun _ => rfl, fun _ => rfl, rfl⟩
      case measure => simp [intOf]
    · obtain rfl := e0 (by omega)
      obtain rfl := e1 (by omega)
      obtain rfl := e2 (by omega)
      obtain rfl := e3 (by omega)
      obtain rfl := e4 (by omega)
      obtain rfl := e5 (by omega)
      obtain rfl := e6 (by omega)
      obtain rfl := e7 (by omega)
      clear e0 e1 e2 e3 e4 e5 e6 e7
      go_wp2
      exact bodyPost_ret (v := .agg #[.int .i64 b0, .int .i64 b1, .int .i64 b2, .int .i64 b3, .int .i64 b4, .int .i64 b5, .int .i64 b6, .int .i64 b7]) (by simp [results, Try.results28, go_sem]) rfl ⟨rfl, (by repeat (first | exact Below.refl _ _ | refine below_drewN ?_ _ | refine Below.alloc ?_ (by simp; try omega) _))⟩

theorem eqIntA8_c (a0 a1 a2 a3 a4 a5 a6 a7 : Int) (w : World) :
    Calls Try.prog 32 #[.agg #[.int .i64 a0, .int .i64 a1, .int .i64 a2, .int .i64 a3, .int .i64 a4, .int .i64 a5, .int .i64 a6, .int .i64 a7], .agg #[.int .i64 a0, .int .i64 a1, .int .i64 a2, .int .i64 a3, .int .i64 a4, .int .i64 a5, .int .i64 a6, .int .i64 a7]] w fun e w' => e = .returned (.bool true) ∧ Below w.heap.size w w' := by
  go_enter Try.func32, Try.ntmps32
  go_wp2
  go_loopw [5] (fun i wr => ∃ (k : Nat), k ≤ 8 ∧ i = .int .i64 k ∧ Below w.heap.size w wr ∧ wr.cell? ⟨w.heap.size, 0, none⟩ = some (.int .i64 a0) ∧ wr.cell? ⟨w.heap.size, 1, none⟩ = some (.int .i64 a1) ∧ wr.cell? ⟨w.heap.size, 2, none⟩ = some (.int .i64 a2) ∧ wr.cell? ⟨w.heap.size, 3, none⟩ = some (.int .i64 a3) ∧ wr.cell? ⟨w.heap.size, 4, none⟩ = some (.int .i64 a4) ∧ wr.cell? ⟨w.heap.size, 5, none⟩ = some (.int .i64 a5) ∧ wr.cell? ⟨w.heap.size, 6, none⟩ = some (.int .i64 a6) ∧ wr.cell? ⟨w.heap.size, 7, none⟩ = some (.int .i64 a7) ∧ wr.cell? ⟨w.heap.size + 1, 0, none⟩ = some (.int .i64 a0) ∧ wr.cell? ⟨w.heap.size + 1, 1, none⟩ = some (.int .i64 a1) ∧ wr.cell? ⟨w.heap.size + 1, 2, none⟩ = some (.int .i64 a2) ∧ wr.cell? ⟨w.heap.size + 1, 3, none⟩ = some (.int .i64 a3) ∧ wr.cell? ⟨w.heap.size + 1, 4, none⟩ = some (.int .i64 a4) ∧ wr.cell? ⟨w.heap.size + 1, 5, none⟩ = some (.int .i64 a5) ∧ wr.cell? ⟨w.heap.size + 1, 6, none⟩ = some (.int .i64 a6) ∧ wr.cell? ⟨w.heap.size + 1, 7, none⟩ = some (.int .i64 a7)) (fun i _ => 8 - (intOf i).toNat)
  case atStart => exact ⟨0, by omega, rfl, (by repeat (first | exact Below.refl _ _ | refine below_drewN ?_ _ | refine Below.alloc ?_ (by simp; try omega) _)), by simp [go_sem], by simp [go_sem], by simp [go_sem], by simp [go_sem], by simp [go_sem], by simp [go_sem], by simp [go_sem], by simp [go_sem], by simp [go_sem], by simp [go_sem], by simp [go_sem], by simp [go_sem], by simp [go_sem], by simp [go_sem], by simp [go_sem], by simp [go_sem]⟩
  case round =>
    obtain ⟨k, hk, rfl, hB, c0, c1, c2, c3, c4, c5, c6, c7, d0, d1, d2, d3, d4, d5, d6, d7⟩ := hrel
    obtain rfl | rfl | rfl | rfl | rfl | rfl | rfl | rfl | rfl : k = 0 ∨ k = 1 ∨ k = 2 ∨ k = 3 ∨ k = 4 ∨ k = 5 ∨ k = 6 ∨ k = 7 ∨ k = 8 := by omega
    · go_wp2
      go_quiet (fail)
      go_wp2
      go_roundw
      case rel => exact ⟨1, by omega, rfl, below_drewN hB _, c0, c1, c2, c3, c4, c5, c6, c7, d0, d1, d2, d3, d4, d5, d6, d7⟩
      case measure => simp [intOf]
    · go_wp2
      go_quiet (fail)
      go_wp2
      go_roundw
      case rel => exact ⟨2, by omega, rfl, below_drewN hB _, c0, c1, c2, c3, c4, c5, c6, c7, d0, d1, d2, d3, d4, d5, d6, d7⟩
      case measure => simp [intOf]
    · go_wp2
      go_quiet (fail)
      go_wp2
      go_roundw
      case rel => exact ⟨3, by omega, rfl, below_drewN hB _, c0, c1, c2, c3, c4, c5, c6, c7, d0, d1, d2, d3, d4, d5, d6, d7⟩
      case measure => simp [intOf]
    · go_wp2
      go_quiet (fail)
      go_wp2
      go_roundw
      case rel => exact ⟨4, by omega, rfl, below_drewN hB _, c0, c1, c2, c3, c4, c5, c6, c7, d0, d1, d2, d3, d4, d5, d6, d7⟩
      case measure => simp [intOf]
    · go_wp2
      go_quiet (fail)
      go_wp2
      go_roundw
      case rel => exact ⟨5, by omega, rfl, below_drewN hB _, c0, c1, c2, c3, c4, c5, c6, c7, d0, d1, d2, d3, d4, d5, d6, d7⟩
      case measure => simp [intOf]
    · go_wp2
      go_quiet (fail)
      go_wp2
      go_roundw
      case rel => exact ⟨6, by omega, rfl, below_drewN hB _, c0, c1, c2, c3, c4, c5, c6, c7, d0, d1, d2, d3, d4, d5, d6, d7⟩
      case measure => simp [intOf]
    · go_wp2
      go_quiet (fail)
      go_wp2
      go_roundw
      case rel => exact ⟨7, by omega, rfl, below_drewN hB _, c0, c1, c2, c3, c4, c5, c6, c7, d0, d1, d2, d3, d4, d5, d6, d7⟩
      case measure => simp [intOf]
    · go_wp2
      go_quiet (fail)
      go_wp2
      go_roundw
      case rel => exact ⟨8, by omega, rfl, below_drewN hB _, c0, c1, c2, c3, c4, c5, c6, c7, d0, d1, d2, d3, d4, d5, d6, d7⟩
      case measure => simp [intOf]
    · go_wp2
      go_ret
      exact ⟨rfl, hB⟩

end Go.Proofs.Ytilbmclhnlkkmaa
