/- Chapter 2's program: takable, ArenaOk. -/
import Derived.Test.YtdnfphpeleakcaaI2a
import Derived.Deep.RegionHeld3
namespace Go.Proofs.Ytdnfphpeleakcaa
set_option maxRecDepth 100000
open Go.RowKit Go.Proofs Go.Own
set_option linter.unusedVariables false
set_option linter.unusedSimpArgs false

def takF (bs : List Block) (k : Nat) : List Bool := (List.range 24).map fun p : Nat => decide (p < k) && openB (bs.getD p zeroB)
theorem takF_len (bs : List Block) (k : Nat) : (takF bs k).length = 24 := by simp [takF]
theorem takF_get (bs : List Block) (k p : Nat) (hp : p < 24) : (takF bs k)[p]? = some (decide (p < k) && openB (bs.getD p zeroB)) := by simp [takF, hp]
theorem takF_zero (bs : List Block) : takF bs 0 = zB := by
  apply List.ext_getElem?; intro i
  by_cases h : i < 24
  · rw [takF_get _ _ _ h, zB, List.getElem?_replicate, if_pos h]; simp
  · rw [List.getElem?_eq_none (by rw [takF_len]; omega), List.getElem?_eq_none (by simp [zB]; omega)]
theorem takF_succ (bs : List Block) (k : Nat) (hk : k < bs.length) (h24 : k < 24) (o : Block) (ho : bs[k] = o) : takF bs (k+1) = (takF bs k).set k (openB o) := by
  apply List.ext_getElem?; intro i
  rw [List.getElem?_set]
  by_cases h : i < 24
  · rw [takF_get _ _ _ h]
    by_cases e : k = i
    · subst e
      have : bs.getD k zeroB = o := by rw [List.getD, List.getElem?_eq_getElem hk]; exact ho
      rw [this]; simp [takF_len, h24]
    · rw [if_neg e, takF_get _ _ _ h]
      have : decide (i < k + 1) = decide (i < k) := by rw [Bool.eq_iff_iff]; simp; omega
      rw [this]
  · rw [List.getElem?_eq_none (by rw [takF_len]; omega)]
    rw [if_neg (by omega), List.getElem?_eq_none (by rw [takF_len]; omega)]

set_option maxHeartbeats 2000000 in
theorem impl_takable (v : Value) (bs : List Block) (w : World) (h : Blocks w v bs) (h24 : bs.length ≤ 24) :
    Calls Try.prog 79 #[v] w fun e w' => e = .returned (.agg (encBs (takF bs bs.length))) ∧ Below w.heap.size w w' := by
  obtain ⟨ad, cap, rfl, hl, hm, hc⟩ := h.open
  obtain ⟨W, hW⟩ : ∃ X, (w.alloc (.cells #[Value.bool false, Value.bool false, Value.bool false, Value.bool false, Value.bool false, Value.bool false, Value.bool false, Value.bool false, Value.bool false, Value.bool false, Value.bool false, Value.bool false, Value.bool false, Value.bool false, Value.bool false, Value.bool false, Value.bool false, Value.bool false, Value.bool false, Value.bool false, Value.bool false, Value.bool false, Value.bool false, Value.bool false] 93)).alloc (.cells #[Value.bool false, Value.bool false, Value.bool false, Value.bool false, Value.bool false, Value.bool false, Value.bool false, Value.bool false, Value.bool false, Value.bool false, Value.bool false, Value.bool false, Value.bool false, Value.bool false, Value.bool false, Value.bool false, Value.bool false, Value.bool false, Value.bool false, Value.bool false, Value.bool false, Value.bool false, Value.bool false, Value.bool false] 93) = X := ⟨_, rfl⟩
  have hB : Below w.heap.size w W := by rw [← hW]; exact Below.alloc (Below.alloc (Below.refl _ _) (by simp) _) (by simp) _
  have hS := hid (show W.heap.size = w.heap.size + 2 by rw [← hW]; simp)
  have r0 : RowB W w.heap.size zB := by rw [← hW]; exact (RowB.alloc w zB 93 _ rfl).below (Below.alloc (Below.refl _ _) (by simp) _)
  have r1 : RowB W (w.heap.size + 1) (takF bs 0) := by
    rw [← hW, takF_zero]
    have hs : (w.alloc (.cells #[Value.bool false, Value.bool false, Value.bool false, Value.bool false, Value.bool false, Value.bool false, Value.bool false, Value.bool false, Value.bool false, Value.bool false, Value.bool false, Value.bool false, Value.bool false, Value.bool false, Value.bool false, Value.bool false, Value.bool false, Value.bool false, Value.bool false, Value.bool false, Value.bool false, Value.bool false, Value.bool false, Value.bool false] 93)).heap.size = w.heap.size + 1 := by simp
    rw [← hs]
    exact RowB.alloc _ _ _ _ rfl
  go_enter Try.func79, Try.ntmps79
  go_wp2
  clear hW
  go_loopw [8] (fun i wr => ∃ k : Nat, k ≤ bs.length ∧ i = .int .i64 k ∧ RowB wr w.heap.size zB ∧ RowB wr (w.heap.size + 1) (takF bs k) ∧ Below w.heap.size w wr ∧ w.heap.size + 2 ≤ wr.heap.size) (fun i _ => bs.length - (intOf i).toNat)
  case atStart => exact ⟨0, by omega, rfl, r0, r1, hB, by have := hS.out; omega⟩
  case round =>
    clear r0 r1 hB
    obtain ⟨k, hk, rfl, r0, r1, hB, hsz⟩ := hrel
    by_cases hlt : k < bs.length
    · obtain ⟨⟨g, fr, x0, x1, x2⟩, ho⟩ : ∃ o, Hid (bs[k] = o) := ⟨_, hid rfl⟩
      obtain ⟨bb, off, rfl, hbs, c0, c1, c2, c3, c4⟩ := hc k hlt
      have kc : ∀ o, wr.cell? ⟨bb, o, none⟩ = w.cell? ⟨bb, o, none⟩ := fun o => hB.cell (p := ⟨bb, o, none⟩) hbs
      rw [← kc, ho.out] at c0 c1 c2 c3 c4
      dsimp only at c0 c1 c2 c3 c4
      clear hc kc
      have hA : Below wr.heap.size wr (wr.alloc (.cells #[.int .i64 g, .bool fr, .int .i64 x0, .int .i64 x1, .int .i64 x2] 64)) := Below.alloc (Below.refl _ _) (by simp) _
      have hA2 := hB.alloc (Nat.le_trans (Nat.le_add_right _ 2) hsz) (.cells #[.int .i64 g, .bool fr, .int .i64 x0, .int .i64 x1, .int .i64 x2] 64)
      have s0 := (r0.below hA).other ⟨w.heap.size + 1, k, none⟩ (.bool (openB ⟨g, fr, x0, x1, x2⟩)) (by simp)
      have s1 := (r1.below hA).set k (openB ⟨g, fr, x0, x1, x2⟩)
      rw [← takF_succ bs k hlt (by omega) _ ho.out] at s1
      have sB := hA2.setCell (p := ⟨w.heap.size + 1, k, none⟩) (by simp) (.bool (openB ⟨g, fr, x0, x1, x2⟩))
      obtain ⟨kcell, kfr⟩ := (r1.below hA).cell k _ (takF_get bs k k (by omega))
      have hne : (w.heap.size + 1 == wr.heap.size) = false := by simp; omega
      have hsz' : w.heap.size + 2 ≤ wr.heap.size + 1 := by omega
      have S0 := hid s0
      have S1 := hid s1
      have SB := hid sB
      have hop := hid (show openB ⟨g, fr, x0, x1, x2⟩ = (fr && decide (g < 5)) from rfl)
      rw [hop.out] at S0 S1 SB
      clear r0 r1 hA hA2 s0 s1 sB ho
      have hb24 : k < 24 := by omega
      cases fr
      case false =>
        go_wp2
        go_roundw
        case rel => exact ⟨k+1, by omega, by go_num, S0.out, S1.out, SB.out, by simp [World.setCell]; omega⟩
        case measure => simp [intOf]; omega
      case true =>
        cases h5 : decide (g < 5)
        all_goals
          rw [h5] at S0 S1 SB
          go_wp2
          go_roundw
          case rel => exact ⟨k+1, by omega, by go_num, S0.out, S1.out, SB.out, by simp [World.setCell]; omega⟩
          case measure => simp [intOf]; omega
    · obtain rfl : k = bs.length := by omega
      obtain ⟨t0, r0'⟩ := r0
      obtain ⟨t1, r1'⟩ := r1
      have hend : Below w.heap.size w (wr.setRow w.heap.size (encBs (takF bs bs.length))) := below_setRow hB (Nat.le_refl _) _
      obtain ⟨t9, hrow⟩ := RowB.setRow ⟨t0, r0'⟩ (takF bs bs.length)
      have hsz : (Try.prog.info? 93).map (·.size) = some (encBs (takF bs bs.length)).size := by rw [encBs_size, takF_len]; exact infoSet
      have hsz2 : (encBs zB).size = (encBs (takF bs bs.length)).size := by rw [encBs_size, encBs_size, takF_len]; rfl
      clear hc
      go_wp2_with (first
        | (refine wpList_load_row rfl 93 (.tmp 3) rfl (w.heap.size + 1) rfl t1 _ (0, 0) _ r1' Try.underlying93 rfl hsz ?_)
        | (refine wpList_store_row rfl 93 (.tmp 2) (.tmp 23) rfl w.heap.size (encBs (takF bs bs.length)) rfl rfl t0 _ r0' hsz hsz2 (encBs_one _) ?_))
      exact bodyPost_ret (v := .agg (encBs (takF bs bs.length))) (results_cell_row (p := 2) (ty := 93) rfl _ _ w.heap.size t9 _ (0, 0) _ rfl hrow Try.underlying93 rfl hsz) rfl ⟨rfl, hend⟩
end Go.Proofs.Ytdnfphpeleakcaa
