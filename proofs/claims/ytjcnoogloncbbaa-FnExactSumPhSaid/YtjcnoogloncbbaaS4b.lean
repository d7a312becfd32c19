/- Chapter 4's model: SumPh. -/
import Derived.Test.YtjcnoogloncbbaaF4b
import Derived.Test.YtjcnoogloncbbaaBx
import Derived.Deep.RegionHeld3
import Derived.StillTailTactics
namespace Go.Proofs.Ytjcnoogloncbbaa
set_option maxRecDepth 100000
open Go.RowKit Go.Proofs Go.Own
set_option linter.unusedVariables false
set_option linter.unusedSimpArgs false
set_option maxHeartbeats 4000000 in
theorem spec_SumPh (v : Value) (xs : List Phasor) (w : World) (h : Phasors w v xs) (hx : xs.length ≤ 1048576) :
    Calls Try.prog 37 #[v] w fun e w' => ∃ q : Phasor, e = .returned q.val ∧ q.rd = sumC (xs.map Phasor.rd) ∧ Below w.heap.size w w' := by
  obtain ⟨ad, cap, rfl, hl, hm, hc⟩ := h.open
  clear h
  have hlen : xs.length ≤ 9223372036854775807 := by omega
  go_enter Try.func37, Try.ntmps37
  go_wp2
  go_loopw [4] (fun i wr => ∃ k x y : Nat, k ≤ xs.length ∧ i = .int .i64 k ∧ Same (sumFrom (rd x, rd y) ((xs.map Phasor.rd).drop k)) (sumC (xs.map Phasor.rd)) ∧ BoxF wr w.heap.size [.float .f64 0, .float .f64 0] ∧ BoxF wr (w.heap.size + 1) [.float .f64 x, .float .f64 y] ∧ Below w.heap.size w wr) (fun i _ => xs.length - (intOf i).toNat)
  case atStart =>
    refine ⟨0, 0, 0, by omega, rfl, Same.mk (by simp [sumC, zeroC, rd_zero]), ?_, ?_, (by repeat (first | exact Below.refl _ _ | refine below_drewN ?_ _ | refine Below.drew ?_ | refine Below.setCell ?_ (by simp; try omega) _ | refine Below.alloc ?_ (by simp; try omega) _))⟩
    · exact (BoxF.alloc _ _ _).below ((Below.refl _ _).alloc (Nat.le_refl _) _)
    · rw [show w.heap.size + 1 = (w.alloc (.cells #[.float .f64 0, .float .f64 0] 29)).heap.size by simp]; exact BoxF.alloc _ _ _
  case round =>
    obtain ⟨k, x, y, hk, rfl, hS, b0, b1, hB⟩ := hrel
    have r0 : wr.cell? ⟨w.heap.size, 0, none⟩ = some (.float .f64 0) := b0.1.2 0 (by simp)
    have r1 : wr.cell? ⟨w.heap.size, 1, none⟩ = some (.float .f64 0) := b0.1.2 1 (by simp)
    have rf0 : wr.frozen? ⟨w.heap.size, 0, none⟩ = false := b0.2 0 (by simp)
    have rf1 : wr.frozen? ⟨w.heap.size, 1, none⟩ = false := b0.2 1 (by simp)
    have s0 : wr.cell? ⟨w.heap.size + 1, 0, none⟩ = some (.float .f64 x) := b1.1.2 0 (by simp)
    have s1 : wr.cell? ⟨w.heap.size + 1, 1, none⟩ = some (.float .f64 y) := b1.1.2 1 (by simp)
    have sf0 : wr.frozen? ⟨w.heap.size + 1, 0, none⟩ = false := b1.2 0 (by simp)
    have sf1 : wr.frozen? ⟨w.heap.size + 1, 1, none⟩ = false := b1.2 1 (by simp)
    by_cases hlt : k < xs.length
    · obtain ⟨bb, off, rfl, hbs, c0, c1⟩ := hc k hlt
      have kc : ∀ o, wr.cell? ⟨bb, o, none⟩ = w.cell? ⟨bb, o, none⟩ := fun o => hB.cell (p := ⟨bb, o, none⟩) hbs
      rw [← kc] at c0 c1
      have hi0 : (0 : Int) ≤ (k : Int) := by omega
      have hi1 : (k : Int) < (xs.length : Int) := by omega
      clear hc kc
      go_wp2
      go_region
      all_goals go_wp2
      all_goals go_roundw
      case rel => exact ⟨k+1, _, _, by omega, by go_num, Same.mk (by have h1 := hS.out; rw [drop_rd hlt] at h1; refine Eq.trans ?_ h1; simp only [sumFrom, plusR, rd_add, Phasor.rd]), (b0.other _ _ (by simp)).other _ _ (by simp), (b1.set 0 (by simp) _).set 1 (by simp) _, by repeat (first | exact hB | refine below_drewN ?_ _ | refine Below.drew ?_ | refine Below.setCell ?_ (by simp) _)⟩
      case measure => simp [intOf]; omega
      case rel => exact ⟨k+1, _, _, by omega, by go_num, Same.mk (by have h1 := hS.out; rw [drop_rd hlt] at h1; refine Eq.trans ?_ h1; simp only [sumFrom, plusR, rd_add, Phasor.rd]), (b0.other _ _ (by simp)).other _ _ (by simp), (b1.set 0 (by simp) _).set 1 (by simp) _, by repeat (first | exact hB | refine below_drewN ?_ _ | refine Below.drew ?_ | refine Below.setCell ?_ (by simp) _)⟩
      case measure => simp [intOf]; omega
    · have hS' := hS.out
      rw [drop_end hlt] at hS'
      go_wp2
      exact bodyPost_ret (v := .agg #[.float .f64 x, .float .f64 y]) (by simp [results, Try.results37, go_sem, s0, s1, r0, r1]) rfl ⟨⟨x, y⟩, rfl, hS', by repeat (first | exact hB | refine Below.setCell ?_ (by simp) _)⟩
end Go.Proofs.Ytjcnoogloncbbaa
