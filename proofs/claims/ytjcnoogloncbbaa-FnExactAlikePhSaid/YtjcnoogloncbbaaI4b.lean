/- The program's SumPh and AlikePh; the model's AlikePh. -/
import Derived.Test.YtjcnoogloncbbaaF4b
import Derived.Test.YtjcnoogloncbbaaI4
import Derived.Test.YtjcnoogloncbbaaBx
import Derived.Deep.RegionHeld3
import Derived.StillTailTactics
namespace Go.Proofs.Ytjcnoogloncbbaa
set_option maxRecDepth 100000
open Go.RowKit Go.Proofs Go.Own
set_option linter.unusedVariables false
set_option linter.unusedSimpArgs false
theorem keepC {W w' : World} {b o : Nat} {u : Option Value} (hb : b < W.heap.size) (c : W.cell? ⟨b, o, none⟩ = u) (h : Below W.heap.size W w') : w'.cell? ⟨b, o, none⟩ = u := (h.cell (p := ⟨b, o, none⟩) hb).trans c
set_option maxHeartbeats 4000000 in
theorem impl_SumPh (v : Value) (xs : List Phasor) (w : World) (h : Phasors w v xs) (hx : xs.length ≤ 1048576) :
    Calls Try.prog 38 #[v] w fun e w' => ∃ q : Phasor, e = .returned q.val ∧ q.rd = sumC (xs.map Phasor.rd) ∧ Below w.heap.size w w' := by
  obtain ⟨ad, cap, rfl, hl, hm, hc⟩ := h.open
  clear h
  have hlen : xs.length ≤ 9223372036854775807 := by omega
  go_enter Try.func38, Try.ntmps38
  go_wp2
  go_loopw [3, 8] (fun s i wr => ∃ k x y : Nat, k ≤ xs.length ∧ i = .int .i64 k ∧ s = .complex .f64 x y ∧ Same (sumFrom (rd x, rd y) ((xs.map Phasor.rd).drop k)) (sumC (xs.map Phasor.rd)) ∧ BoxF wr w.heap.size [.float .f64 0, .float .f64 0] ∧ Below w.heap.size w wr) (fun _ i _ => xs.length - (intOf i).toNat)
  case atStart =>
    exact ⟨0, 0, 0, by omega, rfl, rfl, Same.mk (by simp [sumC, zeroC, rd_zero]), BoxF.alloc _ _ _, (by repeat (first | exact Below.refl _ _ | refine below_drewN ?_ _ | refine Below.drew ?_ | refine Below.setCell ?_ (by simp; try omega) _ | refine Below.alloc ?_ (by simp; try omega) _))⟩
  case round =>
    obtain ⟨k, x, y, hk, rfl, rfl, hS, b0, hB⟩ := hrel
    have r0 : wr.cell? ⟨w.heap.size, 0, none⟩ = some (.float .f64 0) := b0.1.2 0 (by simp)
    have r1 : wr.cell? ⟨w.heap.size, 1, none⟩ = some (.float .f64 0) := b0.1.2 1 (by simp)
    have rf0 : wr.frozen? ⟨w.heap.size, 0, none⟩ = false := b0.2 0 (by simp)
    have rf1 : wr.frozen? ⟨w.heap.size, 1, none⟩ = false := b0.2 1 (by simp)
    by_cases hlt : k < xs.length
    · obtain ⟨bb, off, rfl, hbs, c0, c1⟩ := hc k hlt
      have kc : ∀ o, wr.cell? ⟨bb, o, none⟩ = w.cell? ⟨bb, o, none⟩ := fun o => hB.cell (p := ⟨bb, o, none⟩) hbs
      rw [← kc] at c0 c1
      have hi0 : (0 : Int) ≤ (k : Int) := by omega
      have hi1 : (k : Int) < (xs.length : Int) := by omega
      clear hc kc
      go_wp2_with fail
      refine (impl_numberOf _ _ _).mono ?_
      rintro e w' ⟨rfl, rfl⟩
      go_wp2
      go_roundw
      case rel => exact ⟨k+1, _, _, by omega, by go_num, rfl, Same.mk (by have h1 := hS.out; rw [drop_rd hlt] at h1; refine Eq.trans ?_ h1; simp only [sumFrom, plusR, rd_add, Phasor.rd]), b0.below (by repeat (first | exact Below.refl _ _ | refine below_drewN ?_ _ | refine Below.drew ?_ | refine Below.setCell ?_ (by simp; try omega) _ | refine Below.alloc ?_ (by simp; try omega) _)), by have hs := hB.size; repeat (first | exact hB | refine below_drewN ?_ _ | refine Below.drew ?_ | refine Below.alloc ?_ (by first | omega | (simp; omega)) _)⟩
      case measure => simp [intOf]; omega
    · have hS' := hS.out
      rw [drop_end hlt] at hS'
      go_wp2_with fail
      refine (impl_phasorOf _ _ _).mono ?_
      rintro e w' ⟨rfl, rfl⟩
      have lt := b0.1.1
      have ln : ¬ w.heap.size = wr.heap.size := by omega
      go_wp2
      exact bodyPost_ret (v := .agg #[.float .f64 x, .float .f64 y]) (by simp [results, Try.results38, go_sem, r0, r1, ln, lt]) rfl ⟨⟨x, y⟩, rfl, hS', by have hs := hB.size; repeat (first | exact hB | refine below_drewN ?_ _ | refine Below.setCell ?_ (by simp) _ | refine Below.alloc ?_ (by first | omega | (simp; omega)) _)⟩
end Go.Proofs.Ytjcnoogloncbbaa
