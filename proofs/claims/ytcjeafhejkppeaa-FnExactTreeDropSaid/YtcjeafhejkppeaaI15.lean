/- Chapter 15's program: what hangs at a link. -/
import Derived.Test.YtcjeafhejkppeaaS15o
import Derived.StillTailTactics
import Derived.BigQuiet
namespace Go.Proofs.Ytcjeafhejkppeaa
set_option maxRecDepth 100000
open Go.RowKit Go.Proofs Go.Own
open Go Go.BigFrame
set_option linter.unusedVariables false
set_option linter.unusedSimpArgs false
/-- What hangs at the link that stands in cell l of block b. -/
def partV (b l : Nat) : Value := .agg #[.pointer (some ⟨b, 0, none⟩), .pointer (some ⟨b, l, none⟩)]
theorem impl_isNone (b l : Nat) (q : Int) (w : World) (h : w.cell? ⟨b, l, none⟩ = some (.int .i64 q)) (hb : b < w.heap.size) :
    Calls Try.prog 57 #[partV b l] w fun e w' => e = .returned (.bool (decide (q = -1))) ∧ Below w.heap.size w w' := by
  unfold partV
  have hne : (b == w.heap.size) = false := by simp; omega
  have hbb : b < (w.alloc (.cells #[.pointer (some ⟨b, 0, none⟩), .pointer (some ⟨b, l, none⟩)] 60)).heap.size := by simp; omega
  have h1 : (w.alloc (.cells #[.pointer (some ⟨b, 0, none⟩), .pointer (some ⟨b, l, none⟩)] 60)).cell? ⟨b, l, none⟩ = some (.int .i64 q) := by
    refine (Below.cell (p := ⟨b, l, none⟩) ((Below.refl w.heap.size w).alloc (Nat.le_refl _) _) hb).trans h
  go_enter Try.func57, Try.ntmps57
  go_wp2
  go_ret
  exact ⟨rfl, by have hB : Below w.heap.size w (w.alloc (.cells #[.pointer (some ⟨b, 0, none⟩), .pointer (some ⟨b, l, none⟩)] 60)) := (Below.refl _ _).alloc (Nat.le_refl _) _
                 exact hB⟩
theorem impl_twig (b l k : Nat) (w : World) (h : w.cell? ⟨b, l, none⟩ = some (.int .i64 (k : Int))) (hb : b < w.heap.size) (hk : k < 16) :
    Calls Try.prog 58 #[partV b l] w fun e w' => e = .returned (.pointer (some ⟨b, k * 4, none⟩)) ∧ Below w.heap.size w w' := by
  unfold partV
  have h1 : (w.alloc (.cells #[.pointer (some ⟨b, 0, none⟩), .pointer (some ⟨b, l, none⟩)] 60)).cell? ⟨b, l, none⟩ = some (.int .i64 (k : Int)) := by
    refine (Below.cell (p := ⟨b, l, none⟩) ((Below.refl w.heap.size w).alloc (Nat.le_refl _) _) hb).trans h
  have hk0 : (0 : Int) ≤ (k : Int) := by omega
  have hk1 : (k : Int) < 16 := by omega
  go_enter Try.func58, Try.ntmps58
  go_wp2
  go_quiet (fail)
  go_wp2
  go_ret
  exact ⟨rfl, below_drewN ((Below.refl _ _).alloc (Nat.le_refl _) _) _⟩
theorem impl_whole (b : Nat) (w : World) :
    Calls Try.prog 38 #[.pointer (some ⟨b, 0, none⟩)] w fun e w' => e = .returned (partV b 64) ∧ Below w.heap.size w w' := by
  unfold partV
  obtain ⟨W1, hW1⟩ : ∃ X, w.alloc (.cells #[.pointer none, .pointer none] 60) = X := ⟨_, rfl⟩
  have HB1 := hid (show Below w.heap.size w W1 by rw [← hW1]; exact (Below.refl _ _).alloc (Nat.le_refl _) _)
  have B1 := hid (show BoxF W1 w.heap.size [.pointer none, .pointer none] by rw [← hW1]; exact BoxF.alloc w #[.pointer none, .pointer none] 60)
  go_enter Try.func38, Try.ntmps38
  go_upto_region 1 with fail
  try rw [hW1]
  clear hW1
  go_still_tail 7, (by kernel_rfl)
  change wpList _ _ _ _ _ W1.drew
  have B2 := hid (show BoxF W1.drew w.heap.size [.pointer none, .pointer none] from B1.out)
  have HB2 := hid (HB1.out.drew)
  generalize W1.drew = w2 at *
  (go_wp2_with (refine wpList_store_box rfl 60 _ _ rfl w.heap.size [.pointer none, .pointer none] [.pointer (some ⟨b, 0, none⟩), .pointer (some ⟨b, 64, none⟩)] (by exact B2.out) rfl rfl rfl (by kernel_rfl) rfl ?_; intro w3 o3 C3; have O3 := hid o3; have HB3 := hid (below_chg HB2.out C3 HB2.out.size (fun b hb => by omega)); clear o3 C3); go_wp2; (exact bodyPost_ret (results_box rfl _ _ w.heap.size _ rfl O3.out _ Try.underlying60 rfl (by kernel_rfl)) rfl ⟨rfl, HB3.out⟩))
/-- The part that hangs at a twig's left link, or at its right one: all that the two walks share. -/
theorem impl_left (b l k : Nat) (w : World) (h : w.cell? ⟨b, l, none⟩ = some (.int .i64 (k : Int))) (hb : b < w.heap.size) (hk : k < 16) :
    Calls Try.prog 59 #[partV b l] w fun e w' => e = .returned (partV b (k * 4 + 2)) ∧ Below w.heap.size w w' := by
  (obtain ⟨W1, hW1⟩ : ∃ X, (w.alloc (.cells #[.pointer (some ⟨b, 0, none⟩), .pointer (some ⟨b, l, none⟩)] 60)).alloc (.cells #[.pointer none, .pointer none] 60) = X := ⟨_, rfl⟩; have HW1 := hid hW1; have HC := hid (fun (W : World) (hB : Below w.heap.size w W) => impl_twig b l k W ((hB.cell (p := ⟨b, l, none⟩) hb).trans h) (by have := hB.size; omega) hk); unfold partV at *; have HB1 := hid (show Below w.heap.size w W1 by rw [← hW1]; exact ((Below.refl _ _).alloc (Nat.le_refl _) _).alloc (by simp) _); have B1 := hid (show BoxF W1 (w.heap.size + 1) [.pointer none, .pointer none] by (rw [← hW1]; have z := BoxF.alloc (w.alloc (.cells #[.pointer (some ⟨b, 0, none⟩), .pointer (some ⟨b, l, none⟩)] 60)) #[.pointer none, .pointer none] 60; rw [show (w.alloc (.cells #[.pointer (some ⟨b, 0, none⟩), .pointer (some ⟨b, l, none⟩)] 60)).heap.size = w.heap.size + 1 by simp] at z; exact z)); have A1 := hid (show BoxF W1 w.heap.size [.pointer (some ⟨b, 0, none⟩), .pointer (some ⟨b, l, none⟩)] by (rw [← hW1]; exact (BoxF.alloc w #[.pointer (some ⟨b, 0, none⟩), .pointer (some ⟨b, l, none⟩)] 60).below ((Below.refl _ _).alloc (Nat.le_refl _) _))); have a0 : W1.cell? ⟨w.heap.size, 0, none⟩ = some (.pointer (some ⟨b, 0, none⟩)) := A1.out.1.2 0 (by simp); have a1 : W1.cell? ⟨w.heap.size, 1, none⟩ = some (.pointer (some ⟨b, l, none⟩)) := A1.out.1.2 1 (by simp); clear hW1 h)
  go_enter Try.func59, Try.ntmps59
  go_upto_region 1 with fail
  rw [HW1.out]
  (go_region_with (go_at_call 58; refine (HC.out _ (by first | exact HB1.out | exact HB1.out.drew)).mono ?_; rintro e w5 ⟨rfl, b5⟩; have B5 := hid (BoxF.below (w := W1.drew) (show BoxF W1.drew (w.heap.size + 1) [.pointer none, .pointer none] from B1.out) b5); have HB5 := hid ((show Below w.heap.size w W1.drew from HB1.out.drew).trans (b5.mono HB1.out.size)); have e0 : w5.cell? ⟨w.heap.size, 0, none⟩ = some (.pointer (some ⟨b, 0, none⟩)) := (b5.cell (p := ⟨w.heap.size, 0, none⟩) A1.out.1.1).trans a0; have e1 : w5.cell? ⟨w.heap.size, 1, none⟩ = some (.pointer (some ⟨b, l, none⟩)) := (b5.cell (p := ⟨w.heap.size, 1, none⟩) A1.out.1.1).trans a1; have r0 : w5.cell? ⟨w.heap.size + 1, 0, none⟩ = some (.pointer none) := B5.out.1.2 0 (by simp); have r1 : w5.cell? ⟨w.heap.size + 1, 1, none⟩ = some (.pointer none) := B5.out.1.2 1 (by simp); have f0 : w5.frozen? ⟨w.heap.size + 1, 0, none⟩ = false := B5.out.2 0 (by simp); have f1 : w5.frozen? ⟨w.heap.size + 1, 1, none⟩ = false := B5.out.2 1 (by simp); clear b5))
  all_goals (go_wp2; exact bodyPost_ret (results_box rfl _ _ (w.heap.size + 1) _ rfl ((B5.out.set 0 (by simp) (.pointer (some ⟨b, 0, none⟩))).set 1 (by simp) (.pointer (some ⟨b, k * 4 + 2, none⟩))) _ Try.underlying60 rfl (by kernel_rfl)) rfl ⟨rfl, (HB5.out.setCell (by show w.heap.size ≤ w.heap.size + 1; omega) _).setCell (by show w.heap.size ≤ w.heap.size + 1; omega) _⟩)
theorem impl_right (b l k : Nat) (w : World) (h : w.cell? ⟨b, l, none⟩ = some (.int .i64 (k : Int))) (hb : b < w.heap.size) (hk : k < 16) :
    Calls Try.prog 60 #[partV b l] w fun e w' => e = .returned (partV b (k * 4 + 3)) ∧ Below w.heap.size w w' := by
  (obtain ⟨W1, hW1⟩ : ∃ X, (w.alloc (.cells #[.pointer (some ⟨b, 0, none⟩), .pointer (some ⟨b, l, none⟩)] 60)).alloc (.cells #[.pointer none, .pointer none] 60) = X := ⟨_, rfl⟩; have HW1 := hid hW1; have HC := hid (fun (W : World) (hB : Below w.heap.size w W) => impl_twig b l k W ((hB.cell (p := ⟨b, l, none⟩) hb).trans h) (by have := hB.size; omega) hk); unfold partV at *; have HB1 := hid (show Below w.heap.size w W1 by rw [← hW1]; exact ((Below.refl _ _).alloc (Nat.le_refl _) _).alloc (by simp) _); have B1 := hid (show BoxF W1 (w.heap.size + 1) [.pointer none, .pointer none] by (rw [← hW1]; have z := BoxF.alloc (w.alloc (.cells #[.pointer (some ⟨b, 0, none⟩), .pointer (some ⟨b, l, none⟩)] 60)) #[.pointer none, .pointer none] 60; rw [show (w.alloc (.cells #[.pointer (some ⟨b, 0, none⟩), .pointer (some ⟨b, l, none⟩)] 60)).heap.size = w.heap.size + 1 by simp] at z; exact z)); have A1 := hid (show BoxF W1 w.heap.size [.pointer (some ⟨b, 0, none⟩), .pointer (some ⟨b, l, none⟩)] by (rw [← hW1]; exact (BoxF.alloc w #[.pointer (some ⟨b, 0, none⟩), .pointer (some ⟨b, l, none⟩)] 60).below ((Below.refl _ _).alloc (Nat.le_refl _) _))); have a0 : W1.cell? ⟨w.heap.size, 0, none⟩ = some (.pointer (some ⟨b, 0, none⟩)) := A1.out.1.2 0 (by simp); have a1 : W1.cell? ⟨w.heap.size, 1, none⟩ = some (.pointer (some ⟨b, l, none⟩)) := A1.out.1.2 1 (by simp); clear hW1 h)
  go_enter Try.func60, Try.ntmps60
  go_upto_region 1 with fail
  rw [HW1.out]
  (go_region_with (go_at_call 58; refine (HC.out _ (by first | exact HB1.out | exact HB1.out.drew)).mono ?_; rintro e w5 ⟨rfl, b5⟩; have B5 := hid (BoxF.below (w := W1.drew) (show BoxF W1.drew (w.heap.size + 1) [.pointer none, .pointer none] from B1.out) b5); have HB5 := hid ((show Below w.heap.size w W1.drew from HB1.out.drew).trans (b5.mono HB1.out.size)); have e0 : w5.cell? ⟨w.heap.size, 0, none⟩ = some (.pointer (some ⟨b, 0, none⟩)) := (b5.cell (p := ⟨w.heap.size, 0, none⟩) A1.out.1.1).trans a0; have e1 : w5.cell? ⟨w.heap.size, 1, none⟩ = some (.pointer (some ⟨b, l, none⟩)) := (b5.cell (p := ⟨w.heap.size, 1, none⟩) A1.out.1.1).trans a1; have r0 : w5.cell? ⟨w.heap.size + 1, 0, none⟩ = some (.pointer none) := B5.out.1.2 0 (by simp); have r1 : w5.cell? ⟨w.heap.size + 1, 1, none⟩ = some (.pointer none) := B5.out.1.2 1 (by simp); have f0 : w5.frozen? ⟨w.heap.size + 1, 0, none⟩ = false := B5.out.2 0 (by simp); have f1 : w5.frozen? ⟨w.heap.size + 1, 1, none⟩ = false := B5.out.2 1 (by simp); clear b5))
  all_goals (go_wp2; exact bodyPost_ret (results_box rfl _ _ (w.heap.size + 1) _ rfl ((B5.out.set 0 (by simp) (.pointer (some ⟨b, 0, none⟩))).set 1 (by simp) (.pointer (some ⟨b, k * 4 + 3, none⟩))) _ Try.underlying60 rfl (by kernel_rfl)) rfl ⟨rfl, (HB5.out.setCell (by show w.heap.size ≤ w.heap.size + 1; omega) _).setCell (by show w.heap.size ≤ w.heap.size + 1; omega) _⟩)
end Go.Proofs.Ytcjeafhejkppeaa
