/- Trees: the laws' helpers, comparison. -/
import Derived.Test.YtdgmbcmgjadoiaaC15b
import Derived.Test.YtdgmbcmgjadoiaaExt
namespace Go.Proofs.Ytdgmbcmgjadoiaa
set_option maxRecDepth 100000
open Go.RowKit Go.Proofs Go.Own
open Go Go.BigFrame
set_option linter.unusedVariables false
set_option linter.unusedSimpArgs false
set_option maxHeartbeats 4000000 in
theorem eqTA16 (L : List Twig) (hL : L.length = 16) (w : World) :
    Calls Try.prog 47 #[.agg (L.flatMap Twig.enc).toArray, .agg (L.flatMap Twig.enc).toArray] w fun e w' => e = .returned (.bool true) ∧ Below w.heap.size w w' := by
  have hl : (L.flatMap Twig.enc).length = 64 := by rw [twigs_len, hL]
  have hl2 : (L.flatMap Twig.enc).toArray.size = 64 := by rw [List.size_toArray, hl]
  have HL := hid hL
  obtain ⟨W1, hW1⟩ : ∃ X, (w.alloc (.cells (L.flatMap Twig.enc).toArray 25)).alloc (.cells (L.flatMap Twig.enc).toArray 25) = X := ⟨_, rfl⟩
  have hB1 : Below w.heap.size w W1 := by rw [← hW1]; exact ((Below.refl _ _).alloc (Nat.le_refl _) _).alloc (by simp) _
  have b0 : BoxF W1 w.heap.size (L.flatMap Twig.enc) := by
    rw [← hW1]
    exact (BoxF.alloc w (L.flatMap Twig.enc).toArray 25).below ((Below.refl _ _).alloc (Nat.le_refl _) _)
  have b1 : BoxF W1 (w.heap.size + 1) (L.flatMap Twig.enc) := by
    rw [← hW1]
    have z := BoxF.alloc (w.alloc (.cells (L.flatMap Twig.enc).toArray 25)) (L.flatMap Twig.enc).toArray 25
    rw [show (w.alloc (.cells (L.flatMap Twig.enc).toArray 25)).heap.size = w.heap.size + 1 by simp] at z
    exact z
  have B0 := hid b0
  have B1 := hid b1
  have HW1 := hid hW1
  have HB1 := hid hB1
  clear hW1 b0 b1 hL hB1
  go_enter Try.func47, Try.ntmps47
  go_wp2
  rw [HW1.out]
  go_loopw [5] (fun i wr => ∃ k : Nat, k ≤ 16 ∧ i = .int .i64 k ∧ Below W1.heap.size W1 wr) (fun i _ => 16 - (intOf i).toNat)
  case atStart => exact ⟨0, by omega, rfl, Below.refl _ _⟩
  case round =>
    obtain ⟨k, hk, rfl, hB⟩ := hrel
    have B0r := hid (B0.out.below hB)
    have B1r := hid (B1.out.below hB)
    have HBr := hid (HB1.out.trans (hB.mono HB1.out.size))
    by_cases hlt : k < 16
    · have hkL : k < L.length := by rw [HL.out]; exact hlt
      have Hc := hid (fun j (hj : j < 4) => boxA_cell (A := []) (Z := []) Twig.enc 4 (fun _ => rfl) (by simpa using B0r.out) k hkL j hj)
      have Hd := hid (fun j (hj : j < 4) => boxA_cell (A := []) (Z := []) Twig.enc 4 (fun _ => rfl) (by simpa using B1r.out) k hkL j hj)
      have c0 := Ext.cell B0r.out.1.1 (show wr.cell? ⟨w.heap.size, k * 4, none⟩ = some (.bool L[k].used_) by have z := Hc.out 0 (by omega); simpa [Twig.enc] using z)
      have c1 := Ext.cell B0r.out.1.1 (show wr.cell? ⟨w.heap.size, k * 4 + 1, none⟩ = some (.int .i64 L[k].key_) by have z := Hc.out 1 (by omega); simpa [Twig.enc] using z)
      have c2 := Ext.cell B0r.out.1.1 (show wr.cell? ⟨w.heap.size, k * 4 + 2, none⟩ = some (.int .i64 L[k].left_) by have z := Hc.out 2 (by omega); simpa [Twig.enc] using z)
      have c3 := Ext.cell B0r.out.1.1 (show wr.cell? ⟨w.heap.size, k * 4 + 3, none⟩ = some (.int .i64 L[k].right_) by have z := Hc.out 3 (by omega); simpa [Twig.enc] using z)
      have d0 := Ext.cell B1r.out.1.1 (show wr.cell? ⟨w.heap.size + 1, k * 4, none⟩ = some (.bool L[k].used_) by have z := Hd.out 0 (by omega); simpa [Twig.enc] using z)
      have d1 := Ext.cell B1r.out.1.1 (show wr.cell? ⟨w.heap.size + 1, k * 4 + 1, none⟩ = some (.int .i64 L[k].key_) by have z := Hd.out 1 (by omega); simpa [Twig.enc] using z)
      have d2 := Ext.cell B1r.out.1.1 (show wr.cell? ⟨w.heap.size + 1, k * 4 + 2, none⟩ = some (.int .i64 L[k].left_) by have z := Hd.out 2 (by omega); simpa [Twig.enc] using z)
      have d3 := Ext.cell B1r.out.1.1 (show wr.cell? ⟨w.heap.size + 1, k * 4 + 3, none⟩ = some (.int .i64 L[k].right_) by have z := Hd.out 3 (by omega); simpa [Twig.enc] using z)
      have hk0 : (0 : Int) ≤ (k : Int) := by omega
      have hk16 : (k : Int) < 16 := by omega
      obtain ⟨X, hX⟩ : ∃ X, L[k] = X := ⟨_, rfl⟩
      rw [hX] at c0 c1 c2 c3 d0 d1 d2 d3
      clear Hc Hd hX
      obtain ⟨xu, xk, xv, xn⟩ := X
      dsimp only at c0 c1 c2 c3 d0 d1 d2 d3
      go_wp2_with fail
      refine wp_region_ext wr (Below.refl _ _) (by kernel_rfl) (by kernel_rfl) ?_
      repeat (go_big_quiet_step (first | (go_at_call 67; exact call_ext _ (eqTwig_c ⟨xu, xk, xv, xn⟩ _))))
      refine wpQuiet_nil ?_
      rintro _ ⟨E, rfl⟩
      have HBE := hid (hB.trans (E.h.mono hB.size))
      go_wp2
      go_roundw
      case rel => exact ⟨k+1, by omega, by go_num, HBE.out⟩
      case measure => simp [intOf]; omega
    · obtain rfl : k = 16 := by omega
      go_wp2
      go_ret
      exact ⟨rfl, HBr.out⟩
set_option maxHeartbeats 4000000 in
theorem eqTree_c (c : TreeD) (hc : c.twigs_.length = 16) (w : World) :
    Calls Try.prog 15 #[.agg c.enc.toArray, .agg c.enc.toArray] w fun e w' => e = .returned (.bool true) ∧ Below w.heap.size w w' := by
  have hl := tree_len hc
  have hl2 : c.enc.toArray.size = 65 := by rw [List.size_toArray, hl]
  have hln : (c.twigs_.flatMap Twig.enc).length = 64 := by rw [twigs_len, hc]
  have HE := hid (show c.enc = [] ++ c.twigs_.flatMap Twig.enc ++ [.int .i64 c.root_] from rfl)
  have H64 := hid (show c.enc[64]? = some (.int .i64 c.root_) by rw [HE.out, List.nil_append, List.getElem?_append_right (by omega), hln]; rfl)
  generalize hce : c.enc = ce at *
  obtain ⟨W1, hW1⟩ : ∃ X, (w.alloc (.cells ce.toArray 27)).alloc (.cells ce.toArray 27) = X := ⟨_, rfl⟩
  have hB1 : Below w.heap.size w W1 := by rw [← hW1]; exact ((Below.refl _ _).alloc (Nat.le_refl _) _).alloc (by simp) _
  have b0 : BoxF W1 w.heap.size ce := by
    rw [← hW1]
    exact (BoxF.alloc w ce.toArray 27).below ((Below.refl _ _).alloc (Nat.le_refl _) _)
  have b1 : BoxF W1 (w.heap.size + 1) ce := by
    rw [← hW1]
    have z := BoxF.alloc (w.alloc (.cells ce.toArray 27)) ce.toArray 27
    rw [show (w.alloc (.cells ce.toArray 27)).heap.size = w.heap.size + 1 by simp] at z
    exact z
  have B0 := hid b0
  have B1 := hid b1
  have HW1 := hid hW1
  have HB1 := hid hB1
  have Hcall := hid (eqTA16 c.twigs_ hc W1)
  clear hW1 b0 b1 hc hB1 hce
  go_enter Try.func15, Try.ntmps15
  go_wp2_with (first | (refine wpList_load_part rfl 25 _ rfl w.heap.size [] (c.twigs_.flatMap Twig.enc) [.int .i64 c.root_] ce (by rw [HW1.out]; exact B0.out) HE.out rfl _ Try.underlying25 rfl (by rw [hln]; kernel_rfl) ?_) | (refine wpList_load_part rfl 25 _ rfl (w.heap.size + 1) [] (c.twigs_.flatMap Twig.enc) [.int .i64 c.root_] ce (by rw [HW1.out]; exact B1.out) HE.out rfl _ Try.underlying25 rfl (by rw [hln]; kernel_rfl) ?_))
  rw [HW1.out]
  refine Hcall.out.mono ?_
  rintro e w2 ⟨rfl, b2⟩
  have HB2 := hid (HB1.out.trans (b2.mono HB1.out.size))
  have k0 : w2.cell? ⟨w.heap.size, 64, none⟩ = some (.int .i64 c.root_) := by
    have z := (B0.out.below b2).1.2 64 (by rw [hl]; omega)
    rw [z]; exact H64.out
  have k1 : w2.cell? ⟨w.heap.size + 1, 64, none⟩ = some (.int .i64 c.root_) := by
    have z := (B1.out.below b2).1.2 64 (by rw [hl]; omega)
    rw [z]; exact H64.out
  clear b2 Hcall
  go_wp2
  go_ret
  exact ⟨rfl, HB2.out⟩
end Go.Proofs.Ytdgmbcmgjadoiaa
