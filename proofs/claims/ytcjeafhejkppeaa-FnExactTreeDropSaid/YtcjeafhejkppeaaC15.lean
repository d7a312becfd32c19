/- Trees: the laws' helpers. -/
import Derived.Test.YtcjeafhejkppeaaAr
import Derived.Test.YtcjeafhejkppeaaTypes15
import Derived.Test.YtcjeafhejkppeaaEnc5
namespace Go.Proofs.Ytcjeafhejkppeaa
set_option maxRecDepth 100000
open Go.RowKit Go.Proofs Go.Own
open Go Go.BigFrame
set_option linter.unusedVariables false
set_option linter.unusedSimpArgs false
theorem twigs_len (L : List Twig) : (L.flatMap Twig.enc).length = L.length * 4 := flatMap_len Twig.enc 4 (fun _ => rfl) L
def zTwig : Twig := ⟨false, 0, 0, 0⟩
theorem twigs_one (L : List Twig) : (L.flatMap Twig.enc).all (·.oneCell') = true := by
  rw [List.all_eq_true]
  refine oneCell_enc (f := Twig.enc) (fun x c hc => ?_) L
  simp [Twig.enc] at hc
  rcases hc with rfl | rfl | rfl | rfl <;> rfl
theorem twig_one (x : Twig) : x.enc.all (·.oneCell') = true := rfl
set_option maxHeartbeats 4000000 in
theorem toTA16 (L : List Twig) (hL : L.length = 16) (w : World) :
    Calls Try.prog 35 #[.agg (L.flatMap Twig.enc).toArray] w fun e w' => e = .returned (.agg (L.flatMap Twig.enc).toArray) ∧ Below w.heap.size w w' := by
  have hl : (L.flatMap Twig.enc).length = 64 := by rw [twigs_len, hL]
  have hl2 : (L.flatMap Twig.enc).toArray.size = 64 := by rw [List.size_toArray, hl]
  have HL := hid hL
  obtain ⟨W1, hW1⟩ : ∃ X, ((w.alloc (.cells (L.flatMap Twig.enc).toArray 24)).alloc (.cells #[.bool false, .int .i64 0, .int .i64 0, .int .i64 0, .bool false, .int .i64 0, .int .i64 0, .int .i64 0, .bool false, .int .i64 0, .int .i64 0, .int .i64 0, .bool false, .int .i64 0, .int .i64 0, .int .i64 0, .bool false, .int .i64 0, .int .i64 0, .int .i64 0, .bool false, .int .i64 0, .int .i64 0, .int .i64 0, .bool false, .int .i64 0, .int .i64 0, .int .i64 0, .bool false, .int .i64 0, .int .i64 0, .int .i64 0, .bool false, .int .i64 0, .int .i64 0, .int .i64 0, .bool false, .int .i64 0, .int .i64 0, .int .i64 0, .bool false, .int .i64 0, .int .i64 0, .int .i64 0, .bool false, .int .i64 0, .int .i64 0, .int .i64 0, .bool false, .int .i64 0, .int .i64 0, .int .i64 0, .bool false, .int .i64 0, .int .i64 0, .int .i64 0, .bool false, .int .i64 0, .int .i64 0, .int .i64 0, .bool false, .int .i64 0, .int .i64 0, .int .i64 0] 29)).alloc (.cells #[.bool false, .int .i64 0, .int .i64 0, .int .i64 0, .bool false, .int .i64 0, .int .i64 0, .int .i64 0, .bool false, .int .i64 0, .int .i64 0, .int .i64 0, .bool false, .int .i64 0, .int .i64 0, .int .i64 0, .bool false, .int .i64 0, .int .i64 0, .int .i64 0, .bool false, .int .i64 0, .int .i64 0, .int .i64 0, .bool false, .int .i64 0, .int .i64 0, .int .i64 0, .bool false, .int .i64 0, .int .i64 0, .int .i64 0, .bool false, .int .i64 0, .int .i64 0, .int .i64 0, .bool false, .int .i64 0, .int .i64 0, .int .i64 0, .bool false, .int .i64 0, .int .i64 0, .int .i64 0, .bool false, .int .i64 0, .int .i64 0, .int .i64 0, .bool false, .int .i64 0, .int .i64 0, .int .i64 0, .bool false, .int .i64 0, .int .i64 0, .int .i64 0, .bool false, .int .i64 0, .int .i64 0, .int .i64 0, .bool false, .int .i64 0, .int .i64 0, .int .i64 0] 29) = X := ⟨_, rfl⟩
  have hB1 : Below w.heap.size w W1 := by rw [← hW1]; exact (((Below.refl _ _).alloc (Nat.le_refl _) _).alloc (by simp) _).alloc (by simp; omega) _
  have hs1 : W1.heap.size = w.heap.size + 3 := by rw [← hW1]; simp
  have b0 : BoxF W1 w.heap.size (L.flatMap Twig.enc) := by
    rw [← hW1]
    exact ((BoxF.alloc w (L.flatMap Twig.enc).toArray 24).below ((Below.refl _ _).alloc (Nat.le_refl _) _)).below ((Below.refl _ _).alloc (Nat.le_refl _) _)
  have b1 : BoxF W1 (w.heap.size + 1) [.bool false, .int .i64 0, .int .i64 0, .int .i64 0, .bool false, .int .i64 0, .int .i64 0, .int .i64 0, .bool false, .int .i64 0, .int .i64 0, .int .i64 0, .bool false, .int .i64 0, .int .i64 0, .int .i64 0, .bool false, .int .i64 0, .int .i64 0, .int .i64 0, .bool false, .int .i64 0, .int .i64 0, .int .i64 0, .bool false, .int .i64 0, .int .i64 0, .int .i64 0, .bool false, .int .i64 0, .int .i64 0, .int .i64 0, .bool false, .int .i64 0, .int .i64 0, .int .i64 0, .bool false, .int .i64 0, .int .i64 0, .int .i64 0, .bool false, .int .i64 0, .int .i64 0, .int .i64 0, .bool false, .int .i64 0, .int .i64 0, .int .i64 0, .bool false, .int .i64 0, .int .i64 0, .int .i64 0, .bool false, .int .i64 0, .int .i64 0, .int .i64 0, .bool false, .int .i64 0, .int .i64 0, .int .i64 0, .bool false, .int .i64 0, .int .i64 0, .int .i64 0] := by
    rw [← hW1]
    have z := BoxF.alloc (w.alloc (.cells (L.flatMap Twig.enc).toArray 24)) #[.bool false, .int .i64 0, .int .i64 0, .int .i64 0, .bool false, .int .i64 0, .int .i64 0, .int .i64 0, .bool false, .int .i64 0, .int .i64 0, .int .i64 0, .bool false, .int .i64 0, .int .i64 0, .int .i64 0, .bool false, .int .i64 0, .int .i64 0, .int .i64 0, .bool false, .int .i64 0, .int .i64 0, .int .i64 0, .bool false, .int .i64 0, .int .i64 0, .int .i64 0, .bool false, .int .i64 0, .int .i64 0, .int .i64 0, .bool false, .int .i64 0, .int .i64 0, .int .i64 0, .bool false, .int .i64 0, .int .i64 0, .int .i64 0, .bool false, .int .i64 0, .int .i64 0, .int .i64 0, .bool false, .int .i64 0, .int .i64 0, .int .i64 0, .bool false, .int .i64 0, .int .i64 0, .int .i64 0, .bool false, .int .i64 0, .int .i64 0, .int .i64 0, .bool false, .int .i64 0, .int .i64 0, .int .i64 0, .bool false, .int .i64 0, .int .i64 0, .int .i64 0] 29
    rw [show (w.alloc (.cells (L.flatMap Twig.enc).toArray 24)).heap.size = w.heap.size + 1 by simp] at z
    exact z.below ((Below.refl _ _).alloc (Nat.le_refl _) _)
  have b2 : BoxF W1 (w.heap.size + 1 + 1) ((List.replicate 16 zTwig).flatMap Twig.enc) := by
    rw [← hW1]
    have z := BoxF.alloc ((w.alloc (.cells (L.flatMap Twig.enc).toArray 24)).alloc (.cells #[.bool false, .int .i64 0, .int .i64 0, .int .i64 0, .bool false, .int .i64 0, .int .i64 0, .int .i64 0, .bool false, .int .i64 0, .int .i64 0, .int .i64 0, .bool false, .int .i64 0, .int .i64 0, .int .i64 0, .bool false, .int .i64 0, .int .i64 0, .int .i64 0, .bool false, .int .i64 0, .int .i64 0, .int .i64 0, .bool false, .int .i64 0, .int .i64 0, .int .i64 0, .bool false, .int .i64 0, .int .i64 0, .int .i64 0, .bool false, .int .i64 0, .int .i64 0, .int .i64 0, .bool false, .int .i64 0, .int .i64 0, .int .i64 0, .bool false, .int .i64 0, .int .i64 0, .int .i64 0, .bool false, .int .i64 0, .int .i64 0, .int .i64 0, .bool false, .int .i64 0, .int .i64 0, .int .i64 0, .bool false, .int .i64 0, .int .i64 0, .int .i64 0, .bool false, .int .i64 0, .int .i64 0, .int .i64 0, .bool false, .int .i64 0, .int .i64 0, .int .i64 0] 29)) #[.bool false, .int .i64 0, .int .i64 0, .int .i64 0, .bool false, .int .i64 0, .int .i64 0, .int .i64 0, .bool false, .int .i64 0, .int .i64 0, .int .i64 0, .bool false, .int .i64 0, .int .i64 0, .int .i64 0, .bool false, .int .i64 0, .int .i64 0, .int .i64 0, .bool false, .int .i64 0, .int .i64 0, .int .i64 0, .bool false, .int .i64 0, .int .i64 0, .int .i64 0, .bool false, .int .i64 0, .int .i64 0, .int .i64 0, .bool false, .int .i64 0, .int .i64 0, .int .i64 0, .bool false, .int .i64 0, .int .i64 0, .int .i64 0, .bool false, .int .i64 0, .int .i64 0, .int .i64 0, .bool false, .int .i64 0, .int .i64 0, .int .i64 0, .bool false, .int .i64 0, .int .i64 0, .int .i64 0, .bool false, .int .i64 0, .int .i64 0, .int .i64 0, .bool false, .int .i64 0, .int .i64 0, .int .i64 0, .bool false, .int .i64 0, .int .i64 0, .int .i64 0] 29
    rw [show ((w.alloc (.cells (L.flatMap Twig.enc).toArray 24)).alloc (.cells #[.bool false, .int .i64 0, .int .i64 0, .int .i64 0, .bool false, .int .i64 0, .int .i64 0, .int .i64 0, .bool false, .int .i64 0, .int .i64 0, .int .i64 0, .bool false, .int .i64 0, .int .i64 0, .int .i64 0, .bool false, .int .i64 0, .int .i64 0, .int .i64 0, .bool false, .int .i64 0, .int .i64 0, .int .i64 0, .bool false, .int .i64 0, .int .i64 0, .int .i64 0, .bool false, .int .i64 0, .int .i64 0, .int .i64 0, .bool false, .int .i64 0, .int .i64 0, .int .i64 0, .bool false, .int .i64 0, .int .i64 0, .int .i64 0, .bool false, .int .i64 0, .int .i64 0, .int .i64 0, .bool false, .int .i64 0, .int .i64 0, .int .i64 0, .bool false, .int .i64 0, .int .i64 0, .int .i64 0, .bool false, .int .i64 0, .int .i64 0, .int .i64 0, .bool false, .int .i64 0, .int .i64 0, .int .i64 0, .bool false, .int .i64 0, .int .i64 0, .int .i64 0] 29)).heap.size = w.heap.size + 1 + 1 by simp] at z
    exact z
  have B0 := hid b0
  have B1 := hid b1
  have B2 := hid b2
  have HW1 := hid hW1
  have HS1 := hid hs1
  have HB1 := hid hB1
  clear hW1 b0 b1 b2 hL hs1 hB1
  go_enter Try.func35, Try.ntmps35
  go_wp2
  rw [HW1.out]
  go_loopw [4] (fun i wr => ∃ k : Nat, k ≤ 16 ∧ i = .int .i64 k ∧ Hid (BoxF wr (w.heap.size + 1 + 1) ((L.take k ++ List.replicate (16 - k) zTwig).flatMap Twig.enc)) ∧ Hid (ChgS (fun b => b = w.heap.size + 1 + 1) W1 wr)) (fun i _ => 16 - (intOf i).toNat)
  case atStart => exact ⟨0, by omega, rfl, B2, hid (ChgS.refl _ _)⟩
  case round =>
    clear B2
    obtain ⟨k, hk, rfl, HO, HC⟩ := hrel
    have hS1 := HS1.out
    have hsr := HC.out.size
    have B0r := hid (B0.out.chg HC.out (by omega))
    by_cases hlt : k < 16
    · have hkL : k < L.length := by rw [HL.out]; exact hlt
      have Hc := hid (fun j (hj : j < 4) => boxA_cell (A := []) (Z := []) Twig.enc 4 (fun _ => rfl) (by simpa using B0r.out) k hkL j hj)
      have c0 : wr.cell? ⟨w.heap.size, k * 4, none⟩ = some (.bool L[k].used_) := by have z := Hc.out 0 (by omega); simpa [Twig.enc] using z
      have c1 : wr.cell? ⟨w.heap.size, k * 4 + 1, none⟩ = some (.int .i64 L[k].key_) := by have z := Hc.out 1 (by omega); simpa [Twig.enc] using z
      have c2 : wr.cell? ⟨w.heap.size, k * 4 + 2, none⟩ = some (.int .i64 L[k].left_) := by have z := Hc.out 2 (by omega); simpa [Twig.enc] using z
      have c3 : wr.cell? ⟨w.heap.size, k * 4 + 3, none⟩ = some (.int .i64 L[k].right_) := by have z := Hc.out 3 (by omega); simpa [Twig.enc] using z
      have hk0 : (0 : Int) ≤ (k : Int) := by omega
      have hk16 : (k : Int) < 16 := by omega
      have Hcall := hid (toTwig_c L[k] wr)
      have Hset := hid (show (L.take k ++ List.replicate (16 - k) zTwig).set k L[k] = L.take (k+1) ++ List.replicate (16 - (k+1)) zTwig by
        rw [List.set_append_right _ _ (by rw [List.length_take]; omega), List.length_take, Nat.min_eq_left (by omega), Nat.sub_self, List.take_succ_eq_append_getElem hkL, show 16 - k = (16 - (k+1)) + 1 by omega, List.replicate_succ, List.append_assoc]
        rfl)
      have Hl2 := hid (show k < (L.take k ++ List.replicate (16 - k) zTwig).length by rw [List.length_append, List.length_take, List.length_replicate]; omega)
      obtain ⟨X, hX⟩ : ∃ X, L[k] = X := ⟨_, rfl⟩
      rw [hX] at c0 c1 c2 c3 Hcall Hset
      clear Hc hX hS1
      obtain ⟨xu, xk, xv, xn⟩ := X
      dsimp only at c0 c1 c2 c3
      go_wp2_with fail
      refine Hcall.out.mono ?_
      rintro e w5 ⟨rfl, b5⟩
      have HO5 := hid (show BoxF w5 (w.heap.size + 1 + 1) ([] ++ (L.take k ++ List.replicate (16 - k) zTwig).flatMap Twig.enc ++ []) by simpa using HO.out.below b5)
      have HC5 := hid (HC.out.trans (ChgS.of_below b5 (fun b => b = w.heap.size + 1 + 1)))
      clear c0 c1 c2 c3 Hcall HO HC b5
      go_wp2_with (refine wpList_store_el Twig.enc 4 (fun _ => rfl) rfl 28 _ _ rfl (w.heap.size + 1 + 1) (k * 4) [] [] _ k ⟨xu, xk, xv, xn⟩ HO5.out Hl2.out (by simp) rfl rfl (by kernel_rfl) rfl ?_)
      intro w6 o6 C6
      rw [Hset.out] at o6
      have HO6 := hid (show BoxF w6 (w.heap.size + 1 + 1) ((L.take (k+1) ++ List.replicate (16 - (k+1)) zTwig).flatMap Twig.enc) by simpa using o6)
      have HC6 := hid (HC5.out.trans C6)
      clear o6 C6 HO5 HC5
      go_wp2
      go_roundw
      case rel => exact ⟨k+1, by omega, by go_num, HO6, HC6⟩
      case measure => simp [intOf]; omega
    · obtain rfl : k = 16 := by omega
      have HO16 := hid (show BoxF wr (w.heap.size + 1 + 1) (L.flatMap Twig.enc) by
        have z := HO.out
        rw [List.take_of_length_le (by rw [HL.out]; exact Nat.le_refl _)] at z
        simpa using z)
      have B1r := hid (B1.out.chg HC.out (by omega))
      have hone := twigs_one L
      have hl64 := hl
      have HBr := hid (below_chg HB1.out HC.out (by omega) (fun b hb => by omega))
      clear HO hS1
      go_wp2_with (first | (refine wpList_load_box rfl 29 _ rfl (w.heap.size + 1 + 1) (L.flatMap Twig.enc) HO16.out.1 rfl _ Try.underlying29 rfl (by rw [hl64]; kernel_rfl) ?_) | (refine wpList_store_box rfl 29 _ _ rfl (w.heap.size + 1) [.bool false, .int .i64 0, .int .i64 0, .int .i64 0, .bool false, .int .i64 0, .int .i64 0, .int .i64 0, .bool false, .int .i64 0, .int .i64 0, .int .i64 0, .bool false, .int .i64 0, .int .i64 0, .int .i64 0, .bool false, .int .i64 0, .int .i64 0, .int .i64 0, .bool false, .int .i64 0, .int .i64 0, .int .i64 0, .bool false, .int .i64 0, .int .i64 0, .int .i64 0, .bool false, .int .i64 0, .int .i64 0, .int .i64 0, .bool false, .int .i64 0, .int .i64 0, .int .i64 0, .bool false, .int .i64 0, .int .i64 0, .int .i64 0, .bool false, .int .i64 0, .int .i64 0, .int .i64 0, .bool false, .int .i64 0, .int .i64 0, .int .i64 0, .bool false, .int .i64 0, .int .i64 0, .int .i64 0, .bool false, .int .i64 0, .int .i64 0, .int .i64 0, .bool false, .int .i64 0, .int .i64 0, .int .i64 0, .bool false, .int .i64 0, .int .i64 0, .int .i64 0] (L.flatMap Twig.enc) B1r.out rfl rfl (by rw [hl64]; rfl) (by rw [hl64]; kernel_rfl) hone ?_))
      intro w9 o9 C9
      have O9 := hid o9
      have HB9 := hid (below_chg HBr.out C9 HBr.out.size (fun b hb => by omega))
      clear o9 C9
      go_wp2
      exact bodyPost_ret (results_box rfl _ _ (w.heap.size + 1) (L.flatMap Twig.enc) rfl O9.out _ Try.underlying29 rfl (by rw [hl64]; kernel_rfl)) rfl ⟨rfl, HB9.out⟩
end Go.Proofs.Ytcjeafhejkppeaa
