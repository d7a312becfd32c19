/- Trees: the laws' helpers, whole trees. -/
import Derived.Test.YtcjeafhejkppeaaC15
namespace Go.Proofs.Ytcjeafhejkppeaa
set_option maxRecDepth 100000
open Go.RowKit Go.Proofs Go.Own
open Go Go.BigFrame
set_option linter.unusedVariables false
set_option linter.unusedSimpArgs false
theorem zero_run {P : Program} {t : TypeId} {v : Value} (w : World) (h : (P.info? t).bind (·.zero) = some v) : (zeroValue t).run P w = .ok v w := by
  cases e : P.info? t with
  | none => rw [e] at h; cases h
  | some i =>
    rw [e] at h
    have h2 : i.zero = some v := h
    simp [zeroValue, typeInfo, e, h2]
structure TreeD where
  twigs_ : List Twig
  root_ : Int
def TreeD.enc (c : TreeD) : List Value := c.twigs_.flatMap Twig.enc ++ [.int .i64 c.root_]
theorem tree_len {c : TreeD} (h : c.twigs_.length = 16) : c.enc.length = 65 := by
  unfold TreeD.enc; rw [List.length_append, twigs_len, h]; rfl
theorem tree_one (c : TreeD) : c.enc.all (·.oneCell') = true := by
  unfold TreeD.enc
  rw [List.all_append, twigs_one]; rfl
set_option maxHeartbeats 4000000 in
theorem toTree_c (c : TreeD) (hc : c.twigs_.length = 16) (w : World) :
    Calls Try.prog 12 #[.agg c.enc.toArray] w fun e w' => e = .returned (.agg c.enc.toArray) ∧ Below w.heap.size w w' := by
  have hl := tree_len hc
  have hl2 : c.enc.toArray.size = 65 := by rw [List.size_toArray, hl]
  have hln : (c.twigs_.flatMap Twig.enc).length = 64 := by rw [twigs_len, hc]
  have HC := hid hc
  have HE := hid (show c.enc = [] ++ c.twigs_.flatMap Twig.enc ++ [.int .i64 c.root_] from rfl)
  have hone := tree_one c
  have hone64 := twigs_one c.twigs_
  generalize hce : c.enc = ce at *
  obtain ⟨W1, hW1⟩ : ∃ X, ((w.alloc (.cells ce.toArray 26)).alloc (.cells #[.bool false, .int .i64 0, .int .i64 0, .int .i64 0, .bool false, .int .i64 0, .int .i64 0, .int .i64 0, .bool false, .int .i64 0, .int .i64 0, .int .i64 0, .bool false, .int .i64 0, .int .i64 0, .int .i64 0, .bool false, .int .i64 0, .int .i64 0, .int .i64 0, .bool false, .int .i64 0, .int .i64 0, .int .i64 0, .bool false, .int .i64 0, .int .i64 0, .int .i64 0, .bool false, .int .i64 0, .int .i64 0, .int .i64 0, .bool false, .int .i64 0, .int .i64 0, .int .i64 0, .bool false, .int .i64 0, .int .i64 0, .int .i64 0, .bool false, .int .i64 0, .int .i64 0, .int .i64 0, .bool false, .int .i64 0, .int .i64 0, .int .i64 0, .bool false, .int .i64 0, .int .i64 0, .int .i64 0, .bool false, .int .i64 0, .int .i64 0, .int .i64 0, .bool false, .int .i64 0, .int .i64 0, .int .i64 0, .bool false, .int .i64 0, .int .i64 0, .int .i64 0, .int .i64 0] 31)).alloc (.cells #[.bool false, .int .i64 0, .int .i64 0, .int .i64 0, .bool false, .int .i64 0, .int .i64 0, .int .i64 0, .bool false, .int .i64 0, .int .i64 0, .int .i64 0, .bool false, .int .i64 0, .int .i64 0, .int .i64 0, .bool false, .int .i64 0, .int .i64 0, .int .i64 0, .bool false, .int .i64 0, .int .i64 0, .int .i64 0, .bool false, .int .i64 0, .int .i64 0, .int .i64 0, .bool false, .int .i64 0, .int .i64 0, .int .i64 0, .bool false, .int .i64 0, .int .i64 0, .int .i64 0, .bool false, .int .i64 0, .int .i64 0, .int .i64 0, .bool false, .int .i64 0, .int .i64 0, .int .i64 0, .bool false, .int .i64 0, .int .i64 0, .int .i64 0, .bool false, .int .i64 0, .int .i64 0, .int .i64 0, .bool false, .int .i64 0, .int .i64 0, .int .i64 0, .bool false, .int .i64 0, .int .i64 0, .int .i64 0, .bool false, .int .i64 0, .int .i64 0, .int .i64 0, .int .i64 0] 31) = X := ⟨_, rfl⟩
  have hB1 : Below w.heap.size w W1 := by rw [← hW1]; exact (((Below.refl _ _).alloc (Nat.le_refl _) _).alloc (by simp) _).alloc (by simp; omega) _
  have b0 : BoxF W1 w.heap.size ce := by
    rw [← hW1]
    exact ((BoxF.alloc w ce.toArray 26).below ((Below.refl _ _).alloc (Nat.le_refl _) _)).below ((Below.refl _ _).alloc (Nat.le_refl _) _)
  have b1 : BoxF W1 (w.heap.size + 1) [.bool false, .int .i64 0, .int .i64 0, .int .i64 0, .bool false, .int .i64 0, .int .i64 0, .int .i64 0, .bool false, .int .i64 0, .int .i64 0, .int .i64 0, .bool false, .int .i64 0, .int .i64 0, .int .i64 0, .bool false, .int .i64 0, .int .i64 0, .int .i64 0, .bool false, .int .i64 0, .int .i64 0, .int .i64 0, .bool false, .int .i64 0, .int .i64 0, .int .i64 0, .bool false, .int .i64 0, .int .i64 0, .int .i64 0, .bool false, .int .i64 0, .int .i64 0, .int .i64 0, .bool false, .int .i64 0, .int .i64 0, .int .i64 0, .bool false, .int .i64 0, .int .i64 0, .int .i64 0, .bool false, .int .i64 0, .int .i64 0, .int .i64 0, .bool false, .int .i64 0, .int .i64 0, .int .i64 0, .bool false, .int .i64 0, .int .i64 0, .int .i64 0, .bool false, .int .i64 0, .int .i64 0, .int .i64 0, .bool false, .int .i64 0, .int .i64 0, .int .i64 0, .int .i64 0] := by
    rw [← hW1]
    have z := BoxF.alloc (w.alloc (.cells ce.toArray 26)) #[.bool false, .int .i64 0, .int .i64 0, .int .i64 0, .bool false, .int .i64 0, .int .i64 0, .int .i64 0, .bool false, .int .i64 0, .int .i64 0, .int .i64 0, .bool false, .int .i64 0, .int .i64 0, .int .i64 0, .bool false, .int .i64 0, .int .i64 0, .int .i64 0, .bool false, .int .i64 0, .int .i64 0, .int .i64 0, .bool false, .int .i64 0, .int .i64 0, .int .i64 0, .bool false, .int .i64 0, .int .i64 0, .int .i64 0, .bool false, .int .i64 0, .int .i64 0, .int .i64 0, .bool false, .int .i64 0, .int .i64 0, .int .i64 0, .bool false, .int .i64 0, .int .i64 0, .int .i64 0, .bool false, .int .i64 0, .int .i64 0, .int .i64 0, .bool false, .int .i64 0, .int .i64 0, .int .i64 0, .bool false, .int .i64 0, .int .i64 0, .int .i64 0, .bool false, .int .i64 0, .int .i64 0, .int .i64 0, .bool false, .int .i64 0, .int .i64 0, .int .i64 0, .int .i64 0] 31
    rw [show (w.alloc (.cells ce.toArray 26)).heap.size = w.heap.size + 1 by simp] at z
    exact z.below ((Below.refl _ _).alloc (Nat.le_refl _) _)
  have b2 : BoxF W1 (w.heap.size + 1 + 1) [.bool false, .int .i64 0, .int .i64 0, .int .i64 0, .bool false, .int .i64 0, .int .i64 0, .int .i64 0, .bool false, .int .i64 0, .int .i64 0, .int .i64 0, .bool false, .int .i64 0, .int .i64 0, .int .i64 0, .bool false, .int .i64 0, .int .i64 0, .int .i64 0, .bool false, .int .i64 0, .int .i64 0, .int .i64 0, .bool false, .int .i64 0, .int .i64 0, .int .i64 0, .bool false, .int .i64 0, .int .i64 0, .int .i64 0, .bool false, .int .i64 0, .int .i64 0, .int .i64 0, .bool false, .int .i64 0, .int .i64 0, .int .i64 0, .bool false, .int .i64 0, .int .i64 0, .int .i64 0, .bool false, .int .i64 0, .int .i64 0, .int .i64 0, .bool false, .int .i64 0, .int .i64 0, .int .i64 0, .bool false, .int .i64 0, .int .i64 0, .int .i64 0, .bool false, .int .i64 0, .int .i64 0, .int .i64 0, .bool false, .int .i64 0, .int .i64 0, .int .i64 0, .int .i64 0] := by
    rw [← hW1]
    have z := BoxF.alloc ((w.alloc (.cells ce.toArray 26)).alloc (.cells #[.bool false, .int .i64 0, .int .i64 0, .int .i64 0, .bool false, .int .i64 0, .int .i64 0, .int .i64 0, .bool false, .int .i64 0, .int .i64 0, .int .i64 0, .bool false, .int .i64 0, .int .i64 0, .int .i64 0, .bool false, .int .i64 0, .int .i64 0, .int .i64 0, .bool false, .int .i64 0, .int .i64 0, .int .i64 0, .bool false, .int .i64 0, .int .i64 0, .int .i64 0, .bool false, .int .i64 0, .int .i64 0, .int .i64 0, .bool false, .int .i64 0, .int .i64 0, .int .i64 0, .bool false, .int .i64 0, .int .i64 0, .int .i64 0, .bool false, .int .i64 0, .int .i64 0, .int .i64 0, .bool false, .int .i64 0, .int .i64 0, .int .i64 0, .bool false, .int .i64 0, .int .i64 0, .int .i64 0, .bool false, .int .i64 0, .int .i64 0, .int .i64 0, .bool false, .int .i64 0, .int .i64 0, .int .i64 0, .bool false, .int .i64 0, .int .i64 0, .int .i64 0, .int .i64 0] 31)) #[.bool false, .int .i64 0, .int .i64 0, .int .i64 0, .bool false, .int .i64 0, .int .i64 0, .int .i64 0, .bool false, .int .i64 0, .int .i64 0, .int .i64 0, .bool false, .int .i64 0, .int .i64 0, .int .i64 0, .bool false, .int .i64 0, .int .i64 0, .int .i64 0, .bool false, .int .i64 0, .int .i64 0, .int .i64 0, .bool false, .int .i64 0, .int .i64 0, .int .i64 0, .bool false, .int .i64 0, .int .i64 0, .int .i64 0, .bool false, .int .i64 0, .int .i64 0, .int .i64 0, .bool false, .int .i64 0, .int .i64 0, .int .i64 0, .bool false, .int .i64 0, .int .i64 0, .int .i64 0, .bool false, .int .i64 0, .int .i64 0, .int .i64 0, .bool false, .int .i64 0, .int .i64 0, .int .i64 0, .bool false, .int .i64 0, .int .i64 0, .int .i64 0, .bool false, .int .i64 0, .int .i64 0, .int .i64 0, .bool false, .int .i64 0, .int .i64 0, .int .i64 0, .int .i64 0] 31
    rw [show ((w.alloc (.cells ce.toArray 26)).alloc (.cells #[.bool false, .int .i64 0, .int .i64 0, .int .i64 0, .bool false, .int .i64 0, .int .i64 0, .int .i64 0, .bool false, .int .i64 0, .int .i64 0, .int .i64 0, .bool false, .int .i64 0, .int .i64 0, .int .i64 0, .bool false, .int .i64 0, .int .i64 0, .int .i64 0, .bool false, .int .i64 0, .int .i64 0, .int .i64 0, .bool false, .int .i64 0, .int .i64 0, .int .i64 0, .bool false, .int .i64 0, .int .i64 0, .int .i64 0, .bool false, .int .i64 0, .int .i64 0, .int .i64 0, .bool false, .int .i64 0, .int .i64 0, .int .i64 0, .bool false, .int .i64 0, .int .i64 0, .int .i64 0, .bool false, .int .i64 0, .int .i64 0, .int .i64 0, .bool false, .int .i64 0, .int .i64 0, .int .i64 0, .bool false, .int .i64 0, .int .i64 0, .int .i64 0, .bool false, .int .i64 0, .int .i64 0, .int .i64 0, .bool false, .int .i64 0, .int .i64 0, .int .i64 0, .int .i64 0] 31)).heap.size = w.heap.size + 1 + 1 by simp] at z
    exact z
  have hs1 : W1.heap.size = w.heap.size + 3 := by rw [← hW1]; simp
  have B0 := hid b0
  have B1 := hid b1
  have B2 := hid b2
  have HW1 := hid hW1
  have HS1 := hid hs1
  have HB1 := hid hB1
  have Hcall := hid (toTA16 c.twigs_ hc W1)
  have k64 : W1.cell? ⟨w.heap.size, 64, none⟩ = some (.int .i64 c.root_) := by
    have z := b0.1.2 64 (by rw [hl]; omega)
    rw [z, HE.out, List.nil_append, List.getElem?_append_right (by omega), hln]; rfl
  have K64 := hid k64
  clear hW1 b0 b1 b2 hs1 hB1 hc hce k64
  have hz : ∀ w : World, (zeroValue 31).run Try.prog w = .ok (.agg #[.bool false, .int .i64 0, .int .i64 0, .int .i64 0, .bool false, .int .i64 0, .int .i64 0, .int .i64 0, .bool false, .int .i64 0, .int .i64 0, .int .i64 0, .bool false, .int .i64 0, .int .i64 0, .int .i64 0, .bool false, .int .i64 0, .int .i64 0, .int .i64 0, .bool false, .int .i64 0, .int .i64 0, .int .i64 0, .bool false, .int .i64 0, .int .i64 0, .int .i64 0, .bool false, .int .i64 0, .int .i64 0, .int .i64 0, .bool false, .int .i64 0, .int .i64 0, .int .i64 0, .bool false, .int .i64 0, .int .i64 0, .int .i64 0, .bool false, .int .i64 0, .int .i64 0, .int .i64 0, .bool false, .int .i64 0, .int .i64 0, .int .i64 0, .bool false, .int .i64 0, .int .i64 0, .int .i64 0, .bool false, .int .i64 0, .int .i64 0, .int .i64 0, .bool false, .int .i64 0, .int .i64 0, .int .i64 0, .bool false, .int .i64 0, .int .i64 0, .int .i64 0, .int .i64 0]) w := fun w => zero_run w (by kernel_rfl)
  go_enter Try.func12, Try.ntmps12
  go_wp2_with (refine wpList_load_part rfl 24 _ rfl w.heap.size [] (c.twigs_.flatMap Twig.enc) [.int .i64 c.root_] ce (by rw [HW1.out]; exact B0.out) HE.out rfl _ Try.underlying24 rfl (by rw [hln]; kernel_rfl) ?_)
  rw [HW1.out]
  refine Hcall.out.mono ?_
  rintro e w2 ⟨rfl, b2⟩
  have hs2 := b2.size
  have B02 := hid (B0.out.below b2)
  have B12 := hid (B1.out.below b2)
  have B22 := hid (B2.out.below b2)
  have HB2 := hid (HB1.out.trans (b2.mono HB1.out.size))
  have K2 := hid ((b2.cell (p := ⟨w.heap.size, 64, none⟩) (B0.out.1.1)).trans K64.out)
  have hS1 := HS1.out
  clear b2 B0 B1 B2 Hcall
  go_wp2_with (refine wpList_store_part rfl 29 _ _ rfl (w.heap.size + 1 + 1) [] [.bool false, .int .i64 0, .int .i64 0, .int .i64 0, .bool false, .int .i64 0, .int .i64 0, .int .i64 0, .bool false, .int .i64 0, .int .i64 0, .int .i64 0, .bool false, .int .i64 0, .int .i64 0, .int .i64 0, .bool false, .int .i64 0, .int .i64 0, .int .i64 0, .bool false, .int .i64 0, .int .i64 0, .int .i64 0, .bool false, .int .i64 0, .int .i64 0, .int .i64 0, .bool false, .int .i64 0, .int .i64 0, .int .i64 0, .bool false, .int .i64 0, .int .i64 0, .int .i64 0, .bool false, .int .i64 0, .int .i64 0, .int .i64 0, .bool false, .int .i64 0, .int .i64 0, .int .i64 0, .bool false, .int .i64 0, .int .i64 0, .int .i64 0, .bool false, .int .i64 0, .int .i64 0, .int .i64 0, .bool false, .int .i64 0, .int .i64 0, .int .i64 0, .bool false, .int .i64 0, .int .i64 0, .int .i64 0, .bool false, .int .i64 0, .int .i64 0, .int .i64 0] [.int .i64 0] (c.twigs_.flatMap Twig.enc) [.bool false, .int .i64 0, .int .i64 0, .int .i64 0, .bool false, .int .i64 0, .int .i64 0, .int .i64 0, .bool false, .int .i64 0, .int .i64 0, .int .i64 0, .bool false, .int .i64 0, .int .i64 0, .int .i64 0, .bool false, .int .i64 0, .int .i64 0, .int .i64 0, .bool false, .int .i64 0, .int .i64 0, .int .i64 0, .bool false, .int .i64 0, .int .i64 0, .int .i64 0, .bool false, .int .i64 0, .int .i64 0, .int .i64 0, .bool false, .int .i64 0, .int .i64 0, .int .i64 0, .bool false, .int .i64 0, .int .i64 0, .int .i64 0, .bool false, .int .i64 0, .int .i64 0, .int .i64 0, .bool false, .int .i64 0, .int .i64 0, .int .i64 0, .bool false, .int .i64 0, .int .i64 0, .int .i64 0, .bool false, .int .i64 0, .int .i64 0, .int .i64 0, .bool false, .int .i64 0, .int .i64 0, .int .i64 0, .bool false, .int .i64 0, .int .i64 0, .int .i64 0, .int .i64 0] B22.out rfl rfl rfl (by rw [hln]; rfl) (by rw [hln]; kernel_rfl) hone64 ?_)
  intro w3 o3 C3
  have hs3 := C3.size
  have B23 := hid o3
  have B03 := hid (B02.out.chg C3 (by omega))
  have B13 := hid (B12.out.chg C3 (by omega))
  have HB3 := hid (below_chg HB2.out C3 HB2.out.size (fun b hb => by omega))
  have e64 : w3.cell? ⟨w.heap.size, 64, none⟩ = some (.int .i64 c.root_) := (cell_chg C3 B02.out.1.1 (by omega)).trans K2.out
  have o3 : BoxF w3 (w.heap.size + 1 + 1) (c.twigs_.flatMap Twig.enc ++ [Value.int .i64 0]) := o3
  have hln9 : (c.twigs_.flatMap Twig.enc ++ [Value.int .i64 0]).length = 65 := by simp only [List.length_append, hln]; rfl
  have d64 : w3.cell? ⟨w.heap.size + 1 + 1, 64, none⟩ = some (.int .i64 0) := by
    have z := o3.1.2 64 (by rw [hln9]; omega)
    rw [z, List.getElem?_append_right (by omega), hln]; rfl
  have f64 : w3.frozen? ⟨w.heap.size + 1 + 1, 64, none⟩ = false := o3.2 64 (by rw [hln9]; omega)
  have B24 := hid (show BoxF (w3.setCell ⟨w.heap.size + 1 + 1, 64, none⟩ (.int .i64 c.root_)) (w.heap.size + 1 + 1) ce by
    have z := o3.set 64 (by rw [hln9]; omega) (.int .i64 c.root_)
    rw [show (c.twigs_.flatMap Twig.enc ++ [Value.int .i64 0]).set 64 (.int .i64 c.root_) = ce by rw [HE.out, List.nil_append, List.set_append_right _ _ (by omega), hln]; rfl] at z
    exact z)
  have B14 := hid (B13.out.other ⟨w.heap.size + 1 + 1, 64, none⟩ (.int .i64 c.root_) (by show ¬ w.heap.size + 1 + 1 = w.heap.size + 1; omega))
  have HB4 := hid (HB3.out.setCell (p := ⟨w.heap.size + 1 + 1, 64, none⟩) (by show w.heap.size ≤ w.heap.size + 1 + 1; omega) (.int .i64 c.root_))
  obtain ⟨X, hX⟩ : ∃ X, w3.setCell ⟨w.heap.size + 1 + 1, 64, none⟩ (.int .i64 c.root_) = X := ⟨_, rfl⟩
  rw [hX] at B24 B14 HB4
  have HX := hid hX
  clear o3 C3 B23 B03 B13 HB3 hln9
  go_wp2_with (first | (refine wpList_load_box rfl 31 _ rfl (w.heap.size + 1 + 1) ce (by first | exact B24.out.1 | (rw [HX.out]; exact B24.out.1)) rfl _ Try.underlying31 rfl (by rw [hl]; kernel_rfl) ?_) | (refine wpList_store_box rfl 31 _ _ rfl (w.heap.size + 1) [.bool false, .int .i64 0, .int .i64 0, .int .i64 0, .bool false, .int .i64 0, .int .i64 0, .int .i64 0, .bool false, .int .i64 0, .int .i64 0, .int .i64 0, .bool false, .int .i64 0, .int .i64 0, .int .i64 0, .bool false, .int .i64 0, .int .i64 0, .int .i64 0, .bool false, .int .i64 0, .int .i64 0, .int .i64 0, .bool false, .int .i64 0, .int .i64 0, .int .i64 0, .bool false, .int .i64 0, .int .i64 0, .int .i64 0, .bool false, .int .i64 0, .int .i64 0, .int .i64 0, .bool false, .int .i64 0, .int .i64 0, .int .i64 0, .bool false, .int .i64 0, .int .i64 0, .int .i64 0, .bool false, .int .i64 0, .int .i64 0, .int .i64 0, .bool false, .int .i64 0, .int .i64 0, .int .i64 0, .bool false, .int .i64 0, .int .i64 0, .int .i64 0, .bool false, .int .i64 0, .int .i64 0, .int .i64 0, .bool false, .int .i64 0, .int .i64 0, .int .i64 0, .int .i64 0] ce (by first | exact B14.out | (rw [HX.out]; exact B14.out)) rfl rfl (by rw [hl]; rfl) (by rw [hl]; kernel_rfl) hone ?_))
  try rw [HX.out]
  intro w9 o9 C9
  have O9 := hid o9
  have HB9 := hid (below_chg HB4.out C9 HB4.out.size (fun b hb => by omega))
  clear o9 C9
  go_wp2
  exact bodyPost_ret (results_box rfl _ _ (w.heap.size + 1) ce rfl O9.out _ Try.underlying31 rfl (by rw [hl]; kernel_rfl)) rfl ⟨rfl, HB9.out⟩
end Go.Proofs.Ytcjeafhejkppeaa
