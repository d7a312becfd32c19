/- Chapter 15's program: TreeFind. -/
import Derived.Test.YtcjeafhejkppeaaI15w
namespace Go.Proofs.Ytcjeafhejkppeaa
set_option maxRecDepth 100000
open Go.RowKit Go.Proofs Go.Own
open Go Go.BigFrame
set_option linter.unusedVariables false
set_option linter.unusedSimpArgs false
theorem walkI_eq (c : TreeD) (key : Int) : walkI c key = if (treeOk c && isVal key) = true then (linkOf c.twigs_ key (if (wayC c key).2.1 = true then (wayC c key).1.dropLast else (wayC c key).1), (wayC c key).1.length, codeW (wayC c key)) else (64, 0, 1) := by
  unfold walkI
  split
  · exact walkP_way c.twigs_ key 8 c.root_ []
  · rfl
theorem walkI_find (c : TreeD) (key : Int) : (((walkI c key).2.1 : Int), (walkI c key).2.2) = findC c key := by
  rw [walkI_eq]; unfold findC
  split <;> rfl
set_option maxHeartbeats 4000000 in
theorem impl_TreeFind0 (c : TreeD) (hc : c.twigs_.length = 16) (key : Int) (w : World) :
    Calls Try.prog 18 #[.agg c.enc.toArray, .int .i64 key] w fun e w' => e = .returned (.tuple #[.int .i64 (findC c key).1, .int .i64 (findC c key).2]) ∧ Below w.heap.size w w' := by
  have hl := tree_len hc
  have hl2 : c.enc.toArray.size = 65 := by rw [List.size_toArray, hl]
  obtain ⟨W1, hW1⟩ : ∃ X, w.alloc (.cells c.enc.toArray 31) = X := ⟨_, rfl⟩
  have hB1 : Below w.heap.size w W1 := by rw [← hW1]; exact (Below.refl _ _).alloc (Nat.le_refl _) _
  have B1 : BoxF W1 w.heap.size c.enc := by rw [← hW1]; exact BoxF.alloc w c.enc.toArray 31
  have HWK := hid (impl_walkTo0 c hc key w.heap.size W1 B1)
  have HF := hid (walkI_find c key)
  obtain ⟨⟨l, n, r⟩, hR⟩ : ∃ r, walkI c key = r := ⟨_, rfl⟩
  rw [hR] at HWK HF
  dsimp only at HWK HF
  have HB1 := hid hB1
  have HW1 := hid hW1
  clear hW1 hB1 B1 hR
  go_enter Try.func18, Try.ntmps18
  go_upto_region 1 with fail
  rw [HW1.out]
  go_upto_region 2 with (go_at_call 42; refine HWK.out.mono ?_; rintro e w2 ⟨rfl, b2⟩; have HB2 := hid (HB1.out.trans (b2.mono HB1.out.size)); clear b2)
  have HB3 := hid (show Below w.heap.size w (w2.alloc (.cells #[.pointer (some ⟨w.heap.size, 0, none⟩), .pointer (some ⟨w.heap.size, l, none⟩), .int .i64 (n : Int)] 67)) from HB2.out.alloc HB2.out.size _)
  go_wp2
  refine bodyPost_ret (results_t2 rfl _ _) rfl ?_
  rw [← HF.out]
  exact ⟨rfl, HB3.out⟩
end Go.Proofs.Ytcjeafhejkppeaa
