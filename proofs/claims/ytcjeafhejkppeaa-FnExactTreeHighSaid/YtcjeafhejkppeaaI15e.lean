/- Chapter 15's program: TreeHigh. -/
import Derived.Test.YtcjeafhejkppeaaI15o
import Derived.Test.YtcjeafhejkppeaaS15e
namespace Go.Proofs.Ytcjeafhejkppeaa
set_option maxRecDepth 100000
open Go.RowKit Go.Proofs Go.Own
open Go Go.BigFrame
set_option linter.unusedVariables false
set_option linter.unusedSimpArgs false
def HighI (L : List Twig) (root : Int) (f : Nat) : Prop := ∀ (b l : Nat) (p : Int) (xs : List Int) (w : World), BoxF w b (TreeD.enc ⟨L, root⟩) → w.cell? ⟨b, l, none⟩ = some (.int .i64 p) → Part L p xs → xs.length ≤ f →
  Calls Try.prog 49 #[partV b l] w fun e w' => e = .returned (.int .i64 (highT L f p)) ∧ Below w.heap.size w w'
set_option maxHeartbeats 4000000 in
theorem impl_high_step (L : List Twig) (hL : L.length = 16) (root : Int) (f : Nat) (hf16 : f ≤ 16) (ih : ∀ g, g + 1 = f → HighI L root g) : HighI L root f := by
  intro b l p xs w hbox hc hp hx
  have hb : b < w.heap.size := hbox.1.1
  obtain ⟨W1, hW1⟩ : ∃ X, w.alloc (.cells #[.pointer (some ⟨b, 0, none⟩), .pointer (some ⟨b, l, none⟩)] 60) = X := ⟨_, rfl⟩
  have hB1 : Below w.heap.size w W1 := by rw [← hW1]; exact (Below.refl _ _).alloc (Nat.le_refl _) _
  have bp : Box W1 w.heap.size [.pointer (some ⟨b, 0, none⟩), .pointer (some ⟨b, l, none⟩)] := by rw [← hW1]; exact Box.alloc w #[.pointer (some ⟨b, 0, none⟩), .pointer (some ⟨b, l, none⟩)] 60
  have d0 := Ext.cell bp.1 (show W1.cell? ⟨w.heap.size, 0, none⟩ = some (.pointer (some ⟨b, 0, none⟩)) from bp.2 0 (by simp))
  have d1 := Ext.cell bp.1 (show W1.cell? ⟨w.heap.size, 1, none⟩ = some (.pointer (some ⟨b, l, none⟩)) from bp.2 1 (by simp))
  have hb1 : b < W1.heap.size := by have := hB1.size; omega
  have hlt := Ext.lt hb1
  have hcl := Ext.cell hb1 ((hB1.cell (p := ⟨b, l, none⟩) hb).trans hc)
  have HBX := hid (fun (E : Ext W1) => ((hbox.below hB1).below E.h))
  have HW1 := hid hW1
  have HB1 := hid hB1
  clear hW1 hB1 bp hc
  unfold partV
  by_cases hq : p = -1
  · subst hq
    have HR := hid (show highT L f (-1) = 0 by cases f <;> simp [highT])
    go_enter Try.func49, Try.ntmps49
    go_upto_region 1 with fail
    rw [HW1.out]
    refine wp_region_ext0 W1 (Below.refl _ _) ?_
    (try dsimp only [List.append])
    (repeat (go_big_quiet_step ((go_at_call 57; exact call_ext _ (impl_isNone b l _ _ (hcl _) (hlt _))))))
    refine wpQuiet_nil ?_; rintro _ ⟨E, rfl⟩
    go_wp2
    go_ret
    exact ⟨by rw [HR.out]; rfl, HB1.out.trans (E.h.mono HB1.out.size)⟩
  · obtain ⟨ys, zs, hi, hu, h3, h4, rfl⟩ := hp.inv hq
    simp only [List.length_append, List.length_cons] at hx
    obtain ⟨k, rfl, hk16⟩ : ∃ k : Nat, p = (k : Int) ∧ k < 16 := by
      have := inB_nn hi
      exact ⟨p.toNat, by omega, by omega⟩
    obtain ⟨g, rfl⟩ : ∃ g, f = g + 1 := by
      cases f with
      | zero => omega
      | succ g => exact ⟨g, rfl⟩
    have hq2 : decide ((k : Int) = -1) = false := decide_eq_false hq
    have HR := hid (show highT L (g+1) k = 1 + max (highT L g (tw L k).left_) (highT L g (tw L k).right_) by rw [highT, if_neg (by omega)])
    have HI := hid (ih g rfl)
    have hb1' := highT_le L g (tw L k).left_
    have hb2' := highT_le L g (tw L k).right_
    obtain ⟨c0, c1, c2, c3⟩ := tree_at (hbox.below HB1.out) hL k hk16
    have HC2 := hid (Ext.cell hb1 c2)
    have HC3 := hid (Ext.cell hb1 c3)
    obtain ⟨X, hX⟩ : ∃ X, tw L (k : Int) = X := ⟨_, rfl⟩
    rw [hX] at HC2 HC3 HR hb1' hb2' h3 h4
    obtain ⟨xu, xk, xl, xr⟩ := X
    dsimp only at HC2 HC3 HR hb1' hb2' h3 h4
    have hm1 : 0 ≤ max (highT L g xl) (highT L g xr) := by omega
    have hm2 : max (highT L g xl) (highT L g xr) ≤ 16 := by omega
    clear hX hi hu ih hp hq c0 c1 c2 c3 hbox
    go_enter Try.func49, Try.ntmps49
    go_upto_region 1 with fail
    rw [HW1.out]
    refine wp_region_ext0 W1 (Below.refl _ _) ?_
    (try dsimp only [List.append])
    (repeat (go_big_quiet_step ((go_at_call 57; exact call_ext _ (impl_isNone b l _ _ (hcl _) (hlt _))))))
    refine wpQuiet_nil ?_; rintro _ ⟨E, rfl⟩
    go_upto_region 3 with fail
    refine wp_region_ext W1 E.h (by kernel_rfl) (by kernel_rfl) ?_
    (try dsimp only [List.append])
    (repeat (go_big_quiet_step (first | (go_at_call 59; exact call_ext _ (impl_left b l k _ (hcl _) (hlt _) hk16)) | (go_at_call 60; exact call_ext _ (impl_right b l k _ (hcl _) (hlt _) hk16)) | (go_at_call 49; exact call_ext _ (HI.out _ _ _ _ _ (HBX.out _) (by first | exact HC2.out _ | exact HC3.out _) (by assumption) (by omega))))))
    refine wpQuiet_nil ?_; rintro _ ⟨E, rfl⟩
    go_wp2
    all_goals go_ret
    · exact ⟨by rw [HR.out, Int.max_eq_right (by omega)]; rfl, HB1.out.trans (E.h.mono HB1.out.size)⟩
    · exact ⟨by rw [HR.out, Int.max_eq_left (by omega)]; rfl, HB1.out.trans (E.h.mono HB1.out.size)⟩
theorem impl_high0 (L : List Twig) (hL : L.length = 16) (root : Int) : ∀ (f : Nat), f ≤ 16 → HighI L root f
  | 0, h => impl_high_step L hL root 0 h (fun g h => by omega)
  | f+1, h => impl_high_step L hL root (f+1) h (fun g e => by obtain rfl : g = f := by omega
                                                              exact impl_high0 L hL root g (by omega))
set_option maxHeartbeats 4000000 in
theorem impl_TreeHigh0 (c : TreeD) (hc : c.twigs_.length = 16) (w : World) :
    Calls Try.prog 29 #[.agg c.enc.toArray] w fun e w' => e = .returned (.int .i64 (highC c)) ∧ Below w.heap.size w w' := by
  obtain ⟨L, root⟩ := c
  dsimp only at hc
  change Calls Try.prog 29 #[.agg (encT L root).toArray] w _
  have hl : (encT L root).length = 65 := tree_len (c := ⟨L, root⟩) hc
  have hl2 : (encT L root).toArray.size = 65 := by rw [List.size_toArray, hl]
  have HOK0 := hid (fun (W : World) => impl_TreeOk0 ⟨L, root⟩ hc W)
  rw [show (TreeD.enc ⟨L, root⟩) = encT L root from rfl] at HOK0
  obtain ⟨W1, hW1⟩ : ∃ X, w.alloc (.cells (encT L root).toArray 31) = X := ⟨_, rfl⟩
  have HB1 := hid (show Below w.heap.size w W1 by rw [← hW1]; exact (Below.refl _ _).alloc (Nat.le_refl _) _)
  have B1 := hid (show BoxF W1 w.heap.size (encT L root) by rw [← hW1]; exact BoxF.alloc w (encT L root).toArray 31)
  have HW1 := hid hW1
  clear hW1
  cases hok : treeOk ⟨L, root⟩ with
  | false =>
    have HR := hid (show highC ⟨L, root⟩ = -1 by unfold highC; rw [hok]; rfl)
    rw [hok] at HOK0
    clear hok
    go_enter Try.func29, Try.ntmps29
    go_upto_region 1 with fail
    rw [HW1.out]
    go_wp2_with (first | (refine wpList_load_boxg rfl 31 _ rfl w.heap.size (encT L root) (by exact B1.out.1) rfl _ Try.underlying31 rfl (by rw [hl]; kernel_rfl) ?_) | (go_at_call 13; refine (HOK0.out _).mono ?_; rintro e w2 ⟨rfl, b2⟩; have HB2 := hid (HB1.out.trans (b2.mono HB1.out.size)); clear b2))
    go_ret
    exact ⟨by rw [HR.out]; rfl, HB2.out⟩
  | true =>
    obtain ⟨ps, hp, hp16⟩ := treeOk_part (t := ⟨L, root⟩) hc hok
    have HR := hid (show highC ⟨L, root⟩ = highT L 16 root by unfold highC; rw [hok]; rfl)
    have HH := hid (fun (W : World) (h : BoxF W w.heap.size (encT L root)) => impl_high0 L hc root 16 (Nat.le_refl _) w.heap.size 64 root ps W h (tree_root h hc) hp hp16)
    rw [hok] at HOK0
    clear hok hp
    go_enter Try.func29, Try.ntmps29
    go_upto_region 1 with fail
    rw [HW1.out]
    go_wp2_with (first | (refine wpList_load_boxg rfl 31 _ rfl w.heap.size (encT L root) (by exact B1.out.1) rfl _ Try.underlying31 rfl (by rw [hl]; kernel_rfl) ?_) | (go_at_call 13; refine (HOK0.out _).mono ?_; rintro e w2 ⟨rfl, b2⟩; have HB2 := hid (HB1.out.trans (b2.mono HB1.out.size)); have B1 := hid (B1.out.below b2); clear b2) | (go_at_call 38; refine (impl_whole _ _).mono ?_; rintro e w2 ⟨rfl, b2⟩; have HB2 := hid (HB2.out.trans (b2.mono HB2.out.size)); have B1 := hid (B1.out.below b2); clear b2) | (go_at_call 49; refine (HH.out _ B1.out).mono ?_; rintro e w3 ⟨rfl, b3⟩; have HB3 := hid (HB2.out.trans (b3.mono HB2.out.size)); clear b3))
    go_ret
    exact ⟨by rw [HR.out]; rfl, HB3.out⟩
end Go.Proofs.Ytcjeafhejkppeaa
