/- Chapter 15's program: the count of a part. -/
import Derived.Test.YtcjeafhejkppeaaI15
namespace Go.Proofs.Ytcjeafhejkppeaa
set_option maxRecDepth 100000
open Go.RowKit Go.Proofs Go.Own
open Go Go.BigFrame
set_option linter.unusedVariables false
set_option linter.unusedSimpArgs false
theorem impl_isTwigLink (p : Int) (w : World) : Calls Try.prog 36 #[.int .i64 p] w fun e w' => e = .returned (.bool (linkB p)) ∧ w = w' := by
  unfold linkB inB
  by_cases h : p = -1
  · subst h
    go_enter Try.func36, Try.ntmps36
    go_wp2
    go_ret
    exact ⟨rfl, rfl⟩
  · by_cases h1 : 0 ≤ p
    · by_cases h2 : p ≤ 15
      · have h3 : p < 16 := by omega
        go_enter Try.func36, Try.ntmps36
        go_wp2
        go_ret
        exact ⟨by simp [show (p == -1) = false by simpa using h, h]; omega, rfl⟩
      · have h3 : ¬ p < 16 := by omega
        go_enter Try.func36, Try.ntmps36
        go_wp2
        go_ret
        exact ⟨by simp [show (p == -1) = false by simpa using h, h]; omega, rfl⟩
    · go_enter Try.func36, Try.ntmps36
      go_wp2
      go_ret
      exact ⟨by simp [show (p == -1) = false by simpa using h, h]; omega, rfl⟩
theorem impl_isTwigLinkIs (p : Int) (r : Bool) (w : World) (e : linkB p = r) : Calls Try.prog 36 #[.int .i64 p] w fun e w' => e = .returned (.bool r) ∧ w = w' := by subst e; exact impl_isTwigLink p w
theorem cntT_lt (L : List Twig) : ∀ (f : Nat) (p a b : Int), (cntT L f p a b).1 < 2 ^ f
  | 0, p, a, b => by simp [cntT]
  | f+1, p, a, b => by
    unfold cntT
    split
    · show 0 < _; exact Nat.pos_of_ne_zero (by simp)
    · split
      · have h1 := cntT_lt L f (tw L p).left_ a (tw L p).key_
        have h2 := cntT_lt L f (tw L p).right_ (tw L p).key_ b
        show _ + 1 + _ < _
        rw [Nat.pow_succ]; omega
      · show 0 < _; exact Nat.pos_of_ne_zero (by simp)
def CountAt (L : List Twig) (root : Int) (f : Nat) : Prop := ∀ (b l : Nat) (p a d : Int) (w : World), BoxF w b (TreeD.enc ⟨L, root⟩) → w.cell? ⟨b, l, none⟩ = some (.int .i64 p) → linkB p = true → betT L a d ≤ f → f ≤ 16 →
  Calls Try.prog 39 #[partV b l, .int .i64 a, .int .i64 d] w fun e w' => e = .returned (.tuple #[.int .i64 ((cntT L f p a d).1 : Int), .bool (cntT L f p a d).2]) ∧ Below w.heap.size w w'
set_option maxHeartbeats 4000000 in
theorem impl_count_step (L : List Twig) (hL : L.length = 16) (hA : ∀ x ∈ L, x.used_ = true → linkB x.left_ = true ∧ linkB x.right_ = true) (root : Int) (f : Nat) (ih : ∀ g, g + 1 = f → CountAt L root g) : CountAt L root f := by
  intro b l p a d w hbox hc hp hf hf16
  have hb : b < w.heap.size := hbox.1.1
  obtain ⟨W1, hW1⟩ : ∃ X, w.alloc (.cells #[.pointer (some ⟨b, 0, none⟩), .pointer (some ⟨b, l, none⟩)] 60) = X := ⟨_, rfl⟩
  have hB1 : Below w.heap.size w W1 := by rw [← hW1]; exact (Below.refl _ _).alloc (Nat.le_refl _) _
  have bp : Box W1 w.heap.size [.pointer (some ⟨b, 0, none⟩), .pointer (some ⟨b, l, none⟩)] := by rw [← hW1]; exact Box.alloc w #[.pointer (some ⟨b, 0, none⟩), .pointer (some ⟨b, l, none⟩)] 60
  have d0 := Ext.cell bp.1 (show W1.cell? ⟨w.heap.size, 0, none⟩ = some (.pointer (some ⟨b, 0, none⟩)) from bp.2 0 (by simp))
  have d1 := Ext.cell bp.1 (show W1.cell? ⟨w.heap.size, 1, none⟩ = some (.pointer (some ⟨b, l, none⟩)) from bp.2 1 (by simp))
  have hb1 : b < W1.heap.size := by have := hB1.size; omega
  have hlt := Ext.lt hb1
  have hcl := Ext.cell hb1 ((hB1.cell (p := ⟨b, l, none⟩) hb).trans hc)
  have HBX := hid (fun (E : Ext W1) => ((hbox.below hB1).below E.h))
  have HW1 := hid hW1
  have HB1 := hid hB1
  clear hW1 hB1 bp hc
  unfold partV
  by_cases hq : p = -1
  · subst hq
    have HK := hid (show cntT L f (-1) a d = (0, true) by cases f <;> simp [cntT])
    (go_enter Try.func39, Try.ntmps39; go_upto_region 1 with fail; rw [HW1.out]; refine wp_region_ext0 W1 (Below.refl _ _) ?_; (try dsimp only [List.append]); (repeat (go_big_quiet_step (first | (go_at_call 57; exact call_ext _ (impl_isNone b l _ _ (hcl _) (hlt _)))))); refine wpQuiet_nil ?_; rintro _ ⟨E, rfl⟩)
    go_wp2
    (refine bodyPost_ret (results_t2 rfl _ _) rfl ?_; rw [HK.out]; exact ⟨by first | rfl | simp, HB1.out.trans (E.h.mono HB1.out.size)⟩)
  · have hpl : inB p 0 15 = true := by unfold linkB at hp; simpa [hq] using hp
    obtain ⟨k, rfl, hk16⟩ : ∃ k : Nat, p = (k : Int) ∧ k < 16 := by
      have := inB_nn hpl
      exact ⟨p.toNat, by omega, by omega⟩
    have hq2 : decide ((k : Int) = -1) = false := decide_eq_false hq
    obtain ⟨c0, c1, c2, c3⟩ := tree_at (hbox.below HB1.out) hL k hk16
    have c0 := Ext.cell hb1 c0
    have c1 := Ext.cell hb1 c1
    have HLK := hid (fun (hu : (tw L (k : Int)).used_ = true) => hA _ (List.getElem_mem (pl_lt hL hpl)) (by rw [← tw_eq L k (pl_lt hL hpl)]; exact hu))
    rw [← tw_eq L k (pl_lt hL hpl)] at HLK
    have HBT := hid (fun (hu : (tw L (k : Int)).used_ = true) => betT_lt L k (pl_lt hL hpl) hu a d)
    have HCT := hid (show ∀ g, cntT L (g+1) k a d = if ((tw L (k : Int)).used_ && decide (a < (tw L (k : Int)).key_) && decide ((tw L (k : Int)).key_ < d)) = true then ((cntT L g (tw L (k : Int)).left_ a (tw L (k : Int)).key_).1 + 1 + (cntT L g (tw L (k : Int)).right_ (tw L (k : Int)).key_ d).1, (cntT L g (tw L (k : Int)).left_ a (tw L (k : Int)).key_).2 && (cntT L g (tw L (k : Int)).right_ (tw L (k : Int)).key_ d).2) else (0, false) from fun g => by rw [cntT, if_neg hq])
    have HC0 := hid (show cntT L 0 k a d = (0, false) by simp [cntT, hq])
    have HC2 := hid c2
    have HC3 := hid c3
    clear hA hp c2 c3 hpl hbox
    obtain ⟨X, hX⟩ : ∃ X, tw L (k : Int) = X := ⟨_, rfl⟩
    rw [hX] at c0 c1 HC2 HC3 HLK HBT HCT
    obtain ⟨xu, xk, xl, xr⟩ := X
    dsimp only at c0 c1 HC2 HC3 HLK HBT HCT
    clear hX hq
    cases xu with
    | false =>
      have HK := hid (show cntT L f k a d = (0, false) by cases f with | zero => exact HC0.out | succ g => rw [HCT.out g]; simp)
      (go_enter Try.func39, Try.ntmps39; go_upto_region 1 with fail; rw [HW1.out]; refine wp_region_ext0 W1 (Below.refl _ _) ?_; (try dsimp only [List.append]); (repeat (go_big_quiet_step (first | (go_at_call 57; exact call_ext _ (impl_isNone b l _ _ (hcl _) (hlt _)))))); refine wpQuiet_nil ?_; rintro _ ⟨E, rfl⟩)
      go_upto_region 3 with fail
      (refine wp_region_ext0 W1 E.h ?_; (try dsimp only [List.append]); (repeat (go_big_quiet_step (first | (go_at_call 57; exact call_ext _ (impl_isNone b l _ _ (hcl _) (hlt _))) | (go_at_call 58; exact call_ext _ (impl_twig b l k _ (hcl _) (hlt _) hk16)) | (go_at_call 59; exact call_ext _ (impl_left b l k _ (hcl _) (hlt _) hk16)) | (go_at_call 60; exact call_ext _ (impl_right b l k _ (hcl _) (hlt _) hk16))))); refine wpQuiet_nil ?_; rintro _ ⟨E, rfl⟩)
      go_upto_region 4 with fail
      (refine wp_region_ext0 W1 E.h ?_; (try dsimp only [List.append]); (repeat (go_big_quiet_step (first | (go_at_call 57; exact call_ext _ (impl_isNone b l _ _ (hcl _) (hlt _))) | (go_at_call 58; exact call_ext _ (impl_twig b l k _ (hcl _) (hlt _) hk16)) | (go_at_call 59; exact call_ext _ (impl_left b l k _ (hcl _) (hlt _) hk16)) | (go_at_call 60; exact call_ext _ (impl_right b l k _ (hcl _) (hlt _) hk16))))); refine wpQuiet_nil ?_; rintro _ ⟨E, rfl⟩)
      go_wp2
      (refine bodyPost_ret (results_t2 rfl _ _) rfl ?_; rw [HK.out]; exact ⟨by first | rfl | simp, HB1.out.trans (E.h.mono HB1.out.size)⟩)
    | true =>
      by_cases h1 : xk ≤ a
      · have HK := hid (show cntT L f k a d = (0, false) by cases f with | zero => exact HC0.out | succ g => rw [HCT.out g, if_neg (by simp; omega)])
        (go_enter Try.func39, Try.ntmps39; go_upto_region 1 with fail; rw [HW1.out]; refine wp_region_ext0 W1 (Below.refl _ _) ?_; (try dsimp only [List.append]); (repeat (go_big_quiet_step (first | (go_at_call 57; exact call_ext _ (impl_isNone b l _ _ (hcl _) (hlt _)))))); refine wpQuiet_nil ?_; rintro _ ⟨E, rfl⟩)
        go_upto_region 3 with fail
        (refine wp_region_ext0 W1 E.h ?_; (try dsimp only [List.append]); (repeat (go_big_quiet_step (first | (go_at_call 57; exact call_ext _ (impl_isNone b l _ _ (hcl _) (hlt _))) | (go_at_call 58; exact call_ext _ (impl_twig b l k _ (hcl _) (hlt _) hk16)) | (go_at_call 59; exact call_ext _ (impl_left b l k _ (hcl _) (hlt _) hk16)) | (go_at_call 60; exact call_ext _ (impl_right b l k _ (hcl _) (hlt _) hk16))))); refine wpQuiet_nil ?_; rintro _ ⟨E, rfl⟩)
        go_upto_region 4 with fail
        (refine wp_region_ext0 W1 E.h ?_; (try dsimp only [List.append]); (repeat (go_big_quiet_step (first | (go_at_call 57; exact call_ext _ (impl_isNone b l _ _ (hcl _) (hlt _))) | (go_at_call 58; exact call_ext _ (impl_twig b l k _ (hcl _) (hlt _) hk16)) | (go_at_call 59; exact call_ext _ (impl_left b l k _ (hcl _) (hlt _) hk16)) | (go_at_call 60; exact call_ext _ (impl_right b l k _ (hcl _) (hlt _) hk16))))); refine wpQuiet_nil ?_; rintro _ ⟨E, rfl⟩)
        go_wp2
        (refine bodyPost_ret (results_t2 rfl _ _) rfl ?_; rw [HK.out]; exact ⟨by first | rfl | simp, HB1.out.trans (E.h.mono HB1.out.size)⟩)
      · by_cases h2 : xk ≥ d
        · have HK := hid (show cntT L f k a d = (0, false) by cases f with | zero => exact HC0.out | succ g => rw [HCT.out g, if_neg (by simp; omega)])
          (go_enter Try.func39, Try.ntmps39; go_upto_region 1 with fail; rw [HW1.out]; refine wp_region_ext0 W1 (Below.refl _ _) ?_; (try dsimp only [List.append]); (repeat (go_big_quiet_step (first | (go_at_call 57; exact call_ext _ (impl_isNone b l _ _ (hcl _) (hlt _)))))); refine wpQuiet_nil ?_; rintro _ ⟨E, rfl⟩)
          go_upto_region 3 with fail
          (refine wp_region_ext0 W1 E.h ?_; (try dsimp only [List.append]); (repeat (go_big_quiet_step (first | (go_at_call 57; exact call_ext _ (impl_isNone b l _ _ (hcl _) (hlt _))) | (go_at_call 58; exact call_ext _ (impl_twig b l k _ (hcl _) (hlt _) hk16)) | (go_at_call 59; exact call_ext _ (impl_left b l k _ (hcl _) (hlt _) hk16)) | (go_at_call 60; exact call_ext _ (impl_right b l k _ (hcl _) (hlt _) hk16))))); refine wpQuiet_nil ?_; rintro _ ⟨E, rfl⟩)
          go_upto_region 4 with fail
          (refine wp_region_ext0 W1 E.h ?_; (try dsimp only [List.append]); (repeat (go_big_quiet_step (first | (go_at_call 57; exact call_ext _ (impl_isNone b l _ _ (hcl _) (hlt _))) | (go_at_call 58; exact call_ext _ (impl_twig b l k _ (hcl _) (hlt _) hk16)) | (go_at_call 59; exact call_ext _ (impl_left b l k _ (hcl _) (hlt _) hk16)) | (go_at_call 60; exact call_ext _ (impl_right b l k _ (hcl _) (hlt _) hk16))))); refine wpQuiet_nil ?_; rintro _ ⟨E, rfl⟩)
          go_wp2
          (refine bodyPost_ret (results_t2 rfl _ _) rfl ?_; rw [HK.out]; exact ⟨by first | rfl | simp, HB1.out.trans (E.h.mono HB1.out.size)⟩)
        · have hm := HBT.out rfl (by omega) (by omega)
          obtain ⟨g, rfl⟩ : ∃ g, f = g + 1 := by
            cases f with
            | zero => omega
            | succ g => exact ⟨g, rfl⟩
          have HI := hid (ih g rfl)
          have hlk := HLK.out rfl
          have HCL := hid (fun (E : Ext W1) => HI.out b (k * 4 + 2) xl a xk E.w (HBX.out E) ((E.h.cell (p := ⟨b, k * 4 + 2, none⟩) hb1).trans HC2.out) hlk.1 (by omega) (by omega))
          have HCR := hid (fun (E : Ext W1) => HI.out b (k * 4 + 3) xr xk d E.w (HBX.out E) ((E.h.cell (p := ⟨b, k * 4 + 3, none⟩) hb1).trans HC3.out) hlk.2 (by omega) (by omega))
          have HK := hid ((HCT.out g).trans (if_pos (by simp; omega)))
          have b1 := cntT_lt L g xl a xk
          have b2 := cntT_lt L g xr xk d
          have b3 : (2 : Nat) ^ g ≤ 2 ^ 16 := Nat.pow_le_pow_right (by decide) (by omega)
          obtain ⟨⟨n1, o1⟩, hr1⟩ : ∃ r, cntT L g xl a xk = r := ⟨_, rfl⟩
          obtain ⟨⟨n2, o2⟩, hr2⟩ : ∃ r, cntT L g xr xk d = r := ⟨_, rfl⟩
          rw [hr1] at HCL HK b1
          rw [hr2] at HCR HK b2
          dsimp only at HCL HCR HK b1 b2
          have hn1 : n1 < 65536 := by omega
          have hn2 : n2 < 65536 := by omega

          clear hr1 hr2 b1 b2 b3 hm hlk HCT HBT HLK ih hf hf16
          (go_enter Try.func39, Try.ntmps39; go_upto_region 1 with fail; rw [HW1.out]; refine wp_region_ext0 W1 (Below.refl _ _) ?_; (try dsimp only [List.append]); (repeat (go_big_quiet_step (first | (go_at_call 57; exact call_ext _ (impl_isNone b l _ _ (hcl _) (hlt _)))))); refine wpQuiet_nil ?_; rintro _ ⟨E, rfl⟩)
          go_upto_region 3 with fail
          (refine wp_region_ext0 W1 E.h ?_; (try dsimp only [List.append]); (repeat (go_big_quiet_step (first | (go_at_call 57; exact call_ext _ (impl_isNone b l _ _ (hcl _) (hlt _))) | (go_at_call 58; exact call_ext _ (impl_twig b l k _ (hcl _) (hlt _) hk16)) | (go_at_call 59; exact call_ext _ (impl_left b l k _ (hcl _) (hlt _) hk16)) | (go_at_call 60; exact call_ext _ (impl_right b l k _ (hcl _) (hlt _) hk16))))); refine wpQuiet_nil ?_; rintro _ ⟨E, rfl⟩)
          go_upto_region 4 with fail
          (refine wp_region_ext0 W1 E.h ?_; (try dsimp only [List.append]); (repeat (go_big_quiet_step (first | (go_at_call 57; exact call_ext _ (impl_isNone b l _ _ (hcl _) (hlt _))) | (go_at_call 58; exact call_ext _ (impl_twig b l k _ (hcl _) (hlt _) hk16)) | (go_at_call 59; exact call_ext _ (impl_left b l k _ (hcl _) (hlt _) hk16)) | (go_at_call 60; exact call_ext _ (impl_right b l k _ (hcl _) (hlt _) hk16))))); refine wpQuiet_nil ?_; rintro _ ⟨E, rfl⟩)
          go_upto_region 6 with fail
          (refine wp_region_ext W1 E.h (by kernel_rfl) (by kernel_rfl) ?_; (try dsimp only [List.append]); (repeat (go_big_quiet_step (first | (go_at_call 57; exact call_ext _ (impl_isNone b l _ _ (hcl _) (hlt _))) | (go_at_call 58; exact call_ext _ (impl_twig b l k _ (hcl _) (hlt _) hk16)) | (go_at_call 59; exact call_ext _ (impl_left b l k _ (hcl _) (hlt _) hk16)) | (go_at_call 60; exact call_ext _ (impl_right b l k _ (hcl _) (hlt _) hk16)) | (go_at_call 39; exact call_ext _ (HCL.out _))))); refine wpQuiet_nil ?_; rintro _ ⟨E, rfl⟩)
          go_upto_region 7 with fail
          (refine wp_region_ext W1 E.h (by kernel_rfl) (by kernel_rfl) ?_; (try dsimp only [List.append]); (repeat (go_big_quiet_step (first | (go_at_call 57; exact call_ext _ (impl_isNone b l _ _ (hcl _) (hlt _))) | (go_at_call 58; exact call_ext _ (impl_twig b l k _ (hcl _) (hlt _) hk16)) | (go_at_call 59; exact call_ext _ (impl_left b l k _ (hcl _) (hlt _) hk16)) | (go_at_call 60; exact call_ext _ (impl_right b l k _ (hcl _) (hlt _) hk16)) | (go_at_call 39; exact call_ext _ (HCR.out _))))); refine wpQuiet_nil ?_; rintro _ ⟨E, rfl⟩)
          cases o1 with
          | true =>
            go_wp2
            (refine bodyPost_ret (results_t2 rfl _ _) rfl ?_; rw [HK.out]; exact ⟨by first | rfl | simp, HB1.out.trans (E.h.mono HB1.out.size)⟩)
          | false =>
            go_wp2
            (refine bodyPost_ret (results_t2 rfl _ _) rfl ?_; rw [HK.out]; exact ⟨by first | rfl | simp, HB1.out.trans (E.h.mono HB1.out.size)⟩)
theorem impl_count0 (L : List Twig) (hL : L.length = 16) (hA : ∀ x ∈ L, x.used_ = true → linkB x.left_ = true ∧ linkB x.right_ = true) (root : Int) (f : Nat) : CountAt L root f := by
  induction f with
  | zero => exact impl_count_step L hL hA root 0 (fun g h => by omega)
  | succ f ih => exact impl_count_step L hL hA root (f+1) (fun g h => by obtain rfl : g = f := by omega
                                                                         exact ih)
end Go.Proofs.Ytcjeafhejkppeaa
