/- Chapter 15's program: TreeOk. -/
import Derived.Test.YtcjeafhejkppeaaI15c
import Derived.Laws.StructEq
namespace Go.Proofs.Ytcjeafhejkppeaa
set_option maxRecDepth 100000
open Go.RowKit Go.Proofs Go.Own
open Go Go.BigFrame
set_option linter.unusedVariables false
set_option linter.unusedSimpArgs false
theorem wpList_indexA {P : Program} {w : World} {ops : Array Oper} {rest : List Oper} {o : Oper} {a : Act} {Q : Exit → Act → World → Prop} (hgd : o.guard = none) (t : TypeId) (x i : Operand) (ho : o.op = .index t x i)
    (xv iv rv : Value) (hx : a.eval x = xv) (hi : a.eval i = iv) (hrun : ∀ w : World, (Instr.index t xv iv).run P w = .ok rv w) (h : wpList P ops Q rest (a.put o.dst rv) w) : wpList P ops Q (o :: rest) a w := by
  refine wpList_plain hgd fun K hK => ?_
  unfold Oper.wp
  simp [execOp, ho, hx, hi, hrun w, Result.andThen]
  exact hK _ _ h
theorem index_T (L : List Twig) (hL : L.length = 16) (k : Nat) (hk : k < L.length) (w : World) : (Instr.index 29 (.agg (L.flatMap Twig.enc).toArray) (.int .i64 k)).run Try.prog w = .ok (.agg #[.bool L[k].used_, .int .i64 L[k].key_, .int .i64 L[k].left_, .int .i64 L[k].right_]) w := by
  have e := flat_part Twig.enc 4 (fun _ => rfl) L k hk
  have h1 := Try.underlying29
  have h2 := Try.isAgg28
  have h3 := Try.sizeOf28
  have hi : 0 ≤ (k : Int) ∧ (k : Int) < 16 := by omega
  unfold Instr.index
  have hk16 : k < 16 := by omega
  simp [go_sem, h1, h2, h3, asIntOf, hk16, part, run_underlying]
  simpa [Twig.enc, List.extract_eq_take_drop] using e
theorem allI_take (L : List Twig) (k : Nat) (h : k < L.length) : (L.take (k+1)).all twigOkI = ((L.take k).all twigOkI && twigOkI L[k]) := by
  rw [List.take_succ_eq_append_getElem h, List.all_append]; simp
set_option maxHeartbeats 4000000 in
theorem impl_twigOk0 (x : Twig) (w : World) : Calls Try.prog 37 #[.agg #[.bool x.used_, .int .i64 x.key_, .int .i64 x.left_, .int .i64 x.right_]] w fun e w' => e = .returned (.bool (twigOkI x)) ∧ Below w.heap.size w w' := by
  obtain ⟨xu, xk, xl, xr⟩ := x
  dsimp only
  have hm : Try.prog.eqGuardType Try.prog.depth 28 = false := by kernel_rfl
  have hq := fun (k v n : Int) (W : World) => eqTwig_run k v n W
  have HB : Hid (Below w.heap.size w (w.alloc (.cells #[.bool xu, .int .i64 xk, .int .i64 xl, .int .i64 xr] 28))) := hid ((Below.refl _ _).alloc (Nat.le_refl _) _)
  cases xu with
  | false =>
    have hq1 := hq xk xl xr
    unfold twigOkI
    dsimp only
    go_enter Try.func37, Try.ntmps37
    go_wp2
    go_ret
    exact ⟨rfl, HB.out⟩
  | true =>
    unfold twigOkI
    dsimp only
    cases h1 : linkB xl with
    | false =>
      go_enter Try.func37, Try.ntmps37
      go_wp2_with (go_at_call 36; refine (impl_isTwigLink _ _).mono ?_; rintro e w' ⟨rfl, rfl⟩; rw [h1])
      go_ret
      exact ⟨rfl, HB.out⟩
    | true =>
      cases h2 : linkB xr with
      | false =>
        go_enter Try.func37, Try.ntmps37
        go_wp2_with (go_at_call 36; refine (impl_isTwigLink _ _).mono ?_; rintro e w' ⟨rfl, rfl⟩; (first | rw [h1] | rw [h2]))
        go_ret
        exact ⟨rfl, HB.out⟩
      | true =>
        go_enter Try.func37, Try.ntmps37
        go_wp2_with (go_at_call 36; refine (impl_isTwigLink _ _).mono ?_; rintro e w' ⟨rfl, rfl⟩; (first | rw [h1] | rw [h2]))
        go_ret
        exact ⟨rfl, HB.out⟩
set_option maxHeartbeats 4000000 in
theorem impl_TreeOk0 (c : TreeD) (hc : c.twigs_.length = 16) (w : World) :
    Calls Try.prog 13 #[.agg c.enc.toArray] w fun e w' => e = .returned (.bool (treeOk c)) ∧ Below w.heap.size w w' := by
  rw [← treeOk_eq c hc]
  obtain ⟨L, root⟩ := c
  dsimp only at hc
  have hl := tree_len (c := ⟨L, root⟩) hc
  have hl2 : (TreeD.enc ⟨L, root⟩).toArray.size = 65 := by rw [List.size_toArray, hl]
  have hln : (L.flatMap Twig.enc).length = 64 := by rw [twigs_len, hc]
  have HC := hid hc
  obtain ⟨W1, hW1⟩ : ∃ X, w.alloc (.cells (TreeD.enc ⟨L, root⟩).toArray 31) = X := ⟨_, rfl⟩
  have hB1 : Below w.heap.size w W1 := by rw [← hW1]; exact (Below.refl _ _).alloc (Nat.le_refl _) _
  have B0 := hid (show BoxF W1 w.heap.size (TreeD.enc ⟨L, root⟩) by rw [← hW1]; exact BoxF.alloc w (TreeD.enc ⟨L, root⟩).toArray 31)
  have k64 := tree_root B0.out hc
  have HW1 := hid hW1
  have HB1 := hid hB1
  clear hW1 hc hB1
  cases hlk : linkB root with
  | false =>
    have HLK9 := hid hlk
    have Hn := hid (show treeOkI ⟨L, root⟩ = false by unfold treeOkI; rw [hlk]; rfl)
    go_enter Try.func13, Try.ntmps13
    go_upto_region 1 with fail
    rw [HW1.out]
    go_wp2_with (go_at_call 36; refine (impl_isTwigLinkIs _ _ _ HLK9.out).mono ?_; rintro e w' ⟨rfl, rfl⟩)
    go_ret
    exact ⟨by rw [Hn.out]; rfl, HB1.out⟩
  | true =>
    have HK := hid hlk
    have HLK9 := hid hlk
    go_enter Try.func13, Try.ntmps13
    go_upto_region 1 with fail
    rw [HW1.out]
    go_wp2_with (first | (go_at_call 36; refine (impl_isTwigLinkIs _ _ _ HLK9.out).mono ?_; rintro e w' ⟨rfl, rfl⟩) | (refine wpList_load_part rfl 29 _ rfl w.heap.size [] (L.flatMap Twig.enc) [.int .i64 root] (TreeD.enc ⟨L, root⟩) (by exact B0.out) rfl rfl _ Try.underlying29 rfl (by rw [hln]; kernel_rfl) ?_))
    clear hlk k64
    go_loopw [3, 14] (fun u i wr => ∃ k : Nat, k ≤ 16 ∧ i = .int .i64 k ∧ u = .int .i64 (usedT (L.take k)) ∧ Hid ((L.take k).all twigOkI = true) ∧ Below W1.heap.size W1 wr) (fun _ i _ => 16 - (intOf i).toNat)
    case atStart => exact ⟨0, by omega, rfl, rfl, hid rfl, Below.refl _ _⟩
    case round =>
      obtain ⟨k, hk, rfl, rfl, HA, hB⟩ := hrel
      have HBr := hid (HB1.out.trans (hB.mono HB1.out.size))
      have HBB := hid hB
      clear hB
      by_cases hlt : k < 16
      · have hkL : k < L.length := by rw [HC.out]; exact hlt
        have hix := index_T L HC.out k hkL
        have hk0 : (0 : Int) ≤ (k : Int) := by omega
        have hk16 : (k : Int) < 16 := by omega
        have hus := usedT_take L k hkL
        have hul := usedT_le L k
        have hal := allI_take L k hkL
        have hno := allT_no twigOkI L k hkL
        rw [HA.out, Bool.true_and] at hal
        obtain ⟨X, hX⟩ : ∃ X, L[k] = X := ⟨_, rfl⟩
        rw [hX] at hix hus hal hno
        clear hX
        have HOK := hid (impl_twigOk0 X)
        have HUS := hid hus
        have HAL := hid hal
        have HNO := hid hno
        clear hus hal hno
        obtain ⟨xu, xk, xl, xr⟩ := X
        dsimp only at hix HOK
        obtain ⟨X5, hX5⟩ : ∃ X, wr.alloc (.cells #[.bool xu, .int .i64 xk, .int .i64 xl, .int .i64 xr] 28) = X := ⟨_, rfl⟩
        have HX6 := hid (show Below wr.heap.size wr X5 by rw [← hX5]; exact (Below.refl _ _).alloc (Nat.le_refl _) _)
        have HX7 := hid (show wr.heap.size < X5.heap.size by rw [← hX5]; simp)
        have HX8 := hid (show X5.cell? ⟨wr.heap.size, 0, none⟩ = some (.bool xu) by rw [← hX5]; simp [go_sem])
        have HX5 := hid hX5
        clear hX5
        cases hok : twigOkI ⟨xu, xk, xl, xr⟩ with
        | false =>
          have Hn := hid (show treeOkI ⟨L, root⟩ = false by unfold treeOkI; dsimp only; rw [HNO.out hok]; simp)
          rw [hok] at HOK
          go_wp2_with (first | (refine wpList_indexA rfl 29 _ _ rfl _ _ _ rfl rfl hix ?_) | (go_at_call 37; rw [HX5.out]; refine (HOK.out X5).mono ?_; rintro e w5 ⟨rfl, b5⟩; have HB5 := hid (HBr.out.trans ((HX6.out.trans (b5.mono HX6.out.size)).mono HBr.out.size)); have HBB5 := hid (HBB.out.trans ((HX6.out.trans (b5.mono HX6.out.size)).mono HBB.out.size)); have k5 := (b5.cell (p := ⟨wr.heap.size, 0, none⟩) HX7.out).trans HX8.out; clear b5))
          go_ret
          exact ⟨by rw [Hn.out]; rfl, HB5.out⟩
        | true =>
          rw [hok] at HOK
          have Hy := hid (HAL.out.trans hok)
          cases xu with
          | true =>
            have Hu := hid (HUS.out.trans (congrArg (usedT (L.take k) + ·) (if_pos rfl)))
            go_wp2_with (first | (refine wpList_indexA rfl 29 _ _ rfl _ _ _ rfl rfl hix ?_) | (go_at_call 37; rw [HX5.out]; refine (HOK.out X5).mono ?_; rintro e w5 ⟨rfl, b5⟩; have HB5 := hid (HBr.out.trans ((HX6.out.trans (b5.mono HX6.out.size)).mono HBr.out.size)); have HBB5 := hid (HBB.out.trans ((HX6.out.trans (b5.mono HX6.out.size)).mono HBB.out.size)); have k5 := (b5.cell (p := ⟨wr.heap.size, 0, none⟩) HX7.out).trans HX8.out; clear b5))
            go_roundw
            case rel => exact ⟨k+1, by omega, by go_num, by rw [Hu.out]; go_num, Hy, HBB5.out⟩
            case measure => simp [intOf]; omega
          | false =>
            have Hu := hid (HUS.out.trans (congrArg (usedT (L.take k) + ·) (if_neg Bool.false_ne_true)))
            go_wp2_with (first | (refine wpList_indexA rfl 29 _ _ rfl _ _ _ rfl rfl hix ?_) | (go_at_call 37; rw [HX5.out]; refine (HOK.out X5).mono ?_; rintro e w5 ⟨rfl, b5⟩; have HB5 := hid (HBr.out.trans ((HX6.out.trans (b5.mono HX6.out.size)).mono HBr.out.size)); have HBB5 := hid (HBB.out.trans ((HX6.out.trans (b5.mono HX6.out.size)).mono HBB.out.size)); have k5 := (b5.cell (p := ⟨wr.heap.size, 0, none⟩) HX7.out).trans HX8.out; clear b5))
            go_roundw
            case rel => exact ⟨k+1, by omega, by go_num, by rw [Hu.out, Nat.add_zero], Hy, HBB5.out⟩
            case measure => simp [intOf]; omega
      · obtain rfl : k = 16 := by omega
        have hul := usedT_le16 HC.out
        have HAA := hid (show L.all twigOkI = true by have z := HA.out; rwa [List.take_of_length_le (by rw [HC.out]; exact Nat.le_refl _)] at z)
        rw [show usedT (L.take 16) = usedT L by rw [List.take_of_length_le (by rw [HC.out]; exact Nat.le_refl _)]]
        have hA : ∀ x ∈ L, x.used_ = true → linkB x.left_ = true ∧ linkB x.right_ = true := fun x hx hu => by
          have z := List.all_eq_true.1 HAA.out x hx
          unfold twigOkI at z; rw [hu] at z; simpa using z
        have hbu := betT_used L (-1000000001) 1000000001
        have HCN := hid (fun (W : World) (hW : Below wr.heap.size wr W) => impl_count0 L HC.out hA root (usedT L) w.heap.size 64 root (-1000000001) 1000000001 W ((B0.out.below HBB.out).below hW) (tree_root ((B0.out.below HBB.out).below hW) HC.out) HK.out hbu hul)
        obtain ⟨⟨n, o⟩, hr⟩ : ∃ r, cntT L (usedT L) root (-1000000001) 1000000001 = r := ⟨_, rfl⟩
        have HOK := hid (show treeOkI ⟨L, root⟩ = (o && decide (n = usedT L)) by
          unfold treeOkI; dsimp only; rw [hr, HK.out, HAA.out]; simp)
        have hlt := cntT_lt L (usedT L) root (-1000000001) 1000000001
        have b3 : (2 : Nat) ^ usedT L ≤ 2 ^ 16 := Nat.pow_le_pow_right (by decide) hul
        rw [hr] at HCN hlt
        dsimp only at HCN hlt
        have hn1 : n < 65536 := by omega
        clear hr b3 hlt hA HA hbu
        go_upto_region 13 with (first | (go_at_call 38; refine (impl_whole w.heap.size wr).mono ?_; rintro e w5 ⟨rfl, b5⟩; have HB5 := hid b5; clear b5) | (go_at_call 39; refine (HCN.out _ HB5.out).mono ?_; rintro e w6 ⟨rfl, b6⟩; have HB6 := hid (HBr.out.trans ((HB5.out.trans (b6.mono HB5.out.size)).mono HBr.out.size)); clear b6))
        cases o with
        | false =>
          go_wp2
          go_ret
          exact ⟨by rw [HOK.out]; rfl, HB6.out⟩
        | true =>
          by_cases he : n = usedT L
          · have he2 : ((n : Nat) : Int) = ((usedT L : Nat) : Int) := by rw [he]
            go_wp2
            go_ret
            exact ⟨by rw [HOK.out, decide_eq_true he]; simp [he2], HB6.out⟩
          · have he2 : ¬ ((n : Nat) : Int) = ((usedT L : Nat) : Int) := by omega
            go_wp2
            go_ret
            exact ⟨by rw [HOK.out, decide_eq_false he]; simp [he2], HB6.out⟩
end Go.Proofs.Ytcjeafhejkppeaa
