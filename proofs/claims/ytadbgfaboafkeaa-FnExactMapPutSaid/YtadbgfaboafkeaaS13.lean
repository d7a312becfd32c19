/- Chapter 13's model: ChainOk. -/
import Derived.Test.YtadbgfaboafkeaaF13
import Derived.Test.YtadbgfaboafkeaaS0
import Derived.Test.YtadbgfaboafkeaaExt0
import Derived.Laws.StructEq
import Derived.Deep.CutRange
namespace Go.Proofs.Ytadbgfaboafkeaa
set_option maxRecDepth 100000
open Go.RowKit Go.Proofs Go.Own
open Go Go.BigFrame
set_option linter.unusedVariables false
set_option linter.unusedSimpArgs false
theorem spec_l1InIs (x a b : Int) (r : Bool) (w : World) (e : inB x a b = r) :
    Calls Try.prog 30 #[.int .i64 x, .int .i64 a, .int .i64 b] w fun e w' => e = .returned (.bool r) ∧ w = w' := by subst e; exact spec_l1In x a b w
theorem spec_l1ValueIs (x : Int) (r : Bool) (w : World) (e : isVal x = r) :
    Calls Try.prog 29 #[.int .i64 x] w fun e w' => e = .returned (.bool r) ∧ w = w' := by subst e; exact spec_l1Value x w
theorem eqNode_run (k v n : Int) (w : World) : (Op.equalIn 10000 28 (.agg #[.bool false, .int .i64 k, .int .i64 v, .int .i64 n]) (.agg #[.bool false, .int .i64 0, .int .i64 0, .int .i64 0])).run Try.prog w = .ok (nodeFree ⟨false, k, v, n⟩) w := by
  have u3 := Try.underlying3
  have a3' := Try.isAgg3
  have z3 := Try.sizeOf3
  have u4 := Try.underlying4
  have a4' := Try.isAgg4
  have z4 := Try.sizeOf4
  have hS : Try.prog.underlying 28 = some (.struct (Try.prog.fieldsOf 28)) := by kernel_rfl
  have hp : Try.prog.stoodInHeld 28 = false := by kernel_rfl
  rw [show (10000 : Nat) = 9999 + 1 from rfl, run_equalIn_agg w 9999 28 _ _ hS hp]
  simp only [Program.fieldsOf, Try.underlying28]
  go_simp
  unfold nodeFree
  by_cases h1 : k = 0
  · by_cases h2 : v = 0
    · by_cases h3 : n = 0 <;> simp [h1, h2, h3]
    · simp [h1, h2]
  · simp [h1]
set_option maxHeartbeats 8000000 in
theorem spec_ChainOk0 (c : ChainD) (hc : c.nodes_.length = 16) (w : World) :
    Calls Try.prog 10 #[.agg c.enc.toArray] w fun e w' => e = .returned (.bool (chainOk c)) ∧ Below w.heap.size w w' := by
  have hl := chain_len hc
  have hl2 : c.enc.toArray.size = 65 := by rw [List.size_toArray, hl]
  have hln : (c.nodes_.flatMap Node.enc).length = 64 := by rw [nodes_len, hc]
  have HC := hid hc
  have HE := hid (show c.enc = [] ++ c.nodes_.flatMap Node.enc ++ [.int .i64 c.first_] from rfl)
  have H64 := hid (show c.enc[64]? = some (.int .i64 c.first_) by rw [HE.out, List.nil_append, List.getElem?_append_right (by omega), hln]; rfl)
  generalize hce : c.enc = ce at *
  obtain ⟨W1, hW1⟩ : ∃ X, w.alloc (.cells ce.toArray 31) = X := ⟨_, rfl⟩
  have hB1 : Below w.heap.size w W1 := by rw [← hW1]; exact (Below.refl _ _).alloc (Nat.le_refl _) _
  have b0 : BoxF W1 w.heap.size ce := by
    rw [← hW1]
    exact BoxF.alloc w ce.toArray 31
  have B0 := hid b0
  have HW1 := hid hW1
  have HB1 := hid hB1
  have HCE := hid hce
  clear hW1 b0 hc hB1 hce
  go_enter Try.func10, Try.ntmps10
  go_wp2
  rw [HW1.out]
  have hm : Try.prog.eqGuardType Try.prog.depth 28 = false := by kernel_rfl
  have hq := fun (k v n : Int) (W : World) => eqNode_run k v n W
  go_loopw [3, 4] (fun u i wr => ∃ k : Nat, k ≤ 16 ∧ i = .int .i64 k ∧ u = .int .i64 (usedN (c.nodes_.take k)) ∧ Hid ((c.nodes_.take k).all nodeOk = true) ∧ Below W1.heap.size W1 wr) (fun _ i _ => 16 - (intOf i).toNat)
  case atStart => exact ⟨0, by omega, rfl, rfl, hid rfl, Below.refl _ _⟩
  case round =>
    obtain ⟨k, hk, rfl, rfl, HA, hB⟩ := hrel
    have B0r := hid (B0.out.below hB)
    have HBr := hid (HB1.out.trans (hB.mono HB1.out.size))
    by_cases hlt : k < 16
    · have hkL : k < c.nodes_.length := by rw [HC.out]; exact hlt
      have Hc := hid (fun l (hl4 : l < 4) => boxA_cell (A := []) (Z := [.int .i64 c.first_]) Node.enc 4 (fun _ => rfl) (by rw [← HE.out]; exact B0r.out) k hkL l hl4)
      have c0 : wr.cell? ⟨w.heap.size, k * 4, none⟩ = some (.bool c.nodes_[k].used_) := by have z := Hc.out 0 (by omega); simpa [Node.enc] using z
      have c1 : wr.cell? ⟨w.heap.size, k * 4 + 1, none⟩ = some (.int .i64 c.nodes_[k].key_) := by have z := Hc.out 1 (by omega); simpa [Node.enc] using z
      have c2 : wr.cell? ⟨w.heap.size, k * 4 + 2, none⟩ = some (.int .i64 c.nodes_[k].value_) := by have z := Hc.out 2 (by omega); simpa [Node.enc] using z
      have c3 : wr.cell? ⟨w.heap.size, k * 4 + 3, none⟩ = some (.int .i64 c.nodes_[k].next_) := by have z := Hc.out 3 (by omega); simpa [Node.enc] using z
      have hk0 : (0 : Int) ≤ (k : Int) := by omega
      have hk16 : (k : Int) < 16 := by omega
      have hus := usedN_take c.nodes_ k hkL
      have hal := allOk_take c.nodes_ k hkL
      have hno := allOk_no c.nodes_ k hkL
      have hul := usedN_le c.nodes_ k
      rw [HA.out, Bool.true_and] at hal
      obtain ⟨X, hX⟩ : ∃ X, c.nodes_[k] = X := ⟨_, rfl⟩
      rw [hX] at c0 c1 c2 c3 hus hal hno
      have HUS := hid hus
      have HAL := hid hal
      have HNO := hid hno
      clear Hc hX hus hal hno
      obtain ⟨xu, xk, xv, xn⟩ := X
      dsimp only at c0 c1 c2 c3
      go_upto_region 6 with fail
      obtain ⟨W5, hW5⟩ : ∃ X, wr.alloc (.cells #[.bool xu, .int .i64 xk, .int .i64 xv, .int .i64 xn] 28) = X := ⟨_, rfl⟩
      have hB5 : Below wr.heap.size wr W5 := by rw [← hW5]; exact (Below.refl _ _).alloc (Nat.le_refl _) _
      have bn : Box W5 wr.heap.size [.bool xu, .int .i64 xk, .int .i64 xv, .int .i64 xn] := by rw [← hW5]; exact Box.alloc wr #[.bool xu, .int .i64 xk, .int .i64 xv, .int .i64 xn] 28
      have d0 := Ext.cell bn.1 (show W5.cell? ⟨wr.heap.size, 0, none⟩ = some (.bool xu) from bn.2 0 (by simp))
      have d1 := Ext.cell bn.1 (show W5.cell? ⟨wr.heap.size, 1, none⟩ = some (.int .i64 xk) from bn.2 1 (by simp))
      have d2 := Ext.cell bn.1 (show W5.cell? ⟨wr.heap.size, 2, none⟩ = some (.int .i64 xv) from bn.2 2 (by simp))
      have d3 := Ext.cell bn.1 (show W5.cell? ⟨wr.heap.size, 3, none⟩ = some (.int .i64 xn) from bn.2 3 (by simp))
      have HW5 := hid hW5
      have HBN := hid bn
      have HB5 := hid (HBr.out.trans (hB5.mono (HBr.out.size)))
      have HBB := hid (hB.trans (hB5.mono hB.size))
      clear c0 c1 c2 c3 hW5 bn hB5 hB
      rw [HW5.out]
      cases xu with
      | true =>
        cases hk1 : isVal xk with
        | false =>
          have Hn := hid (HNO.out (by simp [nodeOk, nodeVal, hk1]))
          (refine wp_region_ext0 W5 (Below.refl _ _) ?_; (try dsimp only [List.append]); (repeat (go_big_quiet_step (first | (go_at_call 29; exact call_ext_same _ (spec_l1ValueIs _ _ _ (by assumption)))))); refine wpQuiet_nil ?_; rintro _ ⟨E, rfl⟩)
          (go_wp2; go_ret; exact ⟨by unfold chainOk; rw [Hn.out]; rfl, HB5.out.trans (E.h.mono HB5.out.size)⟩)
        | true =>
        cases hk2 : isVal xv with
        | false =>
          have Hn := hid (HNO.out (by simp [nodeOk, nodeVal, hk1, hk2]))
          (refine wp_region_ext0 W5 (Below.refl _ _) ?_; (try dsimp only [List.append]); (repeat (go_big_quiet_step (first | (go_at_call 29; exact call_ext_same _ (spec_l1ValueIs _ _ _ (by assumption)))))); refine wpQuiet_nil ?_; rintro _ ⟨E, rfl⟩)
          (go_wp2; go_ret; exact ⟨by unfold chainOk; rw [Hn.out]; rfl, HB5.out.trans (E.h.mono HB5.out.size)⟩)
        | true =>
          have Hy := hid (HAL.out.trans (show nodeOk ⟨true, xk, xv, xn⟩ = true by simp [nodeOk, nodeVal, hk1, hk2]))
          have Hu := hid (HUS.out.trans (congrArg (usedN (c.nodes_.take k) + ·) (if_pos rfl)))
          (refine wp_region_ext0 W5 (Below.refl _ _) ?_; (try dsimp only [List.append]); (repeat (go_big_quiet_step (first | (go_at_call 29; exact call_ext_same _ (spec_l1ValueIs _ _ _ (by assumption)))))); refine wpQuiet_nil ?_; rintro _ ⟨E, rfl⟩)
          have HBE := hid (HBB.out.trans (E.h.mono HBB.out.size))
          go_wp2
          go_roundw
          case rel => exact ⟨k+1, by omega, by go_num, by rw [Hu.out]; go_num, Hy, HBE.out⟩
          case measure => simp [intOf]; omega
      | false =>
        cases hf : nodeFree ⟨false, xk, xv, xn⟩ with
        | false =>
          have Hn := hid (HNO.out (by simp [nodeOk, hf]))
          have hq1 := hq xk xv xn
          rw [hf] at hq1
          (refine wp_region_ext0 W5 (Below.refl _ _) ?_; (try dsimp only [List.append]); (repeat (go_big_quiet_step (first | (go_at_call 29; exact call_ext_same _ (spec_l1ValueIs _ _ _ (by assumption)))))); refine wpQuiet_nil ?_; rintro _ ⟨E, rfl⟩)
          (go_wp2; go_ret; exact ⟨by unfold chainOk; rw [Hn.out]; rfl, HB5.out.trans (E.h.mono HB5.out.size)⟩)
        | true =>
          have Hy := hid (HAL.out.trans (show nodeOk ⟨false, xk, xv, xn⟩ = true by simp [nodeOk, hf]))
          have Hu := hid (HUS.out.trans (congrArg (usedN (c.nodes_.take k) + ·) (if_neg Bool.false_ne_true)))
          have hq1 := hq xk xv xn
          rw [hf] at hq1
          (refine wp_region_ext0 W5 (Below.refl _ _) ?_; (try dsimp only [List.append]); (repeat (go_big_quiet_step (first | (go_at_call 29; exact call_ext_same _ (spec_l1ValueIs _ _ _ (by assumption)))))); refine wpQuiet_nil ?_; rintro _ ⟨E, rfl⟩)
          have HBE := hid (HBB.out.trans (E.h.mono HBB.out.size))
          go_wp2
          go_roundw
          case rel => exact ⟨k+1, by omega, by go_num, by rw [Hu.out, Nat.add_zero], Hy, HBE.out⟩
          case measure => simp [intOf]; omega
    · obtain rfl : k = 16 := by omega
      have HU := hid (show usedN (c.nodes_.take 16) = usedN c.nodes_ by rw [List.take_of_length_le (by rw [HC.out]; exact Nat.le_refl _)])
      have hul := usedN_le c.nodes_ 16
      have HL := hid (show linkTo c.nodes_ (usedN c.nodes_) c.first_ (-1) = chainOk c by
        unfold chainOk
        have z := HA.out
        rw [List.take_of_length_le (by rw [HC.out]; exact Nat.le_refl _)] at z
        rw [z, Bool.true_and])
      have k64 : wr.cell? ⟨w.heap.size, 64, none⟩ = some (.int .i64 c.first_) := by
        have z := B0r.out.1.2 64 (by rw [hl]; omega)
        rw [z]; exact H64.out
      rw [HU.out] at hul ⊢
      clear HA
      go_wp2
      go_loopw [3, 6, 7] (fun u p l wx => ∃ (m : Nat) (q t : Int), u = .int .i64 m ∧ p = .int .i64 q ∧ l = .int .i64 t ∧ m ≤ 16 ∧ (t = -1 ∨ ∃ j : Nat, t = (j : Int) ∧ j < 16) ∧ Hid (linkTo c.nodes_ m q t = chainOk c) ∧ Below W1.heap.size W1 wx) (fun u _ _ _ => (intOf u).toNat)
      case atStart => exact ⟨usedN c.nodes_, c.first_, -1, rfl, rfl, rfl, hul, .inl rfl, HL, hB⟩
      case round =>
        obtain ⟨m, q, t, rfl, rfl, rfl, hm16, ht, HLK, hBx⟩ := hrel
        have B0x := hid (B0.out.below hBx)
        have HBx := hid (HB1.out.trans (hBx.mono (HB1.out.size)))
        have HBy := hid hBx
        clear hBx
        by_cases hq1 : q = -1
        · subst hq1
          clear ht
          cases m with
          | zero =>
            have Hn := hid (HLK.out.symm.trans (show linkTo c.nodes_ 0 (-1) t = true by simp [linkTo]))
            go_wp2
            go_ret
            exact ⟨by rw [Hn.out]; rfl, HBx.out⟩
          | succ m =>
            have Hn := hid (HLK.out.symm.trans (show linkTo c.nodes_ (m+1) (-1) t = false by simp [linkTo, inB]))
            have hne : ¬ ((m + 1 : Nat) : Int) = 0 := by omega
            go_wp2
            go_ret
            exact ⟨by rw [Hn.out]; simp; omega, HBx.out⟩
        · cases hin : inB q 0 15 with
          | false =>
            have Hn := hid (HLK.out.symm.trans (show linkTo c.nodes_ m q t = false by cases m <;> simp [linkTo, hin, hq1]))
            clear ht
            go_upto_region 12 with fail
            (refine wp_region_ext wr (Below.refl _ _) (by kernel_rfl) (by kernel_rfl) ?_; (try dsimp only [List.append]); (repeat (go_big_quiet_step (first | (go_at_call 30; exact call_ext_same _ (spec_l1InIs _ _ _ _ _ (by assumption)))))); refine wpQuiet_nil ?_; rintro _ ⟨E, rfl⟩)
            (have HBE := hid (HBx.out.trans (E.h.mono HBx.out.size)); go_wp2; go_ret; exact ⟨by rw [Hn.out]; rfl, HBE.out⟩)
          | true =>
            obtain ⟨k, rfl, hk16⟩ : ∃ k : Nat, q = (k : Int) ∧ k < 16 := by
              have : 0 ≤ q ∧ q ≤ 15 := by simpa [inB] using hin
              exact ⟨q.toNat, by omega, by omega⟩
            have hkL : k < c.nodes_.length := by rw [HC.out]; exact hk16
            have HK := hid (nd_eq c.nodes_ (k : Int) (by rw [Int.toNat_natCast]; exact hkL))
            simp only [Int.toNat_natCast] at HK
            have Hcc := hid (fun l (hl4 : l < 4) => boxA_cell (A := []) (Z := [.int .i64 c.first_]) Node.enc 4 (fun _ => rfl) (by rw [← HE.out]; exact B0x.out) k hkL l hl4)
            have c0 := Ext.cell B0x.out.1.1 (show wr.cell? ⟨w.heap.size, k * 4, none⟩ = some (.bool c.nodes_[k].used_) by have z := Hcc.out 0 (by omega); simpa [Node.enc] using z)
            have c1 := Ext.cell B0x.out.1.1 (show wr.cell? ⟨w.heap.size, k * 4 + 1, none⟩ = some (.int .i64 c.nodes_[k].key_) by have z := Hcc.out 1 (by omega); simpa [Node.enc] using z)
            have c2 := Ext.cell B0x.out.1.1 (show wr.cell? ⟨w.heap.size, k * 4 + 2, none⟩ = some (.int .i64 c.nodes_[k].value_) by have z := Hcc.out 2 (by omega); simpa [Node.enc] using z)
            have c3 := Ext.cell B0x.out.1.1 (show wr.cell? ⟨w.heap.size, k * 4 + 3, none⟩ = some (.int .i64 c.nodes_[k].next_) by have z := Hcc.out 3 (by omega); simpa [Node.enc] using z)
            have hk0 : (0 : Int) ≤ (k : Int) := by omega
            have hki : (k : Int) < 16 := by omega
            obtain ⟨X, hX⟩ : ∃ X, c.nodes_[k] = X := ⟨_, rfl⟩
            rw [hX] at c0 c1 c2 c3 HK
            clear Hcc hX
            obtain ⟨xu, xk, xv, xn⟩ := X
            dsimp only at c0 c1 c2 c3
            cases xu with
            | false =>
              have Hn := hid (HLK.out.symm.trans (show linkTo c.nodes_ m k t = false by cases m <;> simp [linkTo, hin, hq1, HK.out]))
              clear ht
              go_upto_region 12 with fail
              (refine wp_region_ext wr (Below.refl _ _) (by kernel_rfl) (by kernel_rfl) ?_; (try dsimp only [List.append]); (repeat (go_big_quiet_step (first | (go_at_call 30; exact call_ext_same _ (spec_l1InIs _ _ _ _ _ (by assumption)))))); refine wpQuiet_nil ?_; rintro _ ⟨E, rfl⟩)
              (have HBE := hid (HBx.out.trans (E.h.mono HBx.out.size)); go_wp2; go_ret; exact ⟨by rw [Hn.out]; rfl, HBE.out⟩)
            | true =>
            cases m with
            | zero =>
              have hm1 : (((0 : Nat) : Int) == 0) = true := rfl
              have hm2 : ((0 : Int) == 0) = true := rfl
              have Hn := hid (HLK.out.symm.trans (show linkTo c.nodes_ 0 k t = false by simp [linkTo, hq1]))
              clear ht
              go_upto_region 12 with fail
              (refine wp_region_ext wr (Below.refl _ _) (by kernel_rfl) (by kernel_rfl) ?_; (try dsimp only [List.append]); (repeat (go_big_quiet_step (first | (go_at_call 30; exact call_ext_same _ (spec_l1InIs _ _ _ _ _ (by assumption)))))); refine wpQuiet_nil ?_; rintro _ ⟨E, rfl⟩)
              (have HBE := hid (HBx.out.trans (E.h.mono HBx.out.size)); go_wp2; go_ret; exact ⟨by rw [Hn.out]; rfl, HBE.out⟩)
            | succ m =>
            have hm1 : (((m + 1 : Nat) : Int) == 0) = false := by simp; omega
            have hm2 : ((m : Int) + 1 == 0) = false := by simp; omega
            rcases ht with rfl | ⟨j, rfl, hj⟩
            · have ht1 : decide ((0 : Int) ≤ -1) = false := rfl
              have ht2 : decide ((-1 : Int) ≥ 0) = false := rfl
              have Hy := hid (show linkTo c.nodes_ m xn k = chainOk c from (show linkTo c.nodes_ m xn k = linkTo c.nodes_ (m+1) k (-1) by simp [linkTo, hin, HK.out, lastOk]).trans HLK.out)
              clear HLK
              go_upto_region 12 with fail
              (refine wp_region_ext wr (Below.refl _ _) (by kernel_rfl) (by kernel_rfl) ?_; (try dsimp only [List.append]); (repeat (go_big_quiet_step (first | (go_at_call 30; exact call_ext_same _ (spec_l1InIs _ _ _ _ _ (by assumption)))))); refine wpQuiet_nil ?_; rintro _ ⟨E, rfl⟩)
              (have HBE := hid (HBy.out.trans (E.h.mono HBy.out.size)); go_wp2; go_roundw; (case rel => exact ⟨m, xn, k, by go_num, rfl, rfl, by omega, .inr ⟨k, rfl, hk16⟩, Hy, HBE.out⟩); (case measure => simp [intOf]))
            · have hjL : j < c.nodes_.length := by rw [HC.out]; exact hj
              have HJ := hid (nd_eq c.nodes_ (j : Int) (by rw [Int.toNat_natCast]; exact hjL))
              simp only [Int.toNat_natCast] at HJ
              have Hcd := hid (fun l (hl4 : l < 4) => boxA_cell (A := []) (Z := [.int .i64 c.first_]) Node.enc 4 (fun _ => rfl) (by rw [← HE.out]; exact B0x.out) j hjL l hl4)
              have d0 := Ext.cell B0x.out.1.1 (show wr.cell? ⟨w.heap.size, j * 4, none⟩ = some (.bool c.nodes_[j].used_) by have z := Hcd.out 0 (by omega); simpa [Node.enc] using z)
              have d1 := Ext.cell B0x.out.1.1 (show wr.cell? ⟨w.heap.size, j * 4 + 1, none⟩ = some (.int .i64 c.nodes_[j].key_) by have z := Hcd.out 1 (by omega); simpa [Node.enc] using z)
              have d2 := Ext.cell B0x.out.1.1 (show wr.cell? ⟨w.heap.size, j * 4 + 2, none⟩ = some (.int .i64 c.nodes_[j].value_) by have z := Hcd.out 2 (by omega); simpa [Node.enc] using z)
              have d3 := Ext.cell B0x.out.1.1 (show wr.cell? ⟨w.heap.size, j * 4 + 3, none⟩ = some (.int .i64 c.nodes_[j].next_) by have z := Hcd.out 3 (by omega); simpa [Node.enc] using z)
              have hj0 : (0 : Int) ≤ (j : Int) := by omega
              have hji : (j : Int) < 16 := by omega
              obtain ⟨Y, hY⟩ : ∃ Y, c.nodes_[j] = Y := ⟨_, rfl⟩
              rw [hY] at d0 d1 d2 d3 HJ
              clear Hcd hY
              obtain ⟨yu, yk, yv, yn⟩ := Y
              dsimp only at d0 d1 d2 d3
              have hjn : ¬ (j : Int) < 0 := by omega
              have ht1 : decide ((0 : Int) ≤ (j : Int)) = true := decide_eq_true hj0
              have ht2 : decide ((j : Int) ≥ 0) = true := decide_eq_true hj0
              by_cases hkk : xk ≤ yk
              · have Hn := hid (HLK.out.symm.trans (show linkTo c.nodes_ (m+1) k j = false by
                  have h9 : ¬ yk < xk := by omega
                  simp [linkTo, hin, HK.out, HJ.out, lastOk, hjn, h9]))
                go_upto_region 12 with fail
                (refine wp_region_ext wr (Below.refl _ _) (by kernel_rfl) (by kernel_rfl) ?_; (try dsimp only [List.append]); (repeat (go_big_quiet_step (first | (go_at_call 30; exact call_ext_same _ (spec_l1InIs _ _ _ _ _ (by assumption)))))); refine wpQuiet_nil ?_; rintro _ ⟨E, rfl⟩)
                (have HBE := hid (HBx.out.trans (E.h.mono HBx.out.size)); go_wp2; go_ret; exact ⟨by rw [Hn.out]; rfl, HBE.out⟩)
              · have Hy := hid (show linkTo c.nodes_ m xn k = chainOk c from (show linkTo c.nodes_ m xn k = linkTo c.nodes_ (m+1) k j by
                  have h9 : yk < xk := by omega
                  simp [linkTo, hin, HK.out, HJ.out, lastOk, hjn, h9]).trans HLK.out)
                clear HLK d0 d2 d3
                go_upto_region 12 with fail
                (refine wp_region_ext wr (Below.refl _ _) (by kernel_rfl) (by kernel_rfl) ?_; (try dsimp only [List.append]); (repeat (go_big_quiet_step (first | (go_at_call 30; exact call_ext_same _ (spec_l1InIs _ _ _ _ _ (by assumption)))))); refine wpQuiet_nil ?_; rintro _ ⟨E, rfl⟩)
                (have HBE := hid (HBy.out.trans (E.h.mono HBy.out.size)); go_wp2; go_roundw; (case rel => exact ⟨m, xn, k, by go_num, rfl, rfl, by omega, .inr ⟨k, rfl, hk16⟩, Hy, HBE.out⟩); (case measure => simp [intOf]))
end Go.Proofs.Ytadbgfaboafkeaa
