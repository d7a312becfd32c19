/- Chapter 15's model: TreeOk. -/
import Derived.Test.YtcjeafhejkppeaaS15k
namespace Go.Proofs.Ytcjeafhejkppeaa
set_option maxRecDepth 100000
open Go.RowKit Go.Proofs Go.Own
open Go Go.BigFrame
set_option linter.unusedVariables false
set_option linter.unusedSimpArgs false
theorem eqTwig_run (k v n : Int) (w : World) : (Op.equalIn 10000 28 (.agg #[.bool false, .int .i64 k, .int .i64 v, .int .i64 n]) (.agg #[.bool false, .int .i64 0, .int .i64 0, .int .i64 0])).run Try.prog w = .ok (twigFree ⟨false, k, v, n⟩) w := by
  have u3 := Try.underlying3
  have a3' := Try.isAgg3
  have z3 := Try.sizeOf3
  have u4 := Try.underlying4
  have a4' := Try.isAgg4
  have z4 := Try.sizeOf4
  have hS : Try.prog.underlying 28 = some (.struct (Try.prog.fieldsOf 28)) := by kernel_rfl
  have hp : Try.prog.stoodInHeld 28 = false := by kernel_rfl
  rw [show (10000 : Nat) = 9999 + 1 from rfl, run_equalIn_agg w 9999 28 _ _ hS hp]
  simp only [Program.fieldsOf, Try.underlying28]
  go_simp
  unfold twigFree
  by_cases h1 : k = 0
  · by_cases h2 : v = 0
    · by_cases h3 : n = 0 <;> simp [h1, h2, h3]
    · simp [h1, h2]
  · simp [h1]
theorem allT_take (L : List Twig) (k : Nat) (h : k < L.length) : (L.take (k+1)).all twigOk = ((L.take k).all twigOk && twigOk L[k]) := by
  rw [List.take_succ_eq_append_getElem h, List.all_append]; simp
theorem allT_no (g : Twig → Bool) (L : List Twig) (k : Nat) (h : k < L.length) (hn : g L[k] = false) : L.all g = false := by
  rw [Bool.eq_false_iff]
  intro h9
  rw [List.all_eq_true] at h9
  have := h9 _ (List.getElem_mem h)
  rw [hn] at this; cases this
/-- The list's keys ascend up to a place. -/
def ascTo (L : List Twig) (xs : List Int) (i : Nat) : Prop := ∀ j, 0 < j → j < i → (hj : j < xs.length) → (tw L (xs[j-1]'(by omega))).key_ < (tw L xs[j]).key_
theorem ascT_all (L : List Twig) : ∀ xs : List Int, ascT L xs = true ↔ ascTo L xs xs.length
  | [] => by simp [ascT, ascTo]
  | [a] => by
    refine ⟨fun _ j h0 h1 h2 => ?_, fun _ => rfl⟩
    simp at h2; omega
  | a :: b :: r => by
    rw [show ascT L (a :: b :: r) = (decide ((tw L a).key_ < (tw L b).key_) && ascT L (b :: r)) from rfl, Bool.and_eq_true, decide_eq_true_eq, ascT_all L (b :: r)]
    constructor
    · rintro ⟨h1, h2⟩ j h0 hj hl
      match j, h0, hj, hl with
      | 1, _, _, _ => exact h1
      | j+2, _, hj, hl => exact h2 (j+1) (by omega) (by simp at hj ⊢; omega) (by simp at hl ⊢; omega)
    · intro h
      refine ⟨h 1 (by omega) (by simp) (by simp), fun j h0 hj hl => ?_⟩
      match j, h0, hj, hl with
      | j+1, _, hj, hl => exact h (j+2) (by omega) (by simp at hj ⊢; omega) (by simp at hl ⊢; omega)
theorem ascTo_next {L : List Twig} {xs : List Int} {i : Nat} (h : ascTo L xs i) (hi : i < xs.length) (h0 : 0 < i) (hk : (tw L (xs[i-1]'(by omega))).key_ < (tw L xs[i]).key_) : ascTo L xs (i+1) := fun j j0 ji jl => by
  by_cases e : j = i
  · subst e; exact hk
  · exact h j j0 (by omega) jl
theorem keysT_in : ∀ (f : Nat) (L : List Twig) (p : Int) (out : List Int), (∀ q ∈ out, inB q 0 15 = true) → ∀ q ∈ (keysT f L p out).1, inB q 0 15 = true
  | 0, L, p, out, h => h
  | f+1, L, p, out, h => by
    unfold keysT
    split
    · exact h
    · split
      · rename_i h1
        simp only [Bool.and_eq_true] at h1
        split
        · refine keysT_in f _ _ _ fun q hq => ?_
          rcases List.mem_append.1 hq with hq | hq
          · exact keysT_in f _ _ _ h q hq
          · simp at hq; subst hq; exact h1.1.1
        · exact keysT_in f _ _ _ h
      · exact h
set_option maxHeartbeats 8000000 in
theorem spec_TreeOk0 (c : TreeD) (hc : c.twigs_.length = 16) (w : World) :
    Calls Try.prog 11 #[.agg c.enc.toArray] w fun e w' => e = .returned (.bool (treeOk c)) ∧ Below w.heap.size w w' := by
  obtain ⟨L, root⟩ := c
  dsimp only at hc
  change Calls Try.prog 11 #[.agg (encT L root).toArray] w _
  have hl : (encT L root).length = 65 := tree_len (c := ⟨L, root⟩) hc
  have hl2 : (encT L root).toArray.size = 65 := by rw [List.size_toArray, hl]
  have HC := hid hc
  obtain ⟨W1, hW1⟩ : ∃ X, w.alloc (.cells (encT L root).toArray 31) = X := ⟨_, rfl⟩
  have hB1 : Below w.heap.size w W1 := by rw [← hW1]; exact (Below.refl _ _).alloc (Nat.le_refl _) _
  have B0 := hid (show BoxF W1 w.heap.size (TreeD.enc ⟨L, root⟩) by rw [← hW1]; exact BoxF.alloc w (encT L root).toArray 31)
  have HS1 := hid (show W1.heap.size = w.heap.size + 1 by rw [← hW1]; simp)
  have HW1 := hid hW1
  have HB1 := hid hB1
  clear hW1 hc hB1
  go_enter Try.func11, Try.ntmps11
  go_wp2
  rw [HW1.out]
  have hm : Try.prog.eqGuardType Try.prog.depth 28 = false := by kernel_rfl
  have hq := fun (k v n : Int) (W : World) => eqTwig_run k v n W
  go_loopw [3, 4] (fun u i wr => ∃ k : Nat, k ≤ 16 ∧ i = .int .i64 k ∧ u = .int .i64 (usedT (L.take k)) ∧ Hid ((L.take k).all twigOk = true) ∧ Below W1.heap.size W1 wr) (fun _ i _ => 16 - (intOf i).toNat)
  case atStart => exact ⟨0, by omega, rfl, rfl, hid rfl, Below.refl _ _⟩
  case round =>
    obtain ⟨k, hk, rfl, rfl, HA, hB⟩ := hrel
    have B0r := hid (B0.out.below hB)
    have HBr := hid (HB1.out.trans (hB.mono HB1.out.size))
    by_cases hlt : k < 16
    · have hkL : k < L.length := by rw [HC.out]; exact hlt
      obtain ⟨c0, c1, c2, c3⟩ := tree_at B0r.out HC.out k hlt
      have hk0 : (0 : Int) ≤ (k : Int) := by omega
      have hk16 : (k : Int) < 16 := by omega
      have hus := usedT_take L k hkL
      have hal := allT_take L k hkL
      have hno := allT_no twigOk L k hkL
      have hul := usedT_le L k
      rw [HA.out, Bool.true_and] at hal
      rw [tw_eq L (k : Int) (by rw [Int.toNat_natCast]; exact hkL)] at c0 c1 c2 c3
      simp only [Int.toNat_natCast] at c0 c1 c2 c3
      obtain ⟨X, hX⟩ : ∃ X, L[k] = X := ⟨_, rfl⟩
      rw [hX] at c0 c1 c2 c3 hus hal hno
      have HUS := hid hus
      have HAL := hid hal
      have HNO := hid hno
      clear hX hus hal hno
      obtain ⟨xu, xk, xv, xn⟩ := X
      dsimp only at c0 c1 c2 c3
      go_upto_region 6 with fail
      obtain ⟨W5, hW5⟩ : ∃ X, wr.alloc (.cells #[.bool xu, .int .i64 xk, .int .i64 xv, .int .i64 xn] 28) = X := ⟨_, rfl⟩
      have hB5 : Below wr.heap.size wr W5 := by rw [← hW5]; exact (Below.refl _ _).alloc (Nat.le_refl _) _
      have bn : Box W5 wr.heap.size [.bool xu, .int .i64 xk, .int .i64 xv, .int .i64 xn] := by rw [← hW5]; exact Box.alloc wr #[.bool xu, .int .i64 xk, .int .i64 xv, .int .i64 xn] 28
      have d0 := Ext.cell bn.1 (show W5.cell? ⟨wr.heap.size, 0, none⟩ = some (.bool xu) from bn.2 0 (by simp))
      have d1 := Ext.cell bn.1 (show W5.cell? ⟨wr.heap.size, 1, none⟩ = some (.int .i64 xk) from bn.2 1 (by simp))
      have d2 := Ext.cell bn.1 (show W5.cell? ⟨wr.heap.size, 2, none⟩ = some (.int .i64 xv) from bn.2 2 (by simp))
      have d3 := Ext.cell bn.1 (show W5.cell? ⟨wr.heap.size, 3, none⟩ = some (.int .i64 xn) from bn.2 3 (by simp))
      have HW5 := hid hW5
      have HBN := hid bn
      have HB5 := hid (HBr.out.trans (hB5.mono (HBr.out.size)))
      have HBB := hid (hB.trans (hB5.mono hB.size))
      clear c0 c1 c2 c3 hW5 bn hB5 hB
      rw [HW5.out]
      cases xu with
      | true =>
        cases hk1 : isVal xk with
        | false =>
          have Hn := hid (HNO.out (by simp [twigOk, hk1]))
          (refine wp_region_ext0 W5 (Below.refl _ _) ?_; (try dsimp only [List.append]); (repeat (go_big_quiet_step (first | (go_at_call 33; exact call_ext_same _ (spec_l1ValueIs _ _ _ (by assumption)))))); refine wpQuiet_nil ?_; rintro _ ⟨E, rfl⟩)
          (go_wp2; go_ret; exact ⟨by unfold treeOk; rw [Hn.out]; rfl, HB5.out.trans (E.h.mono HB5.out.size)⟩)
        | true =>
          have Hy := hid (HAL.out.trans (show twigOk ⟨true, xk, xv, xn⟩ = true by simp [twigOk, hk1]))
          have Hu := hid (HUS.out.trans (congrArg (usedT (L.take k) + ·) (if_pos rfl)))
          (refine wp_region_ext0 W5 (Below.refl _ _) ?_; (try dsimp only [List.append]); (repeat (go_big_quiet_step (first | (go_at_call 33; exact call_ext_same _ (spec_l1ValueIs _ _ _ (by assumption)))))); refine wpQuiet_nil ?_; rintro _ ⟨E, rfl⟩)
          have HBE := hid (HBB.out.trans (E.h.mono HBB.out.size))
          go_wp2
          go_roundw
          case rel => exact ⟨k+1, by omega, by go_num, by rw [Hu.out]; go_num, Hy, HBE.out⟩
          case measure => simp [intOf]; omega
      | false =>
        cases hf : twigFree ⟨false, xk, xv, xn⟩ with
        | false =>
          have Hn := hid (HNO.out (by simp [twigOk, hf]))
          have hq1 := hq xk xv xn
          rw [hf] at hq1
          (refine wp_region_ext0 W5 (Below.refl _ _) ?_; (try dsimp only [List.append]); (repeat (go_big_quiet_step (first | (go_at_call 33; exact call_ext_same _ (spec_l1ValueIs _ _ _ (by assumption)))))); refine wpQuiet_nil ?_; rintro _ ⟨E, rfl⟩)
          (go_wp2; go_ret; exact ⟨by unfold treeOk; rw [Hn.out]; rfl, HB5.out.trans (E.h.mono HB5.out.size)⟩)
        | true =>
          have Hy := hid (HAL.out.trans (show twigOk ⟨false, xk, xv, xn⟩ = true by simp [twigOk, hf]))
          have Hu := hid (HUS.out.trans (congrArg (usedT (L.take k) + ·) (if_neg Bool.false_ne_true)))
          have hq1 := hq xk xv xn
          rw [hf] at hq1
          (refine wp_region_ext0 W5 (Below.refl _ _) ?_; (try dsimp only [List.append]); (repeat (go_big_quiet_step (first | (go_at_call 33; exact call_ext_same _ (spec_l1ValueIs _ _ _ (by assumption)))))); refine wpQuiet_nil ?_; rintro _ ⟨E, rfl⟩)
          have HBE := hid (HBB.out.trans (E.h.mono HBB.out.size))
          go_wp2
          go_roundw
          case rel => exact ⟨k+1, by omega, by go_num, by rw [Hu.out, Nat.add_zero], Hy, HBE.out⟩
          case measure => simp [intOf]; omega
    · obtain rfl : k = 16 := by omega
      have HU := hid (show usedT (L.take 16) = usedT L by rw [List.take_of_length_le (by rw [HC.out]; exact Nat.le_refl _)])
      have hul := usedT_le16 HC.out
      have HAA := hid (show L.all twigOk = true by have z := HA.out; rwa [List.take_of_length_le (by rw [HC.out]; exact Nat.le_refl _)] at z)
      have k64 : wr.cell? ⟨w.heap.size, 64, none⟩ = some (.int .i64 root) := tree_root B0r.out HC.out
      rw [HU.out]
      obtain ⟨rr, hrr⟩ : ∃ r, keysT (usedT L) L root [] = r := ⟨_, rfl⟩
      obtain ⟨xs, o⟩ := rr
      have hx16 := keysT_len (usedT L) L root [] (by simp)
      have HXI := hid (keysT_in (usedT L) L root [] (by simp))
      rw [hrr] at hx16 HXI
      dsimp only at hx16 HXI
      have HOK := hid (show treeOk ⟨L, root⟩ = (ascT L xs && o && decide (xs.length = usedT L)) by
        unfold treeOk listT
        dsimp only
        rw [hrr, HAA.out, Bool.true_and])
      obtain ⟨W3, hW3⟩ : ∃ X, wr.alloc (.cells #[] 3) = X := ⟨_, rfl⟩
      have hB3 : Below wr.heap.size wr W3 := by rw [← hW3]; exact (Below.refl _ _).alloc (Nat.le_refl _) _
      have O3 : Row (fun b => b = wr.heap.size) W3 (.slice (some ⟨wr.heap.size, 0, none⟩) 0 0) [] := by
        refine ⟨?_, fun b hb => ?_⟩
        · rw [← hW3]
          exact owns_litN wr 3 1 0 #[] 0 (Nat.zero_le _) rfl (Nat.zero_le _)
        · simp [Blk, Value.ownBlock] at hb; omega
      have HC0 := hid (spec_l15Keys0 (usedT L) L HC.out root root [] _ _ W3 (Nat.le_refl _) (by simp) O3)
      rw [hrr] at HC0
      dsimp only at HC0
      have B03 := hid (B0r.out.below hB3)
      have HB3 := hid (HBr.out.trans (hB3.mono HBr.out.size))
      have HN := hid (show w.heap.size + 1 ≤ wr.heap.size by have := hB.size; have := HS1.out; omega)
      have hl65 := hl
      have HW3 := hid hW3
      clear HA hB hrr hW3 O3 hB3 B0 hul
      go_upto_region 11 with (first | (refine wpList_load_boxg rfl 31 _ rfl w.heap.size (encT L root) (by exact B0r.out.1) rfl _ Try.underlying31 rfl (by rw [hl65]; kernel_rfl) ?_) | (go_at_call 34; rw [HW3.out]; refine HC0.out.mono ?_; rintro e w5 ⟨u, rfl, R5, C5⟩))
      obtain ⟨ua, uc, rfl⟩ := R5.form
      have hul := usedT_le16 HC.out
      have B5 := hid (B03.out.chg C5 (fun h => by have := HN.out; omega))
      have HB5 := hid (below_chg HB3.out C5 HB3.out.size (fun b h => by have := HN.out; omega))
      have HF5 := hid (Flat.of_owns R5.1)
      clear R5 C5 HC0 k64 HW3 B03 HB3
      obtain ⟨a9, cap9, e9, hl9, hm9, HCX⟩ := Ints.open (show Ints w5 (.slice ua xs.length uc) xs from HF5.out)
      obtain ⟨rfl, -, rfl⟩ : ua = a9 ∧ True ∧ uc = cap9 := by simpa using e9
      have HCX := hid HCX
      have hul2 := hul
      clear e9 HF5
      go_wp2
      go_loopw [8] (fun i wx => ∃ k : Nat, (k + 1 ≤ xs.length ∨ k = 0) ∧ i = .int .i64 ((k : Int) + 1) ∧ Hid (ascTo L xs (k+1)) ∧ Below w5.heap.size w5 wx) (fun i _ => 18 - (intOf i).toNat)
      case atStart => exact ⟨0, .inr rfl, rfl, hid (fun j h0 h1 _ => by omega), Below.refl _ _⟩
      case round =>
        obtain ⟨k, hk2, rfl, HAS, hBx⟩ := hrel
        have B5x := hid (B5.out.below hBx)
        have HBx := hid (HB5.out.trans (hBx.mono HB5.out.size))
        have HBy := hid hBx
        by_cases hlt2 : k + 1 < xs.length
        · have hlt' : (k : Int) + 1 < (xs.length : Int) := by omega
          obtain ⟨bb, off, rfl, hbs, c0⟩ := HCX.out k (by omega)
          have c1 := (HCX.out (k+1) hlt2 |> fun ⟨_, _, q, _, c⟩ => by cases q; exact c : w5.cell? ⟨bb, off + (k+1), none⟩ = some (.int .i64 xs[k+1]))
          have HST := hid (ascTo_next HAS.out hlt2 (by omega))
          have HNO := hid (fun (h : ascTo L xs xs.length) => h (k+1) (by omega) hlt2 hlt2)
          simp only [Nat.add_sub_cancel] at HST HNO
          have i0 := inB_nn (HXI.out xs[k] (List.getElem_mem _))
          have i1 := inB_nn (HXI.out xs[k+1] (List.getElem_mem _))
          obtain ⟨p0, hp0⟩ : ∃ p : Nat, xs[k] = (p : Int) := ⟨xs[k].toNat, by omega⟩
          obtain ⟨p1, hp1⟩ : ∃ p : Nat, xs[k+1] = (p : Int) := ⟨xs[k+1].toNat, by omega⟩
          rw [hp0] at c0 i0 HST HNO
          rw [hp1] at c1 i1 HST HNO
          have e0 := (hBx.cell (p := ⟨bb, off + k, none⟩) hbs).trans c0
          have e1 := (hBx.cell (p := ⟨bb, off + (k+1), none⟩) hbs).trans c1
          have t0 := (tree_at B5x.out HC.out p0 (by omega)).2.1
          have t1 := (tree_at B5x.out HC.out p1 (by omega)).2.1
          have hix : ((k : Int) + 1).toNat = k + 1 := by omega
          have hix2 : ((k : Int) + 1 - 1).toNat = k := by omega
          have j00 : (0 : Int) ≤ (p0 : Int) := by omega
          have j01 : (p0 : Int) < 16 := by omega
          have j10 : (0 : Int) ≤ (p1 : Int) := by omega
          have j11 : (p1 : Int) < 16 := by omega
          obtain ⟨x0, hx0⟩ : ∃ x, (tw L (p0 : Int)).key_ = x := ⟨_, rfl⟩
          obtain ⟨x1, hx1⟩ : ∃ x, (tw L (p1 : Int)).key_ = x := ⟨_, rfl⟩
          rw [hx0] at t0 HST HNO
          rw [hx1] at t1 HST HNO
          clear c0 c1 HCX hx0 hx1 hp0 hp1 hBx i0 i1 hk2
          by_cases heq : x1 ≤ x0
          · have Hn := hid (show treeOk ⟨L, root⟩ = false by
              rw [HOK.out]
              cases h9 : ascT L xs with
              | false => rfl
              | true => exact absurd (HNO.out ((ascT_all L xs).1 h9)) (by omega))
            go_upto_region 14 with fail
            go_quiet (fail)
            go_wp2
            go_ret
            exact ⟨ret_bool Hn.out.symm, below_drewN HBx.out _⟩
          · have HS9 := hid (HST.out (by omega))
            go_upto_region 14 with fail
            go_quiet (fail)
            go_wp2
            go_roundw
            case rel => exact ⟨k+1, .inl (by omega), by go_num, HS9, below_drewN HBy.out _⟩
            case measure => simp [intOf]; omega
        · have Hy := hid (show treeOk ⟨L, root⟩ = (o && decide (xs.length = usedT L)) by
            rw [HOK.out, (ascT_all L xs).2 (fun j h0 hj hjl => HAS.out j h0 (by omega) hjl), Bool.true_and])
          have hlt' : ¬ (k : Int) + 1 < (xs.length : Int) := by omega
          clear HCX HAS hBx hk2
          cases o with
          | false =>
            go_wp2
            go_ret
            exact ⟨by rw [Hy.out]; rfl, HBx.out⟩
          | true =>
            by_cases he : xs.length = usedT L
            · have he2 : ((xs.length : Nat) : Int) = ((usedT L : Nat) : Int) := by rw [he]
              go_wp2
              go_ret
              exact ⟨by rw [Hy.out, decide_eq_true he]; simp [he2], HBx.out⟩
            · have he2 : ¬ ((xs.length : Nat) : Int) = ((usedT L : Nat) : Int) := by omega
              go_wp2
              go_ret
              exact ⟨by rw [Hy.out, decide_eq_false he]; simp [he2], HBx.out⟩
end Go.Proofs.Ytcjeafhejkppeaa
