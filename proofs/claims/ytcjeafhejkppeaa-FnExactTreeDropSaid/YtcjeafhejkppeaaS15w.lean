/- Chapter 15's model: the walk to a key; TreeFind. -/
import Derived.Test.YtcjeafhejkppeaaS15o
import Derived.Test.YtcjeafhejkppeaaF15w
namespace Go.Proofs.Ytcjeafhejkppeaa
set_option maxRecDepth 100000
open Go.RowKit Go.Proofs Go.Own
open Go Go.BigFrame
set_option linter.unusedVariables false
set_option linter.unusedSimpArgs false
theorem results_t3 {P : Program} {fn : Func} {p q r : Tmp} (h : fn.results = #[.tmp p, .tmp q, .tmp r]) (tmps : Array Value) (w : World) : (results fn tmps).run P w = .ok (.tuple #[tmps.getD p undef, tmps.getD q undef, tmps.getD r undef]) w := by
  simp [results, h]
set_option maxHeartbeats 8000000 in
theorem spec_l15Walk0 (L : List Twig) (hL : L.length = 16) (root key : Int) (ps : List Int) (hp : Part L root ps) (w : World) :
    Calls Try.prog 41 #[.agg (encT L root).toArray, .int .i64 key] w fun e w' => ∃ u, e = .returned (.tuple #[u, .bool (wayT L key 8 root []).2.1, .bool (wayT L key 8 root []).2.2]) ∧ Row (fun b => w.heap.size + 1 ≤ b) w' u (wayT L key 8 root []).1 ∧ Below w.heap.size w w' := by
  obtain ⟨j0, hj, hy0, hy1, hy2⟩ := info_parts infoIntT
  have hl : (encT L root).length = 65 := tree_len (c := ⟨L, root⟩) hL
  have hl2 : (encT L root).toArray.size = 65 := by rw [List.size_toArray, hl]
  have HL := hid hL
  obtain ⟨W1, hW1⟩ : ∃ X, (w.alloc (.cells (encT L root).toArray 31)).alloc (.cells #[] 3) = X := ⟨_, rfl⟩
  have HB1 := hid (show Below w.heap.size w W1 by rw [← hW1]; exact ((Below.refl _ _).alloc (Nat.le_refl _) _).alloc (by simp) _)
  have B1 := hid (show BoxF W1 w.heap.size (TreeD.enc ⟨L, root⟩) by rw [← hW1]; exact (BoxF.alloc w (encT L root).toArray 31).below ((Below.refl _ _).alloc (Nat.le_refl _) _))
  have R1 : Hid (Row (fun b => w.heap.size + 1 ≤ b) W1 (.slice (some ⟨w.heap.size + 1, 0, none⟩) 0 0) []) := by
    refine hid ⟨?_, fun b hb => ?_⟩
    · rw [← hW1]
      have h1 := owns_litN (w.alloc (.cells (encT L root).toArray 31)) 3 1 0 #[] 0 (Nat.zero_le _) rfl (Nat.zero_le _)
      rw [show (w.alloc (.cells (encT L root).toArray 31)).heap.size = w.heap.size + 1 by simp] at h1
      exact h1
    · simp [Blk, Value.ownBlock] at hb; omega
  have HN1 := hid (show w.heap.size + 2 ≤ W1.heap.size by rw [← hW1]; simp)
  have HW1 := hid hW1
  obtain ⟨RR, hRR⟩ : ∃ r, wayT L key 8 root [] = r := ⟨_, rfl⟩
  obtain ⟨RW, rf, ro⟩ := RR
  rw [hRR]
  dsimp only
  have HRR := hid hRR
  have HP := hid hp
  have k64 : W1.cell? ⟨w.heap.size, 64, none⟩ = some (.int .i64 root) := tree_root B1.out hL
  clear hW1 hL hRR hp
  go_enter Try.func41, Try.ntmps41
  go_upto_region 2 with fail
  rw [HW1.out]
  go_wp2
  clear k64
  go_loopw [7, 8] (fun v pv wr => ∃ (W : List Int) (q : Int) (ys : List Int) (ua : Option Addr) (uc : Nat), v = .slice ua W.length uc ∧ pv = .int .i64 q ∧ W.length ≤ 8 ∧ Hid (Row (fun b => w.heap.size + 1 ≤ b) wr (.slice ua W.length uc) W) ∧ Hid (Part L q ys) ∧ Hid (wayT L key (8 - W.length) q W = (RW, rf, ro)) ∧ Hid (Below w.heap.size w wr) ∧ Hid (BoxF wr w.heap.size (TreeD.enc ⟨L, root⟩)) ∧ Hid (w.heap.size + 2 ≤ wr.heap.size)) (fun v _ _ => match v with | .slice _ n _ => 9 - n | _ => 0)
  case atStart => exact ⟨[], root, ps, _, _, rfl, rfl, by simp, R1, HP, HRR, HB1, B1, HN1⟩
  case round =>
    obtain ⟨W, q, ys, ua, uc, rfl, rfl, hW8, HR, HPQ, HWY, HB, BX, HN⟩ := hrel
    clear R1 HP HRR HB1 B1 HN1
    by_cases hq : q = -1
    · subst hq
      have HE := hid (show ((RW, rf, ro) : List Int × Bool × Bool) = (W, false, true) from HWY.out.symm.trans (by cases h9 : 8 - W.length <;> simp [wayT]))
      obtain ⟨rfl, rfl, rfl⟩ : RW = W ∧ rf = false ∧ ro = true := by simpa using HE.out
      go_wp2
      (refine bodyPost_ret (results_t3 rfl _ _) rfl ?_)
      exact ⟨_, rfl, HR.out, HB.out⟩
    · by_cases h8 : W.length = 8
      · have HE := hid (show ((RW, rf, ro) : List Int × Bool × Bool) = (W, false, false) from HWY.out.symm.trans (by rw [h8]; simp [wayT, hq]))
        obtain ⟨rfl, rfl, rfl⟩ : RW = W ∧ rf = false ∧ ro = false := by simpa using HE.out
        have h8i : ((RW.length : Nat) : Int) = 8 := by omega
        have HR8 := HR.out
        rw [h8] at HR8
        have HR9 := hid HR8
        clear HR8
        go_wp2
        (refine bodyPost_ret (results_t3 rfl _ _) rfl ?_)
        exact ⟨_, rfl, HR9.out, HB.out⟩
      · have h8i : ¬ ((W.length : Nat) : Int) = 8 := by omega
        obtain ⟨xs, zs, hi, hu, h3, h4, -⟩ := HPQ.out.inv hq
        obtain ⟨k, rfl, hk16⟩ : ∃ k : Nat, q = (k : Int) ∧ k < 16 := by
          have := inB_nn hi
          exact ⟨q.toNat, by omega, by omega⟩
        have H3 := hid h3
        have H4 := hid h4
        have hk0 : (0 : Int) ≤ (k : Int) := by omega
        have hki : (k : Int) < 16 := by omega
        have HWY2 := hid (show wayT L key (8 - W.length) (k : Int) W = if (tw L (k : Int)).key_ = key then (W ++ [(k : Int)], true, true) else wayT L key (8 - (W ++ [(k : Int)]).length) (if key < (tw L (k : Int)).key_ then (tw L (k : Int)).left_ else (tw L (k : Int)).right_) (W ++ [(k : Int)]) by
          rw [show 8 - W.length = (8 - (W ++ [(k : Int)]).length) + 1 by simp; omega, wayT, if_neg hq])
        rw [HWY.out] at HWY2
        clear hi hu h3 h4
        go_wp2_with (at_builtin; refine wpList_append_at rfl _ _ 42 rfl 0 3 j0 (.int .i64 0) 1 8 Try.underlying42 hj hy0 hy1 hy2 rfl (by decide) _ _ _ rfl (owns_below HR.out.1 ((Below.refl _ _).alloc (Nat.le_refl _) _)) _ 1 _ rfl (Flat.of_owns (owns_litN wr 3 1 1 #[.int .i64 k] 0 (Nat.zero_le _) rfl (by decide))) (by decide) (oneT k) (by unfold maxLen; omega) (by omega) (by omega) ?_)
        intro v7 w7 o7 g7 p7
        have hba : Below wr.heap.size wr (wr.alloc (.cells #[.int .i64 k] 3)) := (Below.refl _ _).alloc (Nat.le_refl _) _
        have C57 : ChgS (fun b => w.heap.size + 1 ≤ b) wr w7 := (ChgS.of_below hba _).trans (ChgS.of_grown g7 fun b hb => HR.out.2 b hb)
        have BX7 := hid (BX.out.chg C57 (by omega))
        have HB7 := hid (below_chg HB.out C57 HB.out.size (fun b h => by omega))
        have HN7 := hid (show w.heap.size + 2 ≤ w7.heap.size by have := C57.size; have := HN.out; omega)
        have HR7 := hid (show Row (fun b => w.heap.size + 1 ≤ b) w7 v7 (W ++ [(k : Int)]) from ⟨by rw [encI_snocT, List.length_append]; exact o7, fun b hb => by
          rcases p7 b hb with h | h
          · exact HR.out.2 b h
          · rw [h]; simp; have := HN.out; omega⟩)
        obtain ⟨va7, vc7, rfl⟩ := HR7.out.form
        have hlen7 : (W ++ [(k : Int)]).length = W.length + 1 := by simp
        rw [hlen7] at HR7
        obtain ⟨t0, t1, t2, t3⟩ := tree_at BX7.out HL.out k hk16
        obtain ⟨X, hX⟩ : ∃ X, tw L (k : Int) = X := ⟨_, rfl⟩
        rw [hX] at t1 t2 t3 HWY2 H3 H4
        clear hX t0 o7 g7 p7 hba C57 HR HB BX HN HWY HPQ
        obtain ⟨xu, xk, xl, xr⟩ := X
        dsimp only at t1 t2 t3 HWY2 H3 H4
        by_cases he : xk = key
        · have HE := hid (show ((RW, rf, ro) : List Int × Bool × Bool) = (W ++ [(k : Int)], true, true) from HWY2.out.trans (if_pos he))
          obtain ⟨rfl, rfl, rfl⟩ : RW = W ++ [(k : Int)] ∧ rf = true ∧ ro = true := by simpa using HE.out
          subst he
          go_wp2
          (refine bodyPost_ret (results_t3 rfl _ _) rfl ?_)
          exact ⟨_, rfl, HR7.out, HB7.out⟩
        · have HW3 := hid (HWY2.out.trans (if_neg he)).symm
          by_cases hlt : key < xk
          · have HW4 := hid (show wayT L key (8 - (W ++ [(k : Int)]).length) xl (W ++ [(k : Int)]) = (RW, rf, ro) by have z := HW3.out; rw [if_pos hlt] at z; exact z)
            clear HWY2 HW3
            go_wp2
            go_roundw
            case rel => exact ⟨W ++ [(k : Int)], xl, xs, va7, vc7, by rw [hlen7], rfl, by rw [hlen7]; omega, by rw [hlen7]; exact HR7, H3, HW4, HB7, BX7, HN7⟩
            case measure => simp; omega
          · have HW4 := hid (show wayT L key (8 - (W ++ [(k : Int)]).length) xr (W ++ [(k : Int)]) = (RW, rf, ro) by have z := HW3.out; rw [if_neg hlt] at z; exact z)
            clear HWY2 HW3
            go_wp2
            go_roundw
            case rel => exact ⟨W ++ [(k : Int)], xr, zs, va7, vc7, by rw [hlen7], rfl, by rw [hlen7]; omega, by rw [hlen7]; exact HR7, H4, HW4, HB7, BX7, HN7⟩
            case measure => simp; omega
theorem bool_cases {P : Prop} (b : Bool) (h1 : b = true → P) (h2 : b = false → P) : P := by cases b with | true => exact h1 rfl | false => exact h2 rfl
set_option maxHeartbeats 8000000 in
theorem spec_TreeFind0 (c : TreeD) (hc : c.twigs_.length = 16) (key : Int) (w : World) :
    Calls Try.prog 17 #[.agg c.enc.toArray, .int .i64 key] w fun e w' => e = .returned (.tuple #[.int .i64 (findC c key).1, .int .i64 (findC c key).2]) ∧ Below w.heap.size w w' := by
  obtain ⟨L, root⟩ := c
  dsimp only at hc
  change Calls Try.prog 17 #[.agg (encT L root).toArray, .int .i64 key] w _
  have hl : (encT L root).length = 65 := tree_len (c := ⟨L, root⟩) hc
  have hl2 : (encT L root).toArray.size = 65 := by rw [List.size_toArray, hl]
  have HC := hid hc
  have HOK0 := hid (fun (W : World) => spec_TreeOk0 ⟨L, root⟩ hc W)
  rw [show (TreeD.enc ⟨L, root⟩) = encT L root from rfl] at HOK0
  obtain ⟨W1, hW1⟩ : ∃ X, w.alloc (.cells (encT L root).toArray 31) = X := ⟨_, rfl⟩
  have HB1 := hid (show Below w.heap.size w W1 by rw [← hW1]; exact (Below.refl _ _).alloc (Nat.le_refl _) _)
  have B1 := hid (show BoxF W1 w.heap.size (encT L root) by rw [← hW1]; exact BoxF.alloc w (encT L root).toArray 31)
  have HW1 := hid hW1
  clear hW1
  cases hok : treeOk ⟨L, root⟩ with
  | false =>
    have HF := hid (show findC ⟨L, root⟩ key = (0, 1) by unfold findC; rw [hok]; rfl)
    rw [hok] at HOK0
    clear hok
    go_enter Try.func17, Try.ntmps17
    go_upto_region 1 with fail
    rw [HW1.out]
    go_wp2_with (first | (refine wpList_load_boxg rfl 31 _ rfl w.heap.size (encT L root) (by exact B1.out.1) rfl _ Try.underlying31 rfl (by rw [hl]; kernel_rfl) ?_) | (go_at_call 11; refine (HOK0.out _).mono ?_; rintro e w2 ⟨rfl, b2⟩; have HB2 := hid (HB1.out.trans (b2.mono HB1.out.size)); clear b2))
    refine bodyPost_ret (results_t2 rfl _ _) rfl ?_
    rw [HF.out]
    exact ⟨rfl, HB2.out⟩
  | true =>
    obtain ⟨ps, hp, -⟩ := treeOk_part (t := ⟨L, root⟩) hc hok
    rw [hok] at HOK0
    have HOK := hid hok
    clear hok
    cases hv : isVal key with
    | false =>
      have HV := hid hv
      have HF := hid (show findC ⟨L, root⟩ key = (0, 1) by unfold findC; rw [HOK.out, hv]; rfl)
      clear hv
      go_enter Try.func17, Try.ntmps17
      go_upto_region 1 with fail
      rw [HW1.out]
      go_wp2_with (first | (refine wpList_load_boxg rfl 31 _ rfl w.heap.size (encT L root) (by exact B1.out.1) rfl _ Try.underlying31 rfl (by rw [hl]; kernel_rfl) ?_) | (go_at_call 11; refine (HOK0.out _).mono ?_; rintro e w2 ⟨rfl, b2⟩; have HB2 := hid (HB1.out.trans (b2.mono HB1.out.size)); clear b2) | (go_at_call 33; refine (spec_l1ValueIs _ _ _ HV.out).mono ?_; rintro e w' ⟨rfl, rfl⟩))
      refine bodyPost_ret (results_t2 rfl _ _) rfl ?_
      rw [HF.out]
      exact ⟨rfl, HB2.out⟩
    | true =>
      have HV := hid hv
      have HF := hid (show findC ⟨L, root⟩ key = (((wayT L key 8 root []).1.length : Int), codeW (wayT L key 8 root [])) by unfold findC wayC; rw [HOK.out, hv]; rfl)
      have HWK := hid (fun (W : World) => spec_l15Walk0 L hc root key ps hp W)
      have hw8 := wayT_len L key 8 root []
      obtain ⟨⟨RW, rf, ro⟩, hR⟩ : ∃ r, wayT L key 8 root [] = r := ⟨_, rfl⟩
      rw [hR] at HF HWK hw8
      dsimp only at HF HWK hw8
      clear hv hR hp
      go_enter Try.func17, Try.ntmps17
      go_upto_region 1 with fail
      rw [HW1.out]
      go_upto_region 4 with (first | (refine wpList_load_boxg rfl 31 _ rfl w.heap.size (encT L root) (by first | exact B1.out.1 | exact B2.out.1) rfl _ Try.underlying31 rfl (by rw [hl]; kernel_rfl) ?_) | (go_at_call 11; refine (HOK0.out _).mono ?_; rintro e w2 ⟨rfl, b2⟩; have HB2 := hid (HB1.out.trans (b2.mono HB1.out.size)); have B2 := hid (B1.out.below b2); clear b2) | (go_at_call 33; refine (spec_l1ValueIs _ _ _ HV.out).mono ?_; rintro e w' ⟨rfl, rfl⟩) | (go_at_call 41; refine (HWK.out _).mono ?_; rintro e w3 ⟨u, rfl, R3, b3⟩; have HB3 := hid (HB2.out.trans (b3.mono HB2.out.size)); clear b3; obtain ⟨ua, uc, rfl⟩ := R3.form))
      cases ro with
      | false =>
        go_wp2
        refine bodyPost_ret (results_t2 rfl _ _) rfl ?_
        rw [HF.out]
        exact ⟨rfl, HB3.out⟩
      | true =>
        cases rf with
        | true =>
          go_wp2
          refine bodyPost_ret (results_t2 rfl _ _) rfl ?_
          rw [HF.out]
          exact ⟨rfl, HB3.out⟩
        | false =>
          go_wp2
          refine bodyPost_ret (results_t2 rfl _ _) rfl ?_
          rw [HF.out]
          exact ⟨rfl, HB3.out⟩
end Go.Proofs.Ytcjeafhejkppeaa
