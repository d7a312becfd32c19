/- Chapter 15's model: TreeAdd. (printed by tools/mk_s15a.py) -/
import Derived.Test.YtcjeafhejkppeaaS15h
namespace Go.Proofs.Ytcjeafhejkppeaa
set_option maxRecDepth 100000
open Go.RowKit Go.Proofs Go.Own
open Go Go.BigFrame
set_option linter.unusedVariables false
set_option linter.unusedSimpArgs false
theorem results_cq {P : Program} {fn : Func} {p q : Tmp} {ty : TypeId} (h : fn.results = #[.cell p ty, .tmp q]) (tmps : Array Value) (w : World) (b : Nat) (cs : List Value) (hp : tmps.getD p undef = .pointer (some ⟨b, 0, none⟩)) (hb : BoxF w b cs) (d : TypeDesc) (hu : P.underlying ty = some d) (hd : d.isRow = true) (hi : (P.info? ty).map (·.size) = some cs.length) :
    (results fn tmps).run P w = .ok (.tuple #[.agg cs.toArray, tmps.getD q undef]) w := by
  have hr := run_loadVar_mid (P := P) w b 0 ty cs d hb.1.range hu hd hi
  have hp2 : tmps[p]?.getD undef = .pointer (some ⟨b, 0, none⟩) := by simpa using hp
  simp [results, h, hp2, asAddr, hr]
set_option maxHeartbeats 8000000 in
theorem spec_TreeAdd0 (c : TreeD) (hc : c.twigs_.length = 16) (key : Int) (w : World) :
    Calls Try.prog 19 #[.agg c.enc.toArray, .int .i64 key] w fun e w' => e = .returned (.tuple #[.agg (addC c key).1.enc.toArray, .int .i64 (addC c key).2]) ∧ Below w.heap.size w w' := by
  obtain ⟨L, root⟩ := c
  dsimp only at hc
  change Calls Try.prog 19 #[.agg (encT L root).toArray, .int .i64 key] w _
  have hl : (encT L root).length = 65 := tree_len (c := ⟨L, root⟩) hc
  have hone : (encT L root).all (·.oneCell') = true := tree_one ⟨L, root⟩
  have hl2 : (encT L root).toArray.size = 65 := by rw [List.size_toArray, hl]
  have HC := hid hc
  have HOK0 := hid (fun (W : World) => spec_TreeOk0 ⟨L, root⟩ hc W)
  rw [show (TreeD.enc ⟨L, root⟩) = encT L root from rfl] at HOK0
  obtain ⟨W1, hW1⟩ : ∃ X, (w.alloc (.cells (encT L root).toArray 31)).alloc (.cells #[.bool false, .int .i64 0, .int .i64 0, .int .i64 0, .bool false, .int .i64 0, .int .i64 0, .int .i64 0, .bool false, .int .i64 0, .int .i64 0, .int .i64 0, .bool false, .int .i64 0, .int .i64 0, .int .i64 0, .bool false, .int .i64 0, .int .i64 0, .int .i64 0, .bool false, .int .i64 0, .int .i64 0, .int .i64 0, .bool false, .int .i64 0, .int .i64 0, .int .i64 0, .bool false, .int .i64 0, .int .i64 0, .int .i64 0, .bool false, .int .i64 0, .int .i64 0, .int .i64 0, .bool false, .int .i64 0, .int .i64 0, .int .i64 0, .bool false, .int .i64 0, .int .i64 0, .int .i64 0, .bool false, .int .i64 0, .int .i64 0, .int .i64 0, .bool false, .int .i64 0, .int .i64 0, .int .i64 0, .bool false, .int .i64 0, .int .i64 0, .int .i64 0, .bool false, .int .i64 0, .int .i64 0, .int .i64 0, .bool false, .int .i64 0, .int .i64 0, .int .i64 0, .int .i64 0] 31) = X := ⟨_, rfl⟩
  have HB := hid (show Below w.heap.size w W1 by rw [← hW1]; exact ((Below.refl _ _).alloc (Nat.le_refl _) _).alloc (by simp) _)
  have BX := hid (show BoxF W1 w.heap.size (encT L root) by rw [← hW1]; exact (BoxF.alloc w (encT L root).toArray 31).below ((Below.refl _ _).alloc (Nat.le_refl _) _))
  have RB := hid (show BoxF W1 (w.heap.size + 1) [.bool false, .int .i64 0, .int .i64 0, .int .i64 0, .bool false, .int .i64 0, .int .i64 0, .int .i64 0, .bool false, .int .i64 0, .int .i64 0, .int .i64 0, .bool false, .int .i64 0, .int .i64 0, .int .i64 0, .bool false, .int .i64 0, .int .i64 0, .int .i64 0, .bool false, .int .i64 0, .int .i64 0, .int .i64 0, .bool false, .int .i64 0, .int .i64 0, .int .i64 0, .bool false, .int .i64 0, .int .i64 0, .int .i64 0, .bool false, .int .i64 0, .int .i64 0, .int .i64 0, .bool false, .int .i64 0, .int .i64 0, .int .i64 0, .bool false, .int .i64 0, .int .i64 0, .int .i64 0, .bool false, .int .i64 0, .int .i64 0, .int .i64 0, .bool false, .int .i64 0, .int .i64 0, .int .i64 0, .bool false, .int .i64 0, .int .i64 0, .int .i64 0, .bool false, .int .i64 0, .int .i64 0, .int .i64 0, .bool false, .int .i64 0, .int .i64 0, .int .i64 0, .int .i64 0] by
    rw [← hW1]
    have z := BoxF.alloc (w.alloc (.cells (encT L root).toArray 31)) #[.bool false, .int .i64 0, .int .i64 0, .int .i64 0, .bool false, .int .i64 0, .int .i64 0, .int .i64 0, .bool false, .int .i64 0, .int .i64 0, .int .i64 0, .bool false, .int .i64 0, .int .i64 0, .int .i64 0, .bool false, .int .i64 0, .int .i64 0, .int .i64 0, .bool false, .int .i64 0, .int .i64 0, .int .i64 0, .bool false, .int .i64 0, .int .i64 0, .int .i64 0, .bool false, .int .i64 0, .int .i64 0, .int .i64 0, .bool false, .int .i64 0, .int .i64 0, .int .i64 0, .bool false, .int .i64 0, .int .i64 0, .int .i64 0, .bool false, .int .i64 0, .int .i64 0, .int .i64 0, .bool false, .int .i64 0, .int .i64 0, .int .i64 0, .bool false, .int .i64 0, .int .i64 0, .int .i64 0, .bool false, .int .i64 0, .int .i64 0, .int .i64 0, .bool false, .int .i64 0, .int .i64 0, .int .i64 0, .bool false, .int .i64 0, .int .i64 0, .int .i64 0, .int .i64 0] 31
    rw [show (w.alloc (.cells (encT L root).toArray 31)).heap.size = w.heap.size + 1 by simp] at z
    exact z)
  have hz : ∀ w : World, (zeroValue 31).run Try.prog w = .ok (.agg #[.bool false, .int .i64 0, .int .i64 0, .int .i64 0, .bool false, .int .i64 0, .int .i64 0, .int .i64 0, .bool false, .int .i64 0, .int .i64 0, .int .i64 0, .bool false, .int .i64 0, .int .i64 0, .int .i64 0, .bool false, .int .i64 0, .int .i64 0, .int .i64 0, .bool false, .int .i64 0, .int .i64 0, .int .i64 0, .bool false, .int .i64 0, .int .i64 0, .int .i64 0, .bool false, .int .i64 0, .int .i64 0, .int .i64 0, .bool false, .int .i64 0, .int .i64 0, .int .i64 0, .bool false, .int .i64 0, .int .i64 0, .int .i64 0, .bool false, .int .i64 0, .int .i64 0, .int .i64 0, .bool false, .int .i64 0, .int .i64 0, .int .i64 0, .bool false, .int .i64 0, .int .i64 0, .int .i64 0, .bool false, .int .i64 0, .int .i64 0, .int .i64 0, .bool false, .int .i64 0, .int .i64 0, .int .i64 0, .bool false, .int .i64 0, .int .i64 0, .int .i64 0, .int .i64 0]) w := fun w => zero_run w (by kernel_rfl)
  have HW1 := hid hW1
  clear hW1
  cases hok : treeOk ⟨L, root⟩ with
  | false =>
    have HF := hid (show addC ⟨L, root⟩ key = (⟨L, root⟩, 1) by unfold addC; rw [hok]; rfl)
    rw [hok] at HOK0
    clear hok
    go_enter Try.func19, Try.ntmps19
    go_upto_region 1 with fail
    rw [HW1.out]
    go_wp2_with (first | (refine wpList_load_boxg rfl 31 _ rfl w.heap.size (encT L root) (by exact BX.out.1) rfl _ Try.underlying31 rfl (by rw [hl]; kernel_rfl) ?_) | (go_at_call 11; refine (HOK0.out _).mono ?_; rintro e wq ⟨rfl, bq⟩; have HB := hid (HB.out.trans (bq.mono HB.out.size)); have BX := hid (BX.out.below bq); have RB := hid (RB.out.below bq); clear bq) | (refine wpList_store_box rfl 31 _ _ rfl (w.heap.size + 1) [.bool false, .int .i64 0, .int .i64 0, .int .i64 0, .bool false, .int .i64 0, .int .i64 0, .int .i64 0, .bool false, .int .i64 0, .int .i64 0, .int .i64 0, .bool false, .int .i64 0, .int .i64 0, .int .i64 0, .bool false, .int .i64 0, .int .i64 0, .int .i64 0, .bool false, .int .i64 0, .int .i64 0, .int .i64 0, .bool false, .int .i64 0, .int .i64 0, .int .i64 0, .bool false, .int .i64 0, .int .i64 0, .int .i64 0, .bool false, .int .i64 0, .int .i64 0, .int .i64 0, .bool false, .int .i64 0, .int .i64 0, .int .i64 0, .bool false, .int .i64 0, .int .i64 0, .int .i64 0, .bool false, .int .i64 0, .int .i64 0, .int .i64 0, .bool false, .int .i64 0, .int .i64 0, .int .i64 0, .bool false, .int .i64 0, .int .i64 0, .int .i64 0, .bool false, .int .i64 0, .int .i64 0, .int .i64 0, .bool false, .int .i64 0, .int .i64 0, .int .i64 0, .int .i64 0] (encT L root) (by exact RB.out) rfl rfl (by rw [hl]; rfl) (by rw [hl]; kernel_rfl) hone ?_))
    intro w9 o9 C9
    have O9 := hid o9
    have HB9 := hid (below_chg HB.out C9 HB.out.size (fun b hb => by omega))
    clear o9 C9
    go_wp2
    exact bodyPost_ret (results_cq rfl _ _ (w.heap.size + 1) (encT L root) rfl O9.out _ Try.underlying31 rfl (by rw [hl]; kernel_rfl)) rfl ⟨by rw [HF.out]; rfl, HB9.out⟩
  | true =>
    obtain ⟨ps, hp, -⟩ := treeOk_part (t := ⟨L, root⟩) hc hok
    rw [hok] at HOK0
    have HOK := hid hok
    clear hok
    cases hv : isVal key with
    | false =>
      have HV := hid hv
      have HF := hid (show addC ⟨L, root⟩ key = (⟨L, root⟩, 1) by unfold addC; rw [HOK.out, hv]; rfl)
      clear hv
      go_enter Try.func19, Try.ntmps19
      go_upto_region 1 with fail
      rw [HW1.out]
      go_wp2_with (first | (refine wpList_load_boxg rfl 31 _ rfl w.heap.size (encT L root) (by exact BX.out.1) rfl _ Try.underlying31 rfl (by rw [hl]; kernel_rfl) ?_) | (go_at_call 11; refine (HOK0.out _).mono ?_; rintro e wq ⟨rfl, bq⟩; have HB := hid (HB.out.trans (bq.mono HB.out.size)); have BX := hid (BX.out.below bq); have RB := hid (RB.out.below bq); clear bq) | (go_at_call 33; refine (spec_l1ValueIs _ _ _ HV.out).mono ?_; rintro e w' ⟨rfl, rfl⟩) | (refine wpList_store_box rfl 31 _ _ rfl (w.heap.size + 1) [.bool false, .int .i64 0, .int .i64 0, .int .i64 0, .bool false, .int .i64 0, .int .i64 0, .int .i64 0, .bool false, .int .i64 0, .int .i64 0, .int .i64 0, .bool false, .int .i64 0, .int .i64 0, .int .i64 0, .bool false, .int .i64 0, .int .i64 0, .int .i64 0, .bool false, .int .i64 0, .int .i64 0, .int .i64 0, .bool false, .int .i64 0, .int .i64 0, .int .i64 0, .bool false, .int .i64 0, .int .i64 0, .int .i64 0, .bool false, .int .i64 0, .int .i64 0, .int .i64 0, .bool false, .int .i64 0, .int .i64 0, .int .i64 0, .bool false, .int .i64 0, .int .i64 0, .int .i64 0, .bool false, .int .i64 0, .int .i64 0, .int .i64 0, .bool false, .int .i64 0, .int .i64 0, .int .i64 0, .bool false, .int .i64 0, .int .i64 0, .int .i64 0, .bool false, .int .i64 0, .int .i64 0, .int .i64 0, .bool false, .int .i64 0, .int .i64 0, .int .i64 0, .int .i64 0] (encT L root) (by exact RB.out) rfl rfl (by rw [hl]; rfl) (by rw [hl]; kernel_rfl) hone ?_))
      intro w9 o9 C9
      have O9 := hid o9
      have HB9 := hid (below_chg HB.out C9 HB.out.size (fun b hb => by omega))
      clear o9 C9
      go_wp2
      exact bodyPost_ret (results_cq rfl _ _ (w.heap.size + 1) (encT L root) rfl O9.out _ Try.underlying31 rfl (by rw [hl]; kernel_rfl)) rfl ⟨by rw [HF.out]; rfl, HB9.out⟩
    | true =>
      have HV := hid hv
      have HWK := hid (fun (W : World) => spec_l15Walk0 L hc root key ps hp W)
      have HWI := hid (wayT_in L key 8 root [] ps hp (by simp))
      have hw8 := wayT_len L key 8 root []
      have HF0 := hid (show addC ⟨L, root⟩ key = if codeW (wayT L key 8 root []) = 5 then (if freeT L = -1 then ((⟨L, root⟩ : TreeD), (3 : Int)) else (hangT ⟨L.set (freeT L).toNat ⟨true, key, -1, -1⟩, root⟩ (linkOf L key (wayT L key 8 root []).1) (freeT L), 0)) else (⟨L, root⟩, codeW (wayT L key 8 root [])) by unfold addC wayC; rw [HOK.out, hv]; rfl)
      obtain ⟨⟨RW, rf, ro⟩, hR⟩ : ∃ r, wayT L key 8 root [] = r := ⟨_, rfl⟩
      rw [hR] at HF0 HWK HWI hw8
      dsimp only at HF0 HWK HWI hw8
      clear hv hR hp
      cases ro with
      | false =>
        have HF := hid (HF0.out.trans (if_neg (by unfold codeW; simp)))
        go_enter Try.func19, Try.ntmps19
        go_upto_region 1 with fail
        rw [HW1.out]
        go_wp2_with (first | (refine wpList_load_boxg rfl 31 _ rfl w.heap.size (encT L root) (by exact BX.out.1) rfl _ Try.underlying31 rfl (by rw [hl]; kernel_rfl) ?_) | (go_at_call 11; refine (HOK0.out _).mono ?_; rintro e wq ⟨rfl, bq⟩; have HB := hid (HB.out.trans (bq.mono HB.out.size)); have BX := hid (BX.out.below bq); have RB := hid (RB.out.below bq); clear bq) | (go_at_call 33; refine (spec_l1ValueIs _ _ _ HV.out).mono ?_; rintro e w' ⟨rfl, rfl⟩) | (go_at_call 41; refine (HWK.out _).mono ?_; rintro e wq ⟨u, rfl, R3, bq⟩; have HSZ := hid HB.out.size; have HB := hid (HB.out.trans (bq.mono HB.out.size)); have BX := hid (BX.out.below bq); have RB := hid (RB.out.below bq); have HR3 := hid R3; have HFR := hid (Flat.of_owns R3.1); obtain ⟨ua, uc, rfl⟩ := R3.form; clear bq R3) | (refine wpList_store_box rfl 31 _ _ rfl (w.heap.size + 1) [.bool false, .int .i64 0, .int .i64 0, .int .i64 0, .bool false, .int .i64 0, .int .i64 0, .int .i64 0, .bool false, .int .i64 0, .int .i64 0, .int .i64 0, .bool false, .int .i64 0, .int .i64 0, .int .i64 0, .bool false, .int .i64 0, .int .i64 0, .int .i64 0, .bool false, .int .i64 0, .int .i64 0, .int .i64 0, .bool false, .int .i64 0, .int .i64 0, .int .i64 0, .bool false, .int .i64 0, .int .i64 0, .int .i64 0, .bool false, .int .i64 0, .int .i64 0, .int .i64 0, .bool false, .int .i64 0, .int .i64 0, .int .i64 0, .bool false, .int .i64 0, .int .i64 0, .int .i64 0, .bool false, .int .i64 0, .int .i64 0, .int .i64 0, .bool false, .int .i64 0, .int .i64 0, .int .i64 0, .bool false, .int .i64 0, .int .i64 0, .int .i64 0, .bool false, .int .i64 0, .int .i64 0, .int .i64 0, .bool false, .int .i64 0, .int .i64 0, .int .i64 0, .int .i64 0] (encT L root) (by exact RB.out) rfl rfl (by rw [hl]; rfl) (by rw [hl]; kernel_rfl) hone ?_))
        intro w9 o9 C9
        have O9 := hid o9
        have HB9 := hid (below_chg HB.out C9 HB.out.size (fun b hb => by omega))
        clear o9 C9
        go_wp2
        exact bodyPost_ret (results_cq rfl _ _ (w.heap.size + 1) (encT L root) rfl O9.out _ Try.underlying31 rfl (by rw [hl]; kernel_rfl)) rfl ⟨by rw [HF.out]; rfl, HB9.out⟩
      | true =>
        cases rf with
        | true =>
          have HF := hid (HF0.out.trans (if_neg (by unfold codeW; simp)))
          go_enter Try.func19, Try.ntmps19
          go_upto_region 1 with fail
          rw [HW1.out]
          go_wp2_with (first | (refine wpList_load_boxg rfl 31 _ rfl w.heap.size (encT L root) (by exact BX.out.1) rfl _ Try.underlying31 rfl (by rw [hl]; kernel_rfl) ?_) | (go_at_call 11; refine (HOK0.out _).mono ?_; rintro e wq ⟨rfl, bq⟩; have HB := hid (HB.out.trans (bq.mono HB.out.size)); have BX := hid (BX.out.below bq); have RB := hid (RB.out.below bq); clear bq) | (go_at_call 33; refine (spec_l1ValueIs _ _ _ HV.out).mono ?_; rintro e w' ⟨rfl, rfl⟩) | (go_at_call 41; refine (HWK.out _).mono ?_; rintro e wq ⟨u, rfl, R3, bq⟩; have HSZ := hid HB.out.size; have HB := hid (HB.out.trans (bq.mono HB.out.size)); have BX := hid (BX.out.below bq); have RB := hid (RB.out.below bq); have HR3 := hid R3; have HFR := hid (Flat.of_owns R3.1); obtain ⟨ua, uc, rfl⟩ := R3.form; clear bq R3) | (refine wpList_store_box rfl 31 _ _ rfl (w.heap.size + 1) [.bool false, .int .i64 0, .int .i64 0, .int .i64 0, .bool false, .int .i64 0, .int .i64 0, .int .i64 0, .bool false, .int .i64 0, .int .i64 0, .int .i64 0, .bool false, .int .i64 0, .int .i64 0, .int .i64 0, .bool false, .int .i64 0, .int .i64 0, .int .i64 0, .bool false, .int .i64 0, .int .i64 0, .int .i64 0, .bool false, .int .i64 0, .int .i64 0, .int .i64 0, .bool false, .int .i64 0, .int .i64 0, .int .i64 0, .bool false, .int .i64 0, .int .i64 0, .int .i64 0, .bool false, .int .i64 0, .int .i64 0, .int .i64 0, .bool false, .int .i64 0, .int .i64 0, .int .i64 0, .bool false, .int .i64 0, .int .i64 0, .int .i64 0, .bool false, .int .i64 0, .int .i64 0, .int .i64 0, .bool false, .int .i64 0, .int .i64 0, .int .i64 0, .bool false, .int .i64 0, .int .i64 0, .int .i64 0, .bool false, .int .i64 0, .int .i64 0, .int .i64 0, .int .i64 0] (encT L root) (by exact RB.out) rfl rfl (by rw [hl]; rfl) (by rw [hl]; kernel_rfl) hone ?_))
          intro w9 o9 C9
          have O9 := hid o9
          have HB9 := hid (below_chg HB.out C9 HB.out.size (fun b hb => by omega))
          clear o9 C9
          go_wp2
          exact bodyPost_ret (results_cq rfl _ _ (w.heap.size + 1) (encT L root) rfl O9.out _ Try.underlying31 rfl (by rw [hl]; kernel_rfl)) rfl ⟨by rw [HF.out]; rfl, HB9.out⟩
        | false =>
          have HF1 := hid (HF0.out.trans (if_pos (by unfold codeW; simp)))
          clear HF0
          go_enter Try.func19, Try.ntmps19
          go_upto_region 1 with fail
          rw [HW1.out]
          go_upto_region 9 with (first | (refine wpList_load_boxg rfl 31 _ rfl w.heap.size (encT L root) (by exact BX.out.1) rfl _ Try.underlying31 rfl (by rw [hl]; kernel_rfl) ?_) | (go_at_call 11; refine (HOK0.out _).mono ?_; rintro e wq ⟨rfl, bq⟩; have HB := hid (HB.out.trans (bq.mono HB.out.size)); have BX := hid (BX.out.below bq); have RB := hid (RB.out.below bq); clear bq) | (go_at_call 33; refine (spec_l1ValueIs _ _ _ HV.out).mono ?_; rintro e w' ⟨rfl, rfl⟩) | (go_at_call 41; refine (HWK.out _).mono ?_; rintro e wq ⟨u, rfl, R3, bq⟩; have HSZ := hid HB.out.size; have HB := hid (HB.out.trans (bq.mono HB.out.size)); have BX := hid (BX.out.below bq); have RB := hid (RB.out.below bq); have HR3 := hid R3; have HFR := hid (Flat.of_owns R3.1); obtain ⟨ua, uc, rfl⟩ := R3.form; clear bq R3))
          go_loopw [9] (fun i wr => ∃ k : Nat, k ≤ 16 ∧ i = .int .i64 k ∧ Hid (freeFromT (L.drop k) k = freeT L) ∧ wr = wq) (fun i _ => 16 - (intOf i).toNat)
          case atStart => exact ⟨0, by omega, rfl, hid rfl, rfl⟩
          case round =>
            obtain ⟨k, hk, rfl, HFR2, hwr⟩ := hrel
            subst hwr
            by_cases hlt : k < 16
            · have hkL : k < L.length := by rw [HC.out]; exact hlt
              have hk0 : (0 : Int) ≤ (k : Int) := by omega
              have hk16 : (k : Int) < 16 := by omega
              have c0 := (tree_at (show BoxF wr w.heap.size (TreeD.enc ⟨L, root⟩) from BX.out) HC.out k hlt).1
              have hfd := freeFromT_drop L k hkL
              rw [HFR2.out] at hfd
              have etw := tw_eq L (k : Int) (by rw [Int.toNat_natCast]; exact hkL)
              simp only [Int.toNat_natCast] at etw
              cases hu : L[k].used_ with
              | true =>
                rw [hu, if_pos rfl] at hfd
                rw [etw, hu] at c0
                have HFN := hid hfd.symm
                clear hfd HFR2 etw hu
                go_wp2
                go_roundw
                case rel => exact ⟨k+1, by omega, by go_num, HFN, by first | exact rfl | exact trivial⟩
                case measure => simp [intOf]; omega
              | false =>
                rw [hu, if_neg Bool.false_ne_true] at hfd
                have hut : (tw L (k : Int)).used_ = false := by rw [etw]; exact hu
                rw [hut] at c0
                have hk1 : ¬ (k : Int) = 16 := by omega
                have HF := hid (HF1.out.trans (if_neg (by rw [hfd]; omega)))
                rw [hfd, Int.toNat_natCast] at HF
                have HLK := hid (linkOf_set k ⟨true, key, -1, -1⟩ (key := key) HWI.out hut)
                have HLS := hid (set_len16 HC.out k ⟨true, key, -1, -1⟩)
                have HIN := hid (fun q hq => (HWI.out q hq).1)
                have HHG := hid (fun (W : World) (v : Value) (hv : Ints W v RW) => spec_l15Hang0 (L.set k ⟨true, key, -1, -1⟩) HLS.out root key k RW v W hv HIN.out)
                rw [HLK.out] at HHG
                have hlv0 : (hangT ⟨L.set k ⟨true, key, -1, -1⟩, root⟩ (linkOf L key RW) k).enc.length = 65 := tree_len (hangT_len (t := ⟨L.set k ⟨true, key, -1, -1⟩, root⟩) HLS.out _ _)
                have honev0 := tree_one (hangT ⟨L.set k ⟨true, key, -1, -1⟩, root⟩ (linkOf L key RW) k)
                have HFE := hid (show (addC ⟨L, root⟩ key).1.enc = (hangT ⟨L.set k ⟨true, key, -1, -1⟩, root⟩ (linkOf L key RW) k).enc by rw [HF.out])
                have HFC := hid (show (addC ⟨L, root⟩ key).2 = 0 by rw [HF.out])
                obtain ⟨vv, hvv⟩ : ∃ x, (hangT ⟨L.set k ⟨true, key, -1, -1⟩, root⟩ (linkOf L key RW) k).enc = x := ⟨_, rfl⟩
                rw [hvv] at HHG HFE hlv0 honev0
                have hl3 : (encT (L.set k ⟨true, key, -1, -1⟩) root).length = 65 := tree_len (c := ⟨L.set k ⟨true, key, -1, -1⟩, root⟩) HLS.out
                have HkL := hid hkL
                have HFI := hid (show Ints wr (.slice ua RW.length uc) RW from HFR.out)
                have HUB := hid (fun b (h : Blk (.slice ua RW.length uc) b) => (show ¬ b = w.heap.size by have := HR3.out.2 b h; have := HSZ.out; omega))
                clear hvv hfd HFR2 etw hu HF1 HF HLK
                go_wp2_with (refine wpList_store_el Twig.enc 4 (fun _ => rfl) rfl 28 _ _ rfl w.heap.size (k * 4) [] [.int .i64 root] L k ⟨true, key, -1, -1⟩ (by exact BX.out) HkL.out (by simp) rfl rfl (by kernel_rfl) rfl ?_)
                intro w5 o5 C5
                have BX5 := hid (show BoxF w5 w.heap.size (encT (L.set k ⟨true, key, -1, -1⟩) root) from o5)
                have HFI5 := hid (show Ints w5 (.slice ua RW.length uc) RW from Flat.of_owns (HR3.out.chg C5 (fun b hb => by have := HSZ.out; omega)).1)
                have RB5 := hid (RB.out.chg C5 (by omega))
                have HB5 := hid (below_chg HB.out C5 HB.out.size (fun b hb => by omega))
                clear o5 C5 c0 BX RB HB HFI HFR HR3
                go_wp2_with (first | (refine wpList_load_boxg rfl 31 _ rfl w.heap.size _ (by exact BX5.out.1) rfl _ Try.underlying31 rfl (by rw [hl3]; kernel_rfl) ?_) | (go_at_call 43; refine (HHG.out _ _ HFI5.out).mono ?_; rintro e wq ⟨rfl, bq⟩; have HB := hid (HB5.out.trans (bq.mono HB5.out.size)); have RB := hid (RB5.out.below bq); clear bq) | (refine wpList_store_box rfl 31 _ _ rfl (w.heap.size + 1) [.bool false, .int .i64 0, .int .i64 0, .int .i64 0, .bool false, .int .i64 0, .int .i64 0, .int .i64 0, .bool false, .int .i64 0, .int .i64 0, .int .i64 0, .bool false, .int .i64 0, .int .i64 0, .int .i64 0, .bool false, .int .i64 0, .int .i64 0, .int .i64 0, .bool false, .int .i64 0, .int .i64 0, .int .i64 0, .bool false, .int .i64 0, .int .i64 0, .int .i64 0, .bool false, .int .i64 0, .int .i64 0, .int .i64 0, .bool false, .int .i64 0, .int .i64 0, .int .i64 0, .bool false, .int .i64 0, .int .i64 0, .int .i64 0, .bool false, .int .i64 0, .int .i64 0, .int .i64 0, .bool false, .int .i64 0, .int .i64 0, .int .i64 0, .bool false, .int .i64 0, .int .i64 0, .int .i64 0, .bool false, .int .i64 0, .int .i64 0, .int .i64 0, .bool false, .int .i64 0, .int .i64 0, .int .i64 0, .bool false, .int .i64 0, .int .i64 0, .int .i64 0, .int .i64 0] vv (by exact RB.out) rfl rfl (by rw [hlv0]; rfl) (by rw [hlv0]; kernel_rfl) honev0 ?_))
                intro w9 o9 C9
                have O9 := hid o9
                have HB9 := hid (below_chg HB.out C9 HB.out.size (fun b hb => by omega))
                clear o9 C9
                go_wp2
                exact bodyPost_ret (results_cq rfl _ _ (w.heap.size + 1) vv rfl O9.out _ Try.underlying31 rfl (by rw [hlv0]; kernel_rfl)) rfl ⟨by rw [HFE.out, HFC.out]; rfl, HB9.out⟩
            · obtain rfl : k = 16 := by omega
              have hfr : freeT L = -1 := by rw [← HFR2.out, List.drop_of_length_le (by rw [HC.out]; exact Nat.le_refl _)]; rfl
              have HF := hid (HF1.out.trans (if_pos hfr))
              clear HFR2 hfr HF1
              go_wp2_with (first | (refine wpList_load_boxg rfl 31 _ rfl w.heap.size (encT L root) (by exact BX.out.1) rfl _ Try.underlying31 rfl (by rw [hl]; kernel_rfl) ?_) | (refine wpList_store_box rfl 31 _ _ rfl (w.heap.size + 1) [.bool false, .int .i64 0, .int .i64 0, .int .i64 0, .bool false, .int .i64 0, .int .i64 0, .int .i64 0, .bool false, .int .i64 0, .int .i64 0, .int .i64 0, .bool false, .int .i64 0, .int .i64 0, .int .i64 0, .bool false, .int .i64 0, .int .i64 0, .int .i64 0, .bool false, .int .i64 0, .int .i64 0, .int .i64 0, .bool false, .int .i64 0, .int .i64 0, .int .i64 0, .bool false, .int .i64 0, .int .i64 0, .int .i64 0, .bool false, .int .i64 0, .int .i64 0, .int .i64 0, .bool false, .int .i64 0, .int .i64 0, .int .i64 0, .bool false, .int .i64 0, .int .i64 0, .int .i64 0, .bool false, .int .i64 0, .int .i64 0, .int .i64 0, .bool false, .int .i64 0, .int .i64 0, .int .i64 0, .bool false, .int .i64 0, .int .i64 0, .int .i64 0, .bool false, .int .i64 0, .int .i64 0, .int .i64 0, .bool false, .int .i64 0, .int .i64 0, .int .i64 0, .int .i64 0] (encT L root) (by exact RB.out) rfl rfl (by rw [hl]; rfl) (by rw [hl]; kernel_rfl) hone ?_))
              intro w9 o9 C9
              have O9 := hid o9
              have HB9 := hid (below_chg HB.out C9 HB.out.size (fun b hb => by omega))
              clear o9 C9
              go_wp2
              exact bodyPost_ret (results_cq rfl _ _ (w.heap.size + 1) (encT L root) rfl O9.out _ Try.underlying31 rfl (by rw [hl]; kernel_rfl)) rfl ⟨by rw [HF.out]; rfl, HB9.out⟩
end Go.Proofs.Ytcjeafhejkppeaa
