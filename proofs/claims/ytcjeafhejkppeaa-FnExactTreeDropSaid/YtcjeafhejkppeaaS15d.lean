/- Chapter 15's model: TreeDrop. (printed by tools/mk_s15d.py) -/
import Derived.Test.YtcjeafhejkppeaaS15a
import Derived.Test.YtcjeafhejkppeaaF15d
namespace Go.Proofs.Ytcjeafhejkppeaa
set_option maxRecDepth 100000
open Go.RowKit Go.Proofs Go.Own
open Go Go.BigFrame
set_option linter.unusedVariables false
set_option linter.unusedSimpArgs false
theorem owns_take {w : World} {base e sz n : Nat} {a : Option Addr} {cap : Nat} {cs : List Value} (h : w.ownsRow base e sz (.slice a n cap) n cs) (hn : 0 < n) (k : Nat) (hk : k ≤ n) : w.ownsRow base e sz (.slice a k cap) k (cs.take (k * sz)) := by
  have hks : k * sz ≤ n * sz := Nat.mul_le_mul_right sz hk
  obtain ⟨hl, h⟩ := h
  refine ⟨by rw [List.length_take]; omega, ?_⟩
  rcases h with ⟨h, h0⟩ | ⟨g, cap', cur, hv, hb, hg, hnc, hm, hcs, ht⟩
  · omega
  · obtain ⟨rfl, rfl⟩ : a = some ⟨g, 0, none⟩ ∧ cap = cap' := by simpa using hv
    exact .inr ⟨g, cap, cur, rfl, hb, hg, by omega, hm, hcs, by rw [← ht, List.take_take, Nat.min_eq_left hks]⟩
theorem wpStill_load_box {P : Program} {ops : Array Oper} {w : World} {Q : Act → Prop} {rest : List Oper} {op : Oper} {a : Act} (hgd : Region.wanted op (yielded ops a.tmps) = true) (ty : TypeId) (x : Operand) (ho : op.op = .load ty x)
    (b : Nat) (cs : List Value) (hb : Box w b cs) (hx : a.eval x = .pointer (some ⟨b, 0, none⟩)) (d : TypeDesc) (hu : P.underlying ty = some d) (hd : d.isRow = true) (hi : (P.info? ty).map (·.size) = some cs.length)
    (h : wpStill P ops w Q rest (a.put op.dst (.agg cs.toArray))) : wpStill P ops w Q (op :: rest) a := by
  refine wpStill_step fun K hK => ?_
  rw [if_pos hgd]
  unfold Oper.still execOp
  simp only [ho, hx, Instr.loadAt, Instr.sureAddr, Sem.run_bind, Sem.run_pure, Result.andThen_ok, run_loadVar_mid w b 0 ty cs d hb.range hu hd hi]
  exact ⟨rfl, hK _ h⟩
theorem tw_keyS (L : List Twig) (k : Nat) (hk : k < L.length) (x : Int) (q : Int) : (tw (L.set k { tw L k with key_ := x }) q).left_ = (tw L q).left_ ∧ (tw (L.set k { tw L k with key_ := x }) q).right_ = (tw L q).right_ := by
  by_cases e : q.toNat = k
  · rw [tw_set_self L k hk _ q e]
    have : tw L (k : Int) = tw L q := by unfold tw; rw [Int.toNat_natCast, e]
    rw [this]; exact ⟨rfl, rfl⟩
  · rw [tw_set_ne L k _ q e]; exact ⟨rfl, rfl⟩
theorem enc_keyS (L : List Twig) (root : Int) (k : Nat) (hk : k < L.length) (x : Int) : (encT L root).set (k * 4 + 1) (.int .i64 x) = encT (L.set k { tw L k with key_ := x }) root := by
  unfold encT TreeD.enc
  dsimp only
  have hl := twigs_len L
  rw [List.set_append_left _ _ (by omega), set_keyT L k hk, tw_eq L (k : Int) (by rw [Int.toNat_natCast]; exact hk)]; rfl
set_option maxHeartbeats 8000000 in
theorem spec_TreeDrop0 (c : TreeD) (hc : c.twigs_.length = 16) (key : Int) (w : World) :
    Calls Try.prog 21 #[.agg c.enc.toArray, .int .i64 key] w fun e w' => e = .returned (.tuple #[.agg (dropC c key).1.enc.toArray, .int .i64 (dropC c key).2]) ∧ Below w.heap.size w w' := by
  obtain ⟨L, root⟩ := c
  dsimp only at hc
  change Calls Try.prog 21 #[.agg (encT L root).toArray, .int .i64 key] w _
  have hl : (encT L root).length = 65 := tree_len (c := ⟨L, root⟩) hc
  have hone : (encT L root).all (·.oneCell') = true := tree_one ⟨L, root⟩
  have hl2 : (encT L root).toArray.size = 65 := by rw [List.size_toArray, hl]
  have HC := hid hc
  have HOK0 := hid (fun (W : World) => spec_TreeOk0 ⟨L, root⟩ hc W)
  rw [show (TreeD.enc ⟨L, root⟩) = encT L root from rfl] at HOK0
  obtain ⟨W1, hW1⟩ : ∃ X, (w.alloc (.cells (encT L root).toArray 31)).alloc (.cells #[.bool false, .int .i64 0, .int .i64 0, .int .i64 0, .bool false, .int .i64 0, .int .i64 0, .int .i64 0, .bool false, .int .i64 0, .int .i64 0, .int .i64 0, .bool false, .int .i64 0, .int .i64 0, .int .i64 0, .bool false, .int .i64 0, .int .i64 0, .int .i64 0, .bool false, .int .i64 0, .int .i64 0, .int .i64 0, .bool false, .int .i64 0, .int .i64 0, .int .i64 0, .bool false, .int .i64 0, .int .i64 0, .int .i64 0, .bool false, .int .i64 0, .int .i64 0, .int .i64 0, .bool false, .int .i64 0, .int .i64 0, .int .i64 0, .bool false, .int .i64 0, .int .i64 0, .int .i64 0, .bool false, .int .i64 0, .int .i64 0, .int .i64 0, .bool false, .int .i64 0, .int .i64 0, .int .i64 0, .bool false, .int .i64 0, .int .i64 0, .int .i64 0, .bool false, .int .i64 0, .int .i64 0, .int .i64 0, .bool false, .int .i64 0, .int .i64 0, .int .i64 0, .int .i64 0] 31) = X := ⟨_, rfl⟩
  have HB := hid (show Below w.heap.size w W1 by rw [← hW1]; exact ((Below.refl _ _).alloc (Nat.le_refl _) _).alloc (by simp) _)
  have BX := hid (show BoxF W1 w.heap.size (encT L root) by rw [← hW1]; exact (BoxF.alloc w (encT L root).toArray 31).below ((Below.refl _ _).alloc (Nat.le_refl _) _))
  have RB := hid (show BoxF W1 (w.heap.size + 1) [.bool false, .int .i64 0, .int .i64 0, .int .i64 0, .bool false, .int .i64 0, .int .i64 0, .int .i64 0, .bool false, .int .i64 0, .int .i64 0, .int .i64 0, .bool false, .int .i64 0, .int .i64 0, .int .i64 0, .bool false, .int .i64 0, .int .i64 0, .int .i64 0, .bool false, .int .i64 0, .int .i64 0, .int .i64 0, .bool false, .int .i64 0, .int .i64 0, .int .i64 0, .bool false, .int .i64 0, .int .i64 0, .int .i64 0, .bool false, .int .i64 0, .int .i64 0, .int .i64 0, .bool false, .int .i64 0, .int .i64 0, .int .i64 0, .bool false, .int .i64 0, .int .i64 0, .int .i64 0, .bool false, .int .i64 0, .int .i64 0, .int .i64 0, .bool false, .int .i64 0, .int .i64 0, .int .i64 0, .bool false, .int .i64 0, .int .i64 0, .int .i64 0, .bool false, .int .i64 0, .int .i64 0, .int .i64 0, .bool false, .int .i64 0, .int .i64 0, .int .i64 0, .int .i64 0] by
    rw [← hW1]
    have z := BoxF.alloc (w.alloc (.cells (encT L root).toArray 31)) #[.bool false, .int .i64 0, .int .i64 0, .int .i64 0, .bool false, .int .i64 0, .int .i64 0, .int .i64 0, .bool false, .int .i64 0, .int .i64 0, .int .i64 0, .bool false, .int .i64 0, .int .i64 0, .int .i64 0, .bool false, .int .i64 0, .int .i64 0, .int .i64 0, .bool false, .int .i64 0, .int .i64 0, .int .i64 0, .bool false, .int .i64 0, .int .i64 0, .int .i64 0, .bool false, .int .i64 0, .int .i64 0, .int .i64 0, .bool false, .int .i64 0, .int .i64 0, .int .i64 0, .bool false, .int .i64 0, .int .i64 0, .int .i64 0, .bool false, .int .i64 0, .int .i64 0, .int .i64 0, .bool false, .int .i64 0, .int .i64 0, .int .i64 0, .bool false, .int .i64 0, .int .i64 0, .int .i64 0, .bool false, .int .i64 0, .int .i64 0, .int .i64 0, .bool false, .int .i64 0, .int .i64 0, .int .i64 0, .bool false, .int .i64 0, .int .i64 0, .int .i64 0, .int .i64 0] 31
    rw [show (w.alloc (.cells (encT L root).toArray 31)).heap.size = w.heap.size + 1 by simp] at z
    exact z)
  have hz : ∀ w : World, (zeroValue 31).run Try.prog w = .ok (.agg #[.bool false, .int .i64 0, .int .i64 0, .int .i64 0, .bool false, .int .i64 0, .int .i64 0, .int .i64 0, .bool false, .int .i64 0, .int .i64 0, .int .i64 0, .bool false, .int .i64 0, .int .i64 0, .int .i64 0, .bool false, .int .i64 0, .int .i64 0, .int .i64 0, .bool false, .int .i64 0, .int .i64 0, .int .i64 0, .bool false, .int .i64 0, .int .i64 0, .int .i64 0, .bool false, .int .i64 0, .int .i64 0, .int .i64 0, .bool false, .int .i64 0, .int .i64 0, .int .i64 0, .bool false, .int .i64 0, .int .i64 0, .int .i64 0, .bool false, .int .i64 0, .int .i64 0, .int .i64 0, .bool false, .int .i64 0, .int .i64 0, .int .i64 0, .bool false, .int .i64 0, .int .i64 0, .int .i64 0, .bool false, .int .i64 0, .int .i64 0, .int .i64 0, .bool false, .int .i64 0, .int .i64 0, .int .i64 0, .bool false, .int .i64 0, .int .i64 0, .int .i64 0, .int .i64 0]) w := fun w => zero_run w (by kernel_rfl)
  have HW1 := hid hW1
  clear hW1
  cases hok : treeOk ⟨L, root⟩ with
  | false =>
    have HF := hid (show dropC ⟨L, root⟩ key = (⟨L, root⟩, 1) by unfold dropC; rw [hok]; rfl)
    rw [hok] at HOK0
    clear hok
    go_enter Try.func21, Try.ntmps21
    go_upto_region 1 with fail
    rw [HW1.out]
    go_wp2_with (first | (refine wpList_load_boxg rfl 31 _ rfl w.heap.size (encT L root) (by exact BX.out.1) rfl _ Try.underlying31 rfl (by rw [hl]; kernel_rfl) ?_) | (go_at_call 11; refine (HOK0.out _).mono ?_; rintro e wq ⟨rfl, bq⟩; have HB := hid (HB.out.trans (bq.mono HB.out.size)); have BX := hid (BX.out.below bq); have RB := hid (RB.out.below bq); clear bq) | (refine wpList_store_box rfl 31 _ _ rfl (w.heap.size + 1) [.bool false, .int .i64 0, .int .i64 0, .int .i64 0, .bool false, .int .i64 0, .int .i64 0, .int .i64 0, .bool false, .int .i64 0, .int .i64 0, .int .i64 0, .bool false, .int .i64 0, .int .i64 0, .int .i64 0, .bool false, .int .i64 0, .int .i64 0, .int .i64 0, .bool false, .int .i64 0, .int .i64 0, .int .i64 0, .bool false, .int .i64 0, .int .i64 0, .int .i64 0, .bool false, .int .i64 0, .int .i64 0, .int .i64 0, .bool false, .int .i64 0, .int .i64 0, .int .i64 0, .bool false, .int .i64 0, .int .i64 0, .int .i64 0, .bool false, .int .i64 0, .int .i64 0, .int .i64 0, .bool false, .int .i64 0, .int .i64 0, .int .i64 0, .bool false, .int .i64 0, .int .i64 0, .int .i64 0, .bool false, .int .i64 0, .int .i64 0, .int .i64 0, .bool false, .int .i64 0, .int .i64 0, .int .i64 0, .bool false, .int .i64 0, .int .i64 0, .int .i64 0, .int .i64 0] (encT L root) (by exact RB.out) rfl rfl (by rw [hl]; rfl) (by rw [hl]; kernel_rfl) hone ?_))
    intro w9 o9 C9
    have O9 := hid o9
    have HB9 := hid (below_chg HB.out C9 HB.out.size (fun b hb => by omega))
    clear o9 C9
    go_wp2
    exact bodyPost_ret (results_cq rfl _ _ (w.heap.size + 1) (encT L root) rfl O9.out _ Try.underlying31 rfl (by rw [hl]; kernel_rfl)) rfl ⟨by rw [HF.out]; rfl, HB9.out⟩
  | true =>
    obtain ⟨ps, hp, -⟩ := treeOk_part (t := ⟨L, root⟩) hc hok
    rw [hok] at HOK0
    have HOK := hid hok
    clear hok
    cases hv : isVal key with
    | false =>
      have HV := hid hv
      have HF := hid (show dropC ⟨L, root⟩ key = (⟨L, root⟩, 1) by unfold dropC; rw [HOK.out, hv]; rfl)
      clear hv
      go_enter Try.func21, Try.ntmps21
      go_upto_region 1 with fail
      rw [HW1.out]
      go_wp2_with (first | (refine wpList_load_boxg rfl 31 _ rfl w.heap.size (encT L root) (by exact BX.out.1) rfl _ Try.underlying31 rfl (by rw [hl]; kernel_rfl) ?_) | (go_at_call 11; refine (HOK0.out _).mono ?_; rintro e wq ⟨rfl, bq⟩; have HB := hid (HB.out.trans (bq.mono HB.out.size)); have BX := hid (BX.out.below bq); have RB := hid (RB.out.below bq); clear bq) | (go_at_call 33; refine (spec_l1ValueIs _ _ _ HV.out).mono ?_; rintro e w' ⟨rfl, rfl⟩) | (refine wpList_store_box rfl 31 _ _ rfl (w.heap.size + 1) [.bool false, .int .i64 0, .int .i64 0, .int .i64 0, .bool false, .int .i64 0, .int .i64 0, .int .i64 0, .bool false, .int .i64 0, .int .i64 0, .int .i64 0, .bool false, .int .i64 0, .int .i64 0, .int .i64 0, .bool false, .int .i64 0, .int .i64 0, .int .i64 0, .bool false, .int .i64 0, .int .i64 0, .int .i64 0, .bool false, .int .i64 0, .int .i64 0, .int .i64 0, .bool false, .int .i64 0, .int .i64 0, .int .i64 0, .bool false, .int .i64 0, .int .i64 0, .int .i64 0, .bool false, .int .i64 0, .int .i64 0, .int .i64 0, .bool false, .int .i64 0, .int .i64 0, .int .i64 0, .bool false, .int .i64 0, .int .i64 0, .int .i64 0, .bool false, .int .i64 0, .int .i64 0, .int .i64 0, .bool false, .int .i64 0, .int .i64 0, .int .i64 0, .bool false, .int .i64 0, .int .i64 0, .int .i64 0, .bool false, .int .i64 0, .int .i64 0, .int .i64 0, .int .i64 0] (encT L root) (by exact RB.out) rfl rfl (by rw [hl]; rfl) (by rw [hl]; kernel_rfl) hone ?_))
      intro w9 o9 C9
      have O9 := hid o9
      have HB9 := hid (below_chg HB.out C9 HB.out.size (fun b hb => by omega))
      clear o9 C9
      go_wp2
      exact bodyPost_ret (results_cq rfl _ _ (w.heap.size + 1) (encT L root) rfl O9.out _ Try.underlying31 rfl (by rw [hl]; kernel_rfl)) rfl ⟨by rw [HF.out]; rfl, HB9.out⟩
    | true =>
      have HV := hid hv
      have HWK := hid (fun (W : World) => spec_l15Walk0 L hc root key ps hp W)
      have HWI := hid (wayT_in L key 8 root [] ps hp (by simp))
      have hw8 := wayT_len L key 8 root []
      have HF0 := hid (show dropC ⟨L, root⟩ key = if codeW (wayT L key 8 root []) = 4 then dropAt ⟨L, root⟩ (linkOf L key (wayT L key 8 root []).1.dropLast) ((wayT L key 8 root []).1.getLastD 0) (wayT L key 8 root []).1.length else (⟨L, root⟩, codeW (wayT L key 8 root [])) by unfold dropC wayC; rw [HOK.out, hv]; rfl)
      obtain ⟨⟨RW, rf, ro⟩, hR⟩ : ∃ r, wayT L key 8 root [] = r := ⟨_, rfl⟩
      rw [hR] at HF0 HWK HWI hw8
      dsimp only at HF0 HWK HWI hw8
      cases ro with
      | false =>
        have HF := hid (HF0.out.trans (if_neg (by unfold codeW; simp)))
        clear hR hp hv
        go_enter Try.func21, Try.ntmps21
        go_upto_region 1 with fail
        rw [HW1.out]
        go_wp2_with (first | (refine wpList_load_boxg rfl 31 _ rfl w.heap.size (encT L root) (by exact BX.out.1) rfl _ Try.underlying31 rfl (by rw [hl]; kernel_rfl) ?_) | (go_at_call 11; refine (HOK0.out _).mono ?_; rintro e wq ⟨rfl, bq⟩; have HB := hid (HB.out.trans (bq.mono HB.out.size)); have BX := hid (BX.out.below bq); have RB := hid (RB.out.below bq); clear bq) | (go_at_call 33; refine (spec_l1ValueIs _ _ _ HV.out).mono ?_; rintro e w' ⟨rfl, rfl⟩) | (go_at_call 41; refine (HWK.out _).mono ?_; rintro e wq ⟨u, rfl, R3, bq⟩; have HSZ := hid HB.out.size; have HB := hid (HB.out.trans (bq.mono HB.out.size)); have BX := hid (BX.out.below bq); have RB := hid (RB.out.below bq); have HR3 := hid R3; have HFR := hid (Flat.of_owns R3.1); obtain ⟨ua, uc, rfl⟩ := R3.form; clear bq R3) | (refine wpList_store_box rfl 31 _ _ rfl (w.heap.size + 1) [.bool false, .int .i64 0, .int .i64 0, .int .i64 0, .bool false, .int .i64 0, .int .i64 0, .int .i64 0, .bool false, .int .i64 0, .int .i64 0, .int .i64 0, .bool false, .int .i64 0, .int .i64 0, .int .i64 0, .bool false, .int .i64 0, .int .i64 0, .int .i64 0, .bool false, .int .i64 0, .int .i64 0, .int .i64 0, .bool false, .int .i64 0, .int .i64 0, .int .i64 0, .bool false, .int .i64 0, .int .i64 0, .int .i64 0, .bool false, .int .i64 0, .int .i64 0, .int .i64 0, .bool false, .int .i64 0, .int .i64 0, .int .i64 0, .bool false, .int .i64 0, .int .i64 0, .int .i64 0, .bool false, .int .i64 0, .int .i64 0, .int .i64 0, .bool false, .int .i64 0, .int .i64 0, .int .i64 0, .bool false, .int .i64 0, .int .i64 0, .int .i64 0, .bool false, .int .i64 0, .int .i64 0, .int .i64 0, .bool false, .int .i64 0, .int .i64 0, .int .i64 0, .int .i64 0] (encT L root) (by exact RB.out) rfl rfl (by rw [hl]; rfl) (by rw [hl]; kernel_rfl) hone ?_))
        intro w9 o9 C9
        have O9 := hid o9
        have HB9 := hid (below_chg HB.out C9 HB.out.size (fun b hb => by omega))
        clear o9 C9
        go_wp2
        exact bodyPost_ret (results_cq rfl _ _ (w.heap.size + 1) (encT L root) rfl O9.out _ Try.underlying31 rfl (by rw [hl]; kernel_rfl)) rfl ⟨by rw [HF.out]; rfl, HB9.out⟩
      | true =>
        cases rf with
        | false =>
          have HF := hid (HF0.out.trans (if_neg (by unfold codeW; simp)))
          clear hR hp hv
          go_enter Try.func21, Try.ntmps21
          go_upto_region 1 with fail
          rw [HW1.out]
          go_wp2_with (first | (refine wpList_load_boxg rfl 31 _ rfl w.heap.size (encT L root) (by exact BX.out.1) rfl _ Try.underlying31 rfl (by rw [hl]; kernel_rfl) ?_) | (go_at_call 11; refine (HOK0.out _).mono ?_; rintro e wq ⟨rfl, bq⟩; have HB := hid (HB.out.trans (bq.mono HB.out.size)); have BX := hid (BX.out.below bq); have RB := hid (RB.out.below bq); clear bq) | (go_at_call 33; refine (spec_l1ValueIs _ _ _ HV.out).mono ?_; rintro e w' ⟨rfl, rfl⟩) | (go_at_call 41; refine (HWK.out _).mono ?_; rintro e wq ⟨u, rfl, R3, bq⟩; have HSZ := hid HB.out.size; have HB := hid (HB.out.trans (bq.mono HB.out.size)); have BX := hid (BX.out.below bq); have RB := hid (RB.out.below bq); have HR3 := hid R3; have HFR := hid (Flat.of_owns R3.1); obtain ⟨ua, uc, rfl⟩ := R3.form; clear bq R3) | (refine wpList_store_box rfl 31 _ _ rfl (w.heap.size + 1) [.bool false, .int .i64 0, .int .i64 0, .int .i64 0, .bool false, .int .i64 0, .int .i64 0, .int .i64 0, .bool false, .int .i64 0, .int .i64 0, .int .i64 0, .bool false, .int .i64 0, .int .i64 0, .int .i64 0, .bool false, .int .i64 0, .int .i64 0, .int .i64 0, .bool false, .int .i64 0, .int .i64 0, .int .i64 0, .bool false, .int .i64 0, .int .i64 0, .int .i64 0, .bool false, .int .i64 0, .int .i64 0, .int .i64 0, .bool false, .int .i64 0, .int .i64 0, .int .i64 0, .bool false, .int .i64 0, .int .i64 0, .int .i64 0, .bool false, .int .i64 0, .int .i64 0, .int .i64 0, .bool false, .int .i64 0, .int .i64 0, .int .i64 0, .bool false, .int .i64 0, .int .i64 0, .int .i64 0, .bool false, .int .i64 0, .int .i64 0, .int .i64 0, .bool false, .int .i64 0, .int .i64 0, .int .i64 0, .bool false, .int .i64 0, .int .i64 0, .int .i64 0, .int .i64 0] (encT L root) (by exact RB.out) rfl rfl (by rw [hl]; rfl) (by rw [hl]; kernel_rfl) hone ?_))
          intro w9 o9 C9
          have O9 := hid o9
          have HB9 := hid (below_chg HB.out C9 HB.out.size (fun b hb => by omega))
          clear o9 C9
          go_wp2
          exact bodyPost_ret (results_cq rfl _ _ (w.heap.size + 1) (encT L root) rfl O9.out _ Try.underlying31 rfl (by rw [hl]; kernel_rfl)) rfl ⟨by rw [HF.out]; rfl, HB9.out⟩
        | true =>
          obtain ⟨V, q, zs, hF⟩ := way_found (t := ⟨L, root⟩) hc HOK.out (key := key) (W := RW) (o := true) hR
          obtain ⟨hway, hpt, hnd, hlen, hne, hoth, hloc⟩ := hF
          dsimp only at hpt hne hoth hloc
          subst hway
          obtain ⟨ys, us, hi, hu, h3, h4, rfl⟩ := hpt.inv hne
          obtain ⟨k, rfl, hk16⟩ : ∃ k : Nat, q = (k : Int) ∧ k < 16 := by
            have := inB_nn hi
            exact ⟨q.toNat, by omega, by omega⟩
          obtain ⟨n1, n2, n3, n4⟩ := nodup_split hnd
          simp only [List.length_append, List.length_cons] at hlen
          have hln : (V ++ [(k : Int)]).length = V.length + 1 := by simp
          rw [hln] at hw8
          have HF1 := hid (show dropC ⟨L, root⟩ key = dropAt ⟨L, root⟩ (linkOf L key V) k (V.length + 1) by
            rw [HF0.out, if_pos (by unfold codeW; simp), hln, show (V ++ [(k : Int)]).dropLast = V by simp, show (V ++ [(k : Int)]).getLastD 0 = (k : Int) by simp [List.getLastD_eq_getLast?]])
          have HLD := hid (link_div (L := L) (key := key) (V := V) hi hoth)
          have HVI := hid (fun v hv => (hoth v hv).2)
          have HLC := hid hloc.C
          have hk0 : (0 : Int) ≤ (k : Int) := by omega
          have hki : (k : Int) < 16 := by omega
          have hkL : k < L.length := by rw [hc]; exact hk16
          have HkL := hid hkL
          clear hR hp hv HF0 hpt hnd hne hoth hloc HWI
          go_enter Try.func21, Try.ntmps21
          go_upto_region 1 with fail
          rw [HW1.out]
          go_upto_region 8 with (first | (refine wpList_load_boxg rfl 31 _ rfl w.heap.size (encT L root) (by exact BX.out.1) rfl _ Try.underlying31 rfl (by rw [hl]; kernel_rfl) ?_) | (go_at_call 11; refine (HOK0.out _).mono ?_; rintro e wq ⟨rfl, bq⟩; have HB := hid (HB.out.trans (bq.mono HB.out.size)); have BX := hid (BX.out.below bq); have RB := hid (RB.out.below bq); clear bq) | (go_at_call 33; refine (spec_l1ValueIs _ _ _ HV.out).mono ?_; rintro e w' ⟨rfl, rfl⟩) | (go_at_call 41; refine (HWK.out _).mono ?_; rintro e wq ⟨u, rfl, R3, bq⟩; have HSZ := hid HB.out.size; have HB := hid (HB.out.trans (bq.mono HB.out.size)); have BX := hid (BX.out.below bq); have RB := hid (RB.out.below bq); have HR3 := hid R3; have HFR := hid (Flat.of_owns R3.1); obtain ⟨ua, uc, rfl⟩ := R3.form; clear bq R3))
          have hn0 : ¬ ((V.length + 1 : Nat) : Int) = 0 := by omega
          go_upto_region 9 with (first | (refine wpList_load_boxg rfl 31 _ rfl w.heap.size (encT L root) (by exact BX.out.1) rfl _ Try.underlying31 rfl (by rw [hl]; kernel_rfl) ?_) | (refine wpList_store_box rfl 31 _ _ rfl _ [.bool false, .int .i64 0, .int .i64 0, .int .i64 0, .bool false, .int .i64 0, .int .i64 0, .int .i64 0, .bool false, .int .i64 0, .int .i64 0, .int .i64 0, .bool false, .int .i64 0, .int .i64 0, .int .i64 0, .bool false, .int .i64 0, .int .i64 0, .int .i64 0, .bool false, .int .i64 0, .int .i64 0, .int .i64 0, .bool false, .int .i64 0, .int .i64 0, .int .i64 0, .bool false, .int .i64 0, .int .i64 0, .int .i64 0, .bool false, .int .i64 0, .int .i64 0, .int .i64 0, .bool false, .int .i64 0, .int .i64 0, .int .i64 0, .bool false, .int .i64 0, .int .i64 0, .int .i64 0, .bool false, .int .i64 0, .int .i64 0, .int .i64 0, .bool false, .int .i64 0, .int .i64 0, .int .i64 0, .bool false, .int .i64 0, .int .i64 0, .int .i64 0, .bool false, .int .i64 0, .int .i64 0, .int .i64 0, .bool false, .int .i64 0, .int .i64 0, .int .i64 0, .int .i64 0] (encT L root) (BoxF.alloc _ #[.bool false, .int .i64 0, .int .i64 0, .int .i64 0, .bool false, .int .i64 0, .int .i64 0, .int .i64 0, .bool false, .int .i64 0, .int .i64 0, .int .i64 0, .bool false, .int .i64 0, .int .i64 0, .int .i64 0, .bool false, .int .i64 0, .int .i64 0, .int .i64 0, .bool false, .int .i64 0, .int .i64 0, .int .i64 0, .bool false, .int .i64 0, .int .i64 0, .int .i64 0, .bool false, .int .i64 0, .int .i64 0, .int .i64 0, .bool false, .int .i64 0, .int .i64 0, .int .i64 0, .bool false, .int .i64 0, .int .i64 0, .int .i64 0, .bool false, .int .i64 0, .int .i64 0, .int .i64 0, .bool false, .int .i64 0, .int .i64 0, .int .i64 0, .bool false, .int .i64 0, .int .i64 0, .int .i64 0, .bool false, .int .i64 0, .int .i64 0, .int .i64 0, .bool false, .int .i64 0, .int .i64 0, .int .i64 0, .bool false, .int .i64 0, .int .i64 0, .int .i64 0, .int .i64 0] _) rfl rfl (by rw [hl]; rfl) (by rw [hl]; kernel_rfl) hone ?_))
          intro w8 o8 C8
          have hb8 : Below wq.heap.size wq w8 := below_chg ((Below.refl _ _).alloc (Nat.le_refl _) _) C8 (by simp) (fun b hb => by omega)
          have HN9 := hid (show w.heap.size + 1 < wq.heap.size from RB.out.1.1)
          have K9 := hid o8
          have HN10 := hid (show wq.heap.size < w8.heap.size from o8.1.1)
          have hV7 : (V.length : Int) ≤ 7 := by have := hw8; simp at this; omega
          have hV0 : (0 : Int) ≤ (V.length : Int) := by omega
          have HB := hid (HB.out.trans (hb8.mono HB.out.size))
          have BX := hid (BX.out.below hb8)
          have RB := hid (RB.out.below hb8)
          have R8 := HR3.out.below hb8
          rw [hln] at R8
          have HR8 := hid R8
          have HFI := hid (show Ints w8 (.slice ua (V.length + 1) uc) (V ++ [(k : Int)]) from by
            have z := Flat.of_owns HR8.out.1
            exact z)
          obtain ⟨a9, cap9, e9, hl9, hm9, HCX⟩ := Ints.open HFI.out
          rw [hln] at e9
          obtain ⟨rfl, -, rfl⟩ : ua = a9 ∧ True ∧ uc = cap9 := by simpa using e9
          obtain ⟨bb, off, rfl, hbs, c9⟩ := HCX V.length (by simp)
          have c9 : w8.cell? ⟨bb, off + V.length, none⟩ = some (.int .i64 (k : Int)) := by rw [c9]; simp
          have hn1 : ((V.length + 1 : Nat) : Int) - 1 = (V.length : Int) := by omega
          have hn1' : ((V.length : Int) + 1) - 1 = (V.length : Int) := by omega
          have HSZ9 := hid (fun b (h : Blk (.slice (some ⟨bb, off, none⟩) (V.length + 1) uc) b) => (show ¬ b = w.heap.size by have := HR8.out.2 b h; have := HSZ.out; omega))
          rw [hln] at hl9
          have hcap : (V.length : Int) ≤ (uc : Int) := by omega
          have hwr : IntKind.i64.wrap (V.length : Int) = (V.length : Int) := by rw [IntKind.wrap_i64]; omega
          clear o8 C8 hb8 R8 HR3 HFR e9 HCX HWK HFI
          obtain ⟨t0, t1, t2, t3⟩ := tree_at (show BoxF w8 w.heap.size (TreeD.enc ⟨L, root⟩) from BX.out) HC.out k hk16
          have HTW := hid (show tw L (k : Int) = tw L k from rfl)
          obtain ⟨X, hX⟩ : ∃ X, tw L (k : Int) = X := ⟨_, rfl⟩
          rw [hX] at t0 t1 t2 t3 h3 h4 hu
          have HX := hid hX
          obtain ⟨xu, xk, xl, xr⟩ := X
          dsimp only at t0 t1 t2 t3 h3 h4 hu
          subst hu
          clear HTW hX
          go_upto_region 11 with fail
          obtain ⟨W10, hW10⟩ : ∃ X, w8.alloc (.cells #[.bool true, .int .i64 xk, .int .i64 xl, .int .i64 xr] 28) = X := ⟨_, rfl⟩
          have hb10 : Below w8.heap.size w8 W10 := by rw [← hW10]; exact (Below.refl _ _).alloc (Nat.le_refl _) _
          have D10 := hid (show BoxF W10 w8.heap.size [.bool true, .int .i64 xk, .int .i64 xl, .int .i64 xr] by rw [← hW10]; exact BoxF.alloc w8 #[.bool true, .int .i64 xk, .int .i64 xl, .int .i64 xr] 28)
          have HB := hid (HB.out.trans (hb10.mono HB.out.size))
          have BX := hid (BX.out.below hb10)
          have RB := hid (RB.out.below hb10)
          have K9 := hid (K9.out.below hb10)
          have HR8 := hid (HR8.out.below hb10)
          have hW10 := hid hW10
          rw [hW10.out]
          have d2 : W10.cell? ⟨w8.heap.size, 2, none⟩ = some (.int .i64 xl) := D10.out.1.2 2 (by simp)
          have d3 : W10.cell? ⟨w8.heap.size, 3, none⟩ = some (.int .i64 xr) := D10.out.1.2 3 (by simp)
          clear hb10 t0 t1 t2 t3 c9 hW10
          have h3l : xl = -1 ∨ 0 ≤ xl := by
            have z := part_link h3
            unfold linkB at z; simp [inB] at z; omega
          have h4l : xr = -1 ∨ 0 ≤ xr := by
            have z := part_link h4
            unfold linkB at z; simp [inB] at z; omega
          by_cases hxl : xl = -1
          · have hDA := HF1.out.trans (show dropAt ⟨L, root⟩ (linkOf L key V) k (V.length + 1) = (hangT ⟨L.set k zTwig, root⟩ (linkOf L key V) xr, 0) by unfold dropAt; dsimp only; rw [HX.out, if_neg (by simp [hxl]), if_pos hxl, Int.toNat_natCast])
            have hxl0 : ¬ (0 : Int) ≤ xl := by omega
            have hxl1 : xl < 0 := by omega
            clear HF1 h3 h4 h3l h4l hxl
            rw [hang_comm L root (linkOf L key V) k zTwig xr (by have z := HLD.out; rw [Int.toNat_natCast] at z; exact z)] at hDA
            have HHL := hid (hangT_len (t := ⟨L, root⟩) HC.out (linkOf L key V) xr)
            have HSH := hid (fun (v : Value) (W : World) (hv : Ints W v V) => spec_l15Hang0 L HC.out root key xr V v W hv HVI.out)
            obtain ⟨⟨HT, Hr⟩, hHT⟩ : ∃ X, hangT ⟨L, root⟩ (linkOf L key V) xr = X := ⟨_, rfl⟩
            rw [hHT] at hDA HHL HSH
            dsimp only at hDA HHL
            have hlh : (TreeD.enc ⟨HT, Hr⟩).length = 65 := tree_len (c := ⟨HT, Hr⟩) HHL.out
            have honeh : (TreeD.enc ⟨HT, Hr⟩).all (·.oneCell') = true := tree_one ⟨HT, Hr⟩
            have hlv0 : (TreeD.enc ⟨HT.set k zTwig, Hr⟩).length = 65 := tree_len (c := ⟨HT.set k zTwig, Hr⟩) (set_len16 HHL.out k zTwig)
            have honev0 : (TreeD.enc ⟨HT.set k zTwig, Hr⟩).all (·.oneCell') = true := tree_one ⟨HT.set k zTwig, Hr⟩
            have HFE := hid (show (dropC ⟨L, root⟩ key).1.enc = TreeD.enc ⟨HT.set k zTwig, Hr⟩ by rw [hDA])
            have HFC := hid (show (dropC ⟨L, root⟩ key).2 = 0 by rw [hDA])
            have HkH := hid (show k < HT.length by rw [HHL.out]; exact hk16)
            clear hDA hHT
            go_upto_region 29 with fail
            go_still_tail 8, (by kernel_rfl)
            refine wpStill_load_box rfl 31 _ rfl w.heap.size (encT L root) (by exact BX.out.1) rfl _ Try.underlying31 rfl (by rw [hl]; kernel_rfl) ?_
            repeat still_step
            refine wpStill_nil ?_
            change wpList _ _ _ _ _ W10.drew
            have BX := hid (show BoxF W10.drew w.heap.size (encT L root) from BX.out)
            have RB := hid (show BoxF W10.drew (w.heap.size + 1) [.bool false, .int .i64 0, .int .i64 0, .int .i64 0, .bool false, .int .i64 0, .int .i64 0, .int .i64 0, .bool false, .int .i64 0, .int .i64 0, .int .i64 0, .bool false, .int .i64 0, .int .i64 0, .int .i64 0, .bool false, .int .i64 0, .int .i64 0, .int .i64 0, .bool false, .int .i64 0, .int .i64 0, .int .i64 0, .bool false, .int .i64 0, .int .i64 0, .int .i64 0, .bool false, .int .i64 0, .int .i64 0, .int .i64 0, .bool false, .int .i64 0, .int .i64 0, .int .i64 0, .bool false, .int .i64 0, .int .i64 0, .int .i64 0, .bool false, .int .i64 0, .int .i64 0, .int .i64 0, .bool false, .int .i64 0, .int .i64 0, .int .i64 0, .bool false, .int .i64 0, .int .i64 0, .int .i64 0, .bool false, .int .i64 0, .int .i64 0, .int .i64 0, .bool false, .int .i64 0, .int .i64 0, .int .i64 0, .bool false, .int .i64 0, .int .i64 0, .int .i64 0, .int .i64 0] from RB.out)
            have HB := hid (HB.out.drew)
            have HFV := hid (show Ints W10.drew (.slice (some ⟨bb, off, none⟩) V.length uc) V by
              have z := (HR8.out.below (Below.refl _ _).drew).1
              rw [hln] at z
              have z2 := owns_take z (by omega) V.length (by omega)
              rw [encI_snocT, List.take_append_of_le_length (by rw [flatMap_len encI 1 (fun _ => rfl)]; exact Nat.le_refl _), List.take_of_length_le (by rw [flatMap_len encI 1 (fun _ => rfl)]; exact Nat.le_refl _)] at z2
              exact Flat.of_owns z2)
            generalize W10.drew = w11 at *
            clear d2 d3 K9 D10 HR8
            go_wp2_with (first | (go_at_call 43; refine (HSH.out _ _ HFV.out).mono ?_; rintro e wh ⟨rfl, bh⟩; have BX := hid (BX.out.below bh); have RB := hid (RB.out.below bh); have HB := hid (HB.out.trans (bh.mono HB.out.size)); clear bh) | (refine wpList_store_box rfl 31 _ _ rfl w.heap.size (encT L root) (TreeD.enc ⟨HT, Hr⟩) (by exact BX.out) rfl rfl (by rw [hl, hlh]) (by rw [hlh]; kernel_rfl) honeh ?_))
            intro w12 o12 C12
            have RB := hid (RB.out.chg C12 (by omega))
            have HB := hid (below_chg HB.out C12 HB.out.size (fun b hb => by omega))
            have BX := hid o12
            clear o12 C12
            go_wp2_with (refine wpList_store_el Twig.enc 4 (fun _ => rfl) rfl 28 _ _ rfl w.heap.size (k * 4) [] [.int .i64 Hr] HT k zTwig (by exact BX.out) HkH.out (by simp) rfl rfl (by kernel_rfl) rfl ?_)
            intro w13 o13 C13
            have RB := hid (RB.out.chg C13 (by omega))
            have HB := hid (below_chg HB.out C13 HB.out.size (fun b hb => by omega))
            have BX := hid (show BoxF w13 w.heap.size (TreeD.enc ⟨HT.set k zTwig, Hr⟩) from o13)
            clear o13 C13
            go_wp2_with (first | (refine wpList_load_boxg rfl 31 _ rfl w.heap.size (TreeD.enc ⟨HT.set k zTwig, Hr⟩) (by exact BX.out.1) rfl _ Try.underlying31 rfl (by rw [hlv0]; kernel_rfl) ?_) | (refine wpList_store_box rfl 31 _ _ rfl (w.heap.size + 1) [.bool false, .int .i64 0, .int .i64 0, .int .i64 0, .bool false, .int .i64 0, .int .i64 0, .int .i64 0, .bool false, .int .i64 0, .int .i64 0, .int .i64 0, .bool false, .int .i64 0, .int .i64 0, .int .i64 0, .bool false, .int .i64 0, .int .i64 0, .int .i64 0, .bool false, .int .i64 0, .int .i64 0, .int .i64 0, .bool false, .int .i64 0, .int .i64 0, .int .i64 0, .bool false, .int .i64 0, .int .i64 0, .int .i64 0, .bool false, .int .i64 0, .int .i64 0, .int .i64 0, .bool false, .int .i64 0, .int .i64 0, .int .i64 0, .bool false, .int .i64 0, .int .i64 0, .int .i64 0, .bool false, .int .i64 0, .int .i64 0, .int .i64 0, .bool false, .int .i64 0, .int .i64 0, .int .i64 0, .bool false, .int .i64 0, .int .i64 0, .int .i64 0, .bool false, .int .i64 0, .int .i64 0, .int .i64 0, .bool false, .int .i64 0, .int .i64 0, .int .i64 0, .int .i64 0] (TreeD.enc ⟨HT.set k zTwig, Hr⟩) (by exact RB.out) rfl rfl (by rw [hlv0]; rfl) (by rw [hlv0]; kernel_rfl) honev0 ?_))
            intro w9 o9 C9
            have O9 := hid o9
            have HB9 := hid (below_chg HB.out C9 HB.out.size (fun b hb => by omega))
            clear o9 C9
            go_wp2
            exact bodyPost_ret (results_cq rfl _ _ (w.heap.size + 1) (TreeD.enc ⟨HT.set k zTwig, Hr⟩) rfl O9.out _ Try.underlying31 rfl (by rw [hlv0]; kernel_rfl)) rfl ⟨by rw [HFE.out, HFC.out]; rfl, HB9.out⟩
          · by_cases hxr : xr = -1
            · have hDA := HF1.out.trans (show dropAt ⟨L, root⟩ (linkOf L key V) k (V.length + 1) = (hangT ⟨L.set k zTwig, root⟩ (linkOf L key V) xl, 0) by unfold dropAt; dsimp only; rw [HX.out, if_neg (by simp [hxr]), if_neg hxl, Int.toNat_natCast])
              have hxl0 : (0 : Int) ≤ xl := by omega
              have hxl1 : ¬ xl < 0 := by omega
              have hxr0 : ¬ (0 : Int) ≤ xr := by omega
              clear HF1 h3 h4 h3l h4l hxl hxr
              rw [hang_comm L root (linkOf L key V) k zTwig xl (by have z := HLD.out; rw [Int.toNat_natCast] at z; exact z)] at hDA
              have HHL := hid (hangT_len (t := ⟨L, root⟩) HC.out (linkOf L key V) xl)
              have HSH := hid (fun (v : Value) (W : World) (hv : Ints W v V) => spec_l15Hang0 L HC.out root key xl V v W hv HVI.out)
              obtain ⟨⟨HT, Hr⟩, hHT⟩ : ∃ X, hangT ⟨L, root⟩ (linkOf L key V) xl = X := ⟨_, rfl⟩
              rw [hHT] at hDA HHL HSH
              dsimp only at hDA HHL
              have hlh : (TreeD.enc ⟨HT, Hr⟩).length = 65 := tree_len (c := ⟨HT, Hr⟩) HHL.out
              have honeh : (TreeD.enc ⟨HT, Hr⟩).all (·.oneCell') = true := tree_one ⟨HT, Hr⟩
              have hlv0 : (TreeD.enc ⟨HT.set k zTwig, Hr⟩).length = 65 := tree_len (c := ⟨HT.set k zTwig, Hr⟩) (set_len16 HHL.out k zTwig)
              have honev0 : (TreeD.enc ⟨HT.set k zTwig, Hr⟩).all (·.oneCell') = true := tree_one ⟨HT.set k zTwig, Hr⟩
              have HFE := hid (show (dropC ⟨L, root⟩ key).1.enc = TreeD.enc ⟨HT.set k zTwig, Hr⟩ by rw [hDA])
              have HFC := hid (show (dropC ⟨L, root⟩ key).2 = 0 by rw [hDA])
              have HkH := hid (show k < HT.length by rw [HHL.out]; exact hk16)
              clear hDA hHT
              go_upto_region 29 with fail
              go_still_tail 8, (by kernel_rfl)
              refine wpStill_load_box rfl 31 _ rfl w.heap.size (encT L root) (by exact BX.out.1) rfl _ Try.underlying31 rfl (by rw [hl]; kernel_rfl) ?_
              repeat still_step
              refine wpStill_nil ?_
              change wpList _ _ _ _ _ W10.drew
              have BX := hid (show BoxF W10.drew w.heap.size (encT L root) from BX.out)
              have RB := hid (show BoxF W10.drew (w.heap.size + 1) [.bool false, .int .i64 0, .int .i64 0, .int .i64 0, .bool false, .int .i64 0, .int .i64 0, .int .i64 0, .bool false, .int .i64 0, .int .i64 0, .int .i64 0, .bool false, .int .i64 0, .int .i64 0, .int .i64 0, .bool false, .int .i64 0, .int .i64 0, .int .i64 0, .bool false, .int .i64 0, .int .i64 0, .int .i64 0, .bool false, .int .i64 0, .int .i64 0, .int .i64 0, .bool false, .int .i64 0, .int .i64 0, .int .i64 0, .bool false, .int .i64 0, .int .i64 0, .int .i64 0, .bool false, .int .i64 0, .int .i64 0, .int .i64 0, .bool false, .int .i64 0, .int .i64 0, .int .i64 0, .bool false, .int .i64 0, .int .i64 0, .int .i64 0, .bool false, .int .i64 0, .int .i64 0, .int .i64 0, .bool false, .int .i64 0, .int .i64 0, .int .i64 0, .bool false, .int .i64 0, .int .i64 0, .int .i64 0, .bool false, .int .i64 0, .int .i64 0, .int .i64 0, .int .i64 0] from RB.out)
              have HB := hid (HB.out.drew)
              have HFV := hid (show Ints W10.drew (.slice (some ⟨bb, off, none⟩) V.length uc) V by
                have z := (HR8.out.below (Below.refl _ _).drew).1
                rw [hln] at z
                have z2 := owns_take z (by omega) V.length (by omega)
                rw [encI_snocT, List.take_append_of_le_length (by rw [flatMap_len encI 1 (fun _ => rfl)]; exact Nat.le_refl _), List.take_of_length_le (by rw [flatMap_len encI 1 (fun _ => rfl)]; exact Nat.le_refl _)] at z2
                exact Flat.of_owns z2)
              generalize W10.drew = w11 at *
              clear d2 d3 K9 D10 HR8
              go_wp2_with (first | (go_at_call 43; refine (HSH.out _ _ HFV.out).mono ?_; rintro e wh ⟨rfl, bh⟩; have BX := hid (BX.out.below bh); have RB := hid (RB.out.below bh); have HB := hid (HB.out.trans (bh.mono HB.out.size)); clear bh) | (refine wpList_store_box rfl 31 _ _ rfl w.heap.size (encT L root) (TreeD.enc ⟨HT, Hr⟩) (by exact BX.out) rfl rfl (by rw [hl, hlh]) (by rw [hlh]; kernel_rfl) honeh ?_))
              intro w12 o12 C12
              have RB := hid (RB.out.chg C12 (by omega))
              have HB := hid (below_chg HB.out C12 HB.out.size (fun b hb => by omega))
              have BX := hid o12
              clear o12 C12
              go_wp2_with (refine wpList_store_el Twig.enc 4 (fun _ => rfl) rfl 28 _ _ rfl w.heap.size (k * 4) [] [.int .i64 Hr] HT k zTwig (by exact BX.out) HkH.out (by simp) rfl rfl (by kernel_rfl) rfl ?_)
              intro w13 o13 C13
              have RB := hid (RB.out.chg C13 (by omega))
              have HB := hid (below_chg HB.out C13 HB.out.size (fun b hb => by omega))
              have BX := hid (show BoxF w13 w.heap.size (TreeD.enc ⟨HT.set k zTwig, Hr⟩) from o13)
              clear o13 C13
              go_wp2_with (first | (refine wpList_load_boxg rfl 31 _ rfl w.heap.size (TreeD.enc ⟨HT.set k zTwig, Hr⟩) (by exact BX.out.1) rfl _ Try.underlying31 rfl (by rw [hlv0]; kernel_rfl) ?_) | (refine wpList_store_box rfl 31 _ _ rfl (w.heap.size + 1) [.bool false, .int .i64 0, .int .i64 0, .int .i64 0, .bool false, .int .i64 0, .int .i64 0, .int .i64 0, .bool false, .int .i64 0, .int .i64 0, .int .i64 0, .bool false, .int .i64 0, .int .i64 0, .int .i64 0, .bool false, .int .i64 0, .int .i64 0, .int .i64 0, .bool false, .int .i64 0, .int .i64 0, .int .i64 0, .bool false, .int .i64 0, .int .i64 0, .int .i64 0, .bool false, .int .i64 0, .int .i64 0, .int .i64 0, .bool false, .int .i64 0, .int .i64 0, .int .i64 0, .bool false, .int .i64 0, .int .i64 0, .int .i64 0, .bool false, .int .i64 0, .int .i64 0, .int .i64 0, .bool false, .int .i64 0, .int .i64 0, .int .i64 0, .bool false, .int .i64 0, .int .i64 0, .int .i64 0, .bool false, .int .i64 0, .int .i64 0, .int .i64 0, .bool false, .int .i64 0, .int .i64 0, .int .i64 0, .bool false, .int .i64 0, .int .i64 0, .int .i64 0, .int .i64 0] (TreeD.enc ⟨HT.set k zTwig, Hr⟩) (by exact RB.out) rfl rfl (by rw [hlv0]; rfl) (by rw [hlv0]; kernel_rfl) honev0 ?_))
              intro w9 o9 C9
              have O9 := hid o9
              have HB9 := hid (below_chg HB.out C9 HB.out.size (fun b hb => by omega))
              clear o9 C9
              go_wp2
              exact bodyPost_ret (results_cq rfl _ _ (w.heap.size + 1) (TreeD.enc ⟨HT.set k zTwig, Hr⟩) rfl O9.out _ Try.underlying31 rfl (by rw [hlv0]; kernel_rfl)) rfl ⟨by rw [HFE.out, HFC.out]; rfl, HB9.out⟩
            · have hboth := hxl
              have hxl0 : (0 : Int) ≤ xl := by omega
              have hxr0 : (0 : Int) ≤ xr := by omega
              have hend := leastT_end L root k hi 16 (k * 4 + 3) xr us (V.length + 1 + 1) h4 hxr n2 (by omega) n4 (.inr ⟨k, hk16, .inr ⟨rfl, by rw [HX.out]⟩⟩) (by omega) (.inl (by rw [Int.toNat_natCast]))
              have HD0 := hid (HF1.out.trans (show dropAt ⟨L, root⟩ (linkOf L key V) k (V.length + 1) = dropLeast ⟨L, root⟩ k (leastT L 16 (k * 4 + 3) xr (V.length + 1 + 1)) by unfold dropAt; dsimp only; rw [HX.out, if_pos ⟨hxl, hxr⟩, Int.toNat_natCast]))
              obtain ⟨⟨Rl, Rq, Rm⟩, hR⟩ : ∃ r, leastT L 16 (k * 4 + 3) xr (V.length + 1 + 1) = r := ⟨_, rfl⟩
              rw [hR] at hend HD0
              dsimp only at hend
              obtain ⟨-, e2, -, e4, e5, e6, -⟩ := hend
              have HE := hid (And.intro e2 (And.intro e4 (And.intro e5 e6)))
              have HR0 := hid hR
              have HP0 := hid h4
              have HN4 := hid n4
              obtain ⟨_, _, hxi, _⟩ := h4.inv hxr
              obtain ⟨q0, rfl, hq016⟩ : ∃ q : Nat, xr = (q : Int) ∧ q < 16 := by
                have := inB_nn hxi
                exact ⟨xr.toNat, by omega, by omega⟩
              have hul : us.length ≤ 16 := by omega
              clear HF1 h3 h4 h3l h4l hxl hxr hR e2 e4 e5 e6 hi n1 n2 n3 n4 hxi
              go_upto_region 13 with fail
              go_quiet (fail)
              obtain ⟨w11, hw11⟩ : ∃ X, W10.drewN nq = X := ⟨_, rfl⟩
              have BX := hid (show BoxF w11 w.heap.size (encT L root) from hw11 ▸ BX.out)
              have RB := hid (show BoxF w11 (w.heap.size + 1) [.bool false, .int .i64 0, .int .i64 0, .int .i64 0, .bool false, .int .i64 0, .int .i64 0, .int .i64 0, .bool false, .int .i64 0, .int .i64 0, .int .i64 0, .bool false, .int .i64 0, .int .i64 0, .int .i64 0, .bool false, .int .i64 0, .int .i64 0, .int .i64 0, .bool false, .int .i64 0, .int .i64 0, .int .i64 0, .bool false, .int .i64 0, .int .i64 0, .int .i64 0, .bool false, .int .i64 0, .int .i64 0, .int .i64 0, .bool false, .int .i64 0, .int .i64 0, .int .i64 0, .bool false, .int .i64 0, .int .i64 0, .int .i64 0, .bool false, .int .i64 0, .int .i64 0, .int .i64 0, .bool false, .int .i64 0, .int .i64 0, .int .i64 0, .bool false, .int .i64 0, .int .i64 0, .int .i64 0, .bool false, .int .i64 0, .int .i64 0, .int .i64 0, .bool false, .int .i64 0, .int .i64 0, .int .i64 0, .bool false, .int .i64 0, .int .i64 0, .int .i64 0, .int .i64 0] from hw11 ▸ RB.out)
              have K9 := hid (show BoxF w11 wq.heap.size (encT L root) from hw11 ▸ K9.out)
              have HB := hid (show Below w.heap.size w w11 from hw11 ▸ below_drewN HB.out nq)
              rw [hw11]
              clear hw11 d2 d3 D10 HR8
              go_upto_region 14 with fail
              go_loopw [12, 13, 14] (fun m u q wr => ∃ (m' uu qq l f : Nat) (xs : List Int), m = .int .i64 m' ∧ u = .int .i64 uu ∧ q = .int .i64 qq ∧ uu < 16 ∧ qq < 16 ∧ ((uu = k ∧ l = k * 4 + 3) ∨ (¬ uu = k ∧ l = uu * 4 + 2)) ∧ Hid (leastT L f l qq m' = (Rl, Rq, Rm)) ∧ Hid (Part L qq xs) ∧ xs.length ≤ f ∧ Hid (¬ (k : Int) ∈ xs) ∧ m' ≤ 40 ∧ f + m' ≤ 40 ∧ wr = w11) (fun m _ _ _ => 41 - (intOf m).toNat)
              case atStart => exact ⟨V.length + 1 + 1, k, q0, k * 4 + 3, 16, us, by go_num, rfl, rfl, hk16, hq016, .inl ⟨rfl, rfl⟩, HR0, HP0, hul, HN4, by omega, by omega, rfl⟩
              case round =>
                clear HR0 HP0 HN4 hul
                obtain ⟨m', uu, qq, l, f, xs, rfl, rfl, rfl, huu, hqq, hlu, HR0, HP0, hul, HN4, hm40, hfm, hwr⟩ := hrel
                subst hwr
                have hne : ¬ (qq : Int) = -1 := by omega
                obtain ⟨ys2, zs2, -, -, h3, -, rfl⟩ := HP0.out.inv hne
                simp only [List.length_append, List.length_cons] at hul
                obtain ⟨f', rfl⟩ : ∃ f', f = f' + 1 := by
                  cases f with
                  | zero => omega
                  | succ f' => exact ⟨f', rfl⟩
                have hqq0 : (0 : Int) ≤ (qq : Int) := by omega
                have hqq1 : (qq : Int) < 16 := by omega
                have huu0 : (0 : Int) ≤ (uu : Int) := by omega
                have huu1 : (uu : Int) < 16 := by omega
                obtain ⟨-, y1, y2, y3⟩ := tree_at (show BoxF wr w.heap.size (TreeD.enc ⟨L, root⟩) from BX.out) HC.out qq hqq
                by_cases hle : (tw L (qq : Int)).left_ = -1
                · have hEQ := HR0.out
                  rw [leastT, if_pos (by omega)] at hEQ
                  obtain ⟨rfl, rfl, rfl⟩ : l = Rl ∧ (qq : Int) = Rq ∧ m' = Rm := by simpa using hEQ
                  rw [hle] at y2
                  obtain ⟨KV, hKV⟩ : ∃ x, (tw L (qq : Int)).key_ = x := ⟨_, rfl⟩
                  obtain ⟨RV, hRV⟩ : ∃ x, (tw L (qq : Int)).right_ = x := ⟨_, rfl⟩
                  rw [hKV] at y1
                  rw [hRV] at y3
                  have hkv := hid hKV
                  have hrv := hid hRV
                  clear hEQ HR0 HP0 HN4 h3 hul hle hKV hRV
                  by_cases h8 : m' ≤ 8
                  · have hm8 : ¬ (m' : Int) > 8 := by omega
                    have hDA := HD0.out.trans (show dropLeast ⟨L, root⟩ k (l, (qq : Int), m') = (hangT ⟨(L.set k { tw L k with key_ := KV }).set qq zTwig, root⟩ l RV, 0) by unfold dropLeast; dsimp only; rw [if_pos h8, hkv.out, hrv.out, Int.toNat_natCast, Int.toNat_natCast])
                    rw [hang_comm _ root l qq zTwig RV (.inr (by have := HE.out.2.2.2; rw [Int.toNat_natCast] at this; exact this))] at hDA
                    have HLK := hid HE.out.2.1.C
                    have hqk : ¬ (qq : Int) = (k : Int) := HE.out.1
                    have HMR := hid ((tw_keyS L k HkL.out KV qq).2.trans hrv.out)
                    have HEK := hid (enc_keyS L root k HkL.out KV)
                    have HML := hid (set_len16 HC.out k { tw L k with key_ := KV })
                    obtain ⟨M, hM⟩ : ∃ X, L.set k { tw L k with key_ := KV } = X := ⟨_, rfl⟩
                    rw [hM] at hDA HMR HEK HML
                    have HEH := hid (show (encT M root).set l (.int .i64 RV) = (hangT ⟨M, root⟩ l RV).enc from enc_hang M HML.out root l HLK.out RV)
                    have HHL := hid (hangT_len (t := ⟨M, root⟩) HML.out l RV)
                    have hlM : (encT M root).length = 65 := tree_len (c := ⟨M, root⟩) HML.out
                    obtain ⟨⟨HT, Hr⟩, hHT⟩ : ∃ X, hangT ⟨M, root⟩ l RV = X := ⟨_, rfl⟩
                    rw [hHT] at hDA HEH HHL
                    dsimp only at hDA HHL
                    have hlv0 : (TreeD.enc ⟨HT.set qq zTwig, Hr⟩).length = 65 := tree_len (c := ⟨HT.set qq zTwig, Hr⟩) (set_len16 HHL.out qq zTwig)
                    have honev0 : (TreeD.enc ⟨HT.set qq zTwig, Hr⟩).all (·.oneCell') = true := tree_one ⟨HT.set qq zTwig, Hr⟩
                    have HFE := hid (show (dropC ⟨L, root⟩ key).1.enc = TreeD.enc ⟨HT.set qq zTwig, Hr⟩ by rw [hDA])
                    have HFC := hid (show (dropC ⟨L, root⟩ key).2 = 0 by rw [hDA])
                    have HqH := hid (show qq < HT.length by rw [HHL.out]; exact hqq)
                    have hLlt := HLK.out.lt
                    have HLT := hid hLlt
                    clear hDA hHT hM HD0 HE hLlt
                    go_upto_region 21 with (refine wpList_store_cell rfl 3 _ _ rfl w.heap.size (k * 4 + 1) (encT L root) (.int .i64 KV) (by exact BX.out) rfl rfl (by rw [hl]; omega) (by kernel_rfl) rfl rfl ?_)
                    intro w13 o13 C13
                    rw [HEK.out] at o13
                    have RB := hid (RB.out.chg C13 (by omega))
                    have HB := hid (below_chg HB.out C13 HB.out.size (fun b hb => by omega))
                    have BX := hid o13
                    clear o13 C13 y1 y2 y3
                    have y3 : w13.cell? ⟨w.heap.size, qq * 4 + 3, none⟩ = some (.int .i64 RV) := by
                      have z := (tree_at (show BoxF w13 w.heap.size (TreeD.enc ⟨M, root⟩) from BX.out) HML.out qq hqq).2.2.2
                      rw [HMR.out] at z; exact z
                    rcases hlu with ⟨rfl, rfl⟩ | ⟨hku, rfl⟩
                    · go_wp2_with (refine wpList_store_cell rfl 3 _ _ rfl w.heap.size (uu * 4 + 3) (encT M root) (.int .i64 RV) (by exact BX.out) rfl rfl (by rw [hlM]; omega) (by kernel_rfl) rfl rfl ?_)
                      intro w14 o14 C14
                      rw [HEH.out] at o14
                      have RB := hid (RB.out.chg C14 (by omega))
                      have HB := hid (below_chg HB.out C14 HB.out.size (fun b hb => by omega))
                      have BX := hid o14
                      clear o14 C14 y3
                      go_wp2_with (refine wpList_store_el Twig.enc 4 (fun _ => rfl) rfl 28 _ _ rfl w.heap.size (qq * 4) [] [.int .i64 Hr] HT qq zTwig (by exact BX.out) HqH.out (by simp) rfl rfl (by kernel_rfl) rfl ?_)
                      intro w15 o15 C15
                      have RB := hid (RB.out.chg C15 (by omega))
                      have HB := hid (below_chg HB.out C15 HB.out.size (fun b hb => by omega))
                      have BX := hid (show BoxF w15 w.heap.size (TreeD.enc ⟨HT.set qq zTwig, Hr⟩) from o15)
                      clear o15 C15
                      go_wp2_with (first | (refine wpList_load_boxg rfl 31 _ rfl w.heap.size (TreeD.enc ⟨HT.set qq zTwig, Hr⟩) (by exact BX.out.1) rfl _ Try.underlying31 rfl (by rw [hlv0]; kernel_rfl) ?_) | (refine wpList_store_box rfl 31 _ _ rfl (w.heap.size + 1) [.bool false, .int .i64 0, .int .i64 0, .int .i64 0, .bool false, .int .i64 0, .int .i64 0, .int .i64 0, .bool false, .int .i64 0, .int .i64 0, .int .i64 0, .bool false, .int .i64 0, .int .i64 0, .int .i64 0, .bool false, .int .i64 0, .int .i64 0, .int .i64 0, .bool false, .int .i64 0, .int .i64 0, .int .i64 0, .bool false, .int .i64 0, .int .i64 0, .int .i64 0, .bool false, .int .i64 0, .int .i64 0, .int .i64 0, .bool false, .int .i64 0, .int .i64 0, .int .i64 0, .bool false, .int .i64 0, .int .i64 0, .int .i64 0, .bool false, .int .i64 0, .int .i64 0, .int .i64 0, .bool false, .int .i64 0, .int .i64 0, .int .i64 0, .bool false, .int .i64 0, .int .i64 0, .int .i64 0, .bool false, .int .i64 0, .int .i64 0, .int .i64 0, .bool false, .int .i64 0, .int .i64 0, .int .i64 0, .bool false, .int .i64 0, .int .i64 0, .int .i64 0, .int .i64 0] (TreeD.enc ⟨HT.set qq zTwig, Hr⟩) (by exact RB.out) rfl rfl (by rw [hlv0]; rfl) (by rw [hlv0]; kernel_rfl) honev0 ?_))
                      intro w9 o9 C9
                      have O9 := hid o9
                      have HB9 := hid (below_chg HB.out C9 HB.out.size (fun b hb => by omega))
                      clear o9 C9
                      go_wp2
                      exact bodyPost_ret (results_cq rfl _ _ (w.heap.size + 1) (TreeD.enc ⟨HT.set qq zTwig, Hr⟩) rfl O9.out _ Try.underlying31 rfl (by rw [hlv0]; kernel_rfl)) rfl ⟨by rw [HFE.out, HFC.out]; rfl, HB9.out⟩
                    · have hku2 : ¬ (uu : Int) = (k : Int) := by omega
                      go_wp2_with (refine wpList_store_cell rfl 3 _ _ rfl w.heap.size (uu * 4 + 2) (encT M root) (.int .i64 RV) (by exact BX.out) rfl rfl (by rw [hlM]; omega) (by kernel_rfl) rfl rfl ?_)
                      intro w14 o14 C14
                      rw [HEH.out] at o14
                      have RB := hid (RB.out.chg C14 (by omega))
                      have HB := hid (below_chg HB.out C14 HB.out.size (fun b hb => by omega))
                      have BX := hid o14
                      clear o14 C14 y3
                      go_wp2_with (refine wpList_store_el Twig.enc 4 (fun _ => rfl) rfl 28 _ _ rfl w.heap.size (qq * 4) [] [.int .i64 Hr] HT qq zTwig (by exact BX.out) HqH.out (by simp) rfl rfl (by kernel_rfl) rfl ?_)
                      intro w15 o15 C15
                      have RB := hid (RB.out.chg C15 (by omega))
                      have HB := hid (below_chg HB.out C15 HB.out.size (fun b hb => by omega))
                      have BX := hid (show BoxF w15 w.heap.size (TreeD.enc ⟨HT.set qq zTwig, Hr⟩) from o15)
                      clear o15 C15
                      go_wp2_with (first | (refine wpList_load_boxg rfl 31 _ rfl w.heap.size (TreeD.enc ⟨HT.set qq zTwig, Hr⟩) (by exact BX.out.1) rfl _ Try.underlying31 rfl (by rw [hlv0]; kernel_rfl) ?_) | (refine wpList_store_box rfl 31 _ _ rfl (w.heap.size + 1) [.bool false, .int .i64 0, .int .i64 0, .int .i64 0, .bool false, .int .i64 0, .int .i64 0, .int .i64 0, .bool false, .int .i64 0, .int .i64 0, .int .i64 0, .bool false, .int .i64 0, .int .i64 0, .int .i64 0, .bool false, .int .i64 0, .int .i64 0, .int .i64 0, .bool false, .int .i64 0, .int .i64 0, .int .i64 0, .bool false, .int .i64 0, .int .i64 0, .int .i64 0, .bool false, .int .i64 0, .int .i64 0, .int .i64 0, .bool false, .int .i64 0, .int .i64 0, .int .i64 0, .bool false, .int .i64 0, .int .i64 0, .int .i64 0, .bool false, .int .i64 0, .int .i64 0, .int .i64 0, .bool false, .int .i64 0, .int .i64 0, .int .i64 0, .bool false, .int .i64 0, .int .i64 0, .int .i64 0, .bool false, .int .i64 0, .int .i64 0, .int .i64 0, .bool false, .int .i64 0, .int .i64 0, .int .i64 0, .bool false, .int .i64 0, .int .i64 0, .int .i64 0, .int .i64 0] (TreeD.enc ⟨HT.set qq zTwig, Hr⟩) (by exact RB.out) rfl rfl (by rw [hlv0]; rfl) (by rw [hlv0]; kernel_rfl) honev0 ?_))
                      intro w9 o9 C9
                      have O9 := hid o9
                      have HB9 := hid (below_chg HB.out C9 HB.out.size (fun b hb => by omega))
                      clear o9 C9
                      go_wp2
                      exact bodyPost_ret (results_cq rfl _ _ (w.heap.size + 1) (TreeD.enc ⟨HT.set qq zTwig, Hr⟩) rfl O9.out _ Try.underlying31 rfl (by rw [hlv0]; kernel_rfl)) rfl ⟨by rw [HFE.out, HFC.out]; rfl, HB9.out⟩
                  · have hm8 : (m' : Int) > 8 := by omega
                    have HF := hid (HD0.out.trans (show dropLeast ⟨L, root⟩ k (l, (qq : Int), m') = (⟨L, root⟩, 2) by unfold dropLeast; rw [if_neg h8]))
                    clear HD0 HE
                    go_wp2_with (first | (refine wpList_load_boxg rfl 31 _ rfl wq.heap.size (encT L root) (by exact K9.out.1) rfl _ Try.underlying31 rfl (by rw [hl]; kernel_rfl) ?_) | (refine wpList_store_box rfl 31 _ _ rfl (w.heap.size + 1) [.bool false, .int .i64 0, .int .i64 0, .int .i64 0, .bool false, .int .i64 0, .int .i64 0, .int .i64 0, .bool false, .int .i64 0, .int .i64 0, .int .i64 0, .bool false, .int .i64 0, .int .i64 0, .int .i64 0, .bool false, .int .i64 0, .int .i64 0, .int .i64 0, .bool false, .int .i64 0, .int .i64 0, .int .i64 0, .bool false, .int .i64 0, .int .i64 0, .int .i64 0, .bool false, .int .i64 0, .int .i64 0, .int .i64 0, .bool false, .int .i64 0, .int .i64 0, .int .i64 0, .bool false, .int .i64 0, .int .i64 0, .int .i64 0, .bool false, .int .i64 0, .int .i64 0, .int .i64 0, .bool false, .int .i64 0, .int .i64 0, .int .i64 0, .bool false, .int .i64 0, .int .i64 0, .int .i64 0, .bool false, .int .i64 0, .int .i64 0, .int .i64 0, .bool false, .int .i64 0, .int .i64 0, .int .i64 0, .bool false, .int .i64 0, .int .i64 0, .int .i64 0, .int .i64 0] (encT L root) (by exact RB.out) rfl rfl (by rw [hl]; rfl) (by rw [hl]; kernel_rfl) hone ?_))
                    intro w9 o9 C9
                    have O9 := hid o9
                    have HB9 := hid (below_chg HB.out C9 HB.out.size (fun b hb => by omega))
                    clear o9 C9
                    go_wp2
                    exact bodyPost_ret (results_cq rfl _ _ (w.heap.size + 1) (encT L root) rfl O9.out _ Try.underlying31 rfl (by rw [hl]; kernel_rfl)) rfl ⟨by rw [HF.out]; rfl, HB9.out⟩
                · obtain ⟨_, _, hi2, _⟩ := h3.inv hle
                  obtain ⟨q2, hq2, hq216⟩ : ∃ q : Nat, (tw L (qq : Int)).left_ = (q : Int) ∧ q < 16 := by
                    have := inB_nn hi2
                    exact ⟨(tw L (qq : Int)).left_.toNat, by omega, by omega⟩
                  have HR1 := hid (show leastT L f' (qq * 4 + 2) (q2 : Int) (m' + 1) = (Rl, Rq, Rm) by
                    have z := HR0.out
                    rw [leastT, if_neg (by omega), Int.toNat_natCast, hq2] at z; exact z)
                  have HP1 := hid h3
                  rw [hq2] at HP1 y2
                  have HN1 := hid (show ¬ (k : Int) ∈ ys2 from fun h => HN4.out (by simp [h]))
                  have hqk : ¬ qq = k := fun h => HN4.out (by simp [h])
                  have hq20 : (0 : Int) ≤ (q2 : Int) := by omega
                  clear HR0 HP0 HN4 h3 hle hq2 hi2 y1 y3
                  go_wp2
                  go_roundw
                  case rel => exact ⟨m' + 1, qq, q2, qq * 4 + 2, f', ys2, by go_num, rfl, rfl, hqq, hq216, .inr ⟨hqk, rfl⟩, HR1, HP1, by omega, HN1, by omega, by omega, by first | exact rfl | exact trivial⟩
                  case measure => simp [intOf]; omega
end Go.Proofs.Ytcjeafhejkppeaa
