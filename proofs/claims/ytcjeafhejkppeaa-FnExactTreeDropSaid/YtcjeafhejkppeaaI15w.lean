/- Chapter 15's program: the walk to a key; TreeFind. -/
import Derived.Test.YtcjeafhejkppeaaI15o
import Derived.Test.YtcjeafhejkppeaaS15w
namespace Go.Proofs.Ytcjeafhejkppeaa
set_option maxRecDepth 100000
open Go.RowKit Go.Proofs Go.Own
open Go Go.BigFrame
set_option linter.unusedVariables false
set_option linter.unusedSimpArgs false
theorem results_cq {P : Program} {fn : Func} {p q : Tmp} {ty : TypeId} (h : fn.results = #[.cell p ty, .tmp q]) (tmps : Array Value) (w : World) (b : Nat) (cs : List Value) (hp : tmps.getD p undef = .pointer (some ⟨b, 0, none⟩)) (hb : BoxF w b cs) (d : TypeDesc) (hu : P.underlying ty = some d) (hd : d.isRow = true) (hi : (P.info? ty).map (·.size) = some cs.length) :
    (results fn tmps).run P w = .ok (.tuple #[.agg cs.toArray, tmps.getD q undef]) w := by
  have hr := run_loadVar_mid (P := P) w b 0 ty cs d hb.1.range hu hd hi
  have hp2 : tmps[p]?.getD undef = .pointer (some ⟨b, 0, none⟩) := by simpa using hp
  simp [results, h, hp2, asAddr, hr]
theorem impl_isValueT (x : Int) (w : World) : Calls Try.prog 62 #[.int .i64 x] w fun e w' => e = .returned (.bool (isVal x)) ∧ w = w' := by
  unfold isVal
  by_cases h1 : -1000000000 ≤ x
  · by_cases h2 : x ≤ 1000000000
    · go_enter Try.func62, Try.ntmps62
      go_wp2
      go_ret
      simp [inB, h1, h2]
    · go_enter Try.func62, Try.ntmps62
      go_wp2
      go_ret
      simp [inB, h1, h2]
  · go_enter Try.func62, Try.ntmps62
    go_wp2
    go_ret
    simp [inB]
    omega
theorem impl_open8 (b : Nat) (x y : Value) (w : World) (h : BoxF w b [x, y, .int .i64 8]) :
    Calls Try.prog 63 #[.pointer (some ⟨b, 0, none⟩)] w fun e w' => e = .returned (.bool false) ∧ w = w' := by
  have c2 : w.cell? ⟨b, 2, none⟩ = some (.int .i64 8) := h.1.2 2 (by simp)
  go_enter Try.func63, Try.ntmps63
  go_wp2
  go_ret
  exact ⟨rfl, rfl⟩
theorem impl_openN (b : Nat) (x y : Value) (n : Nat) (hn : n < 8) (w : World) (h : BoxF w b [x, y, .int .i64 n]) :
    Calls Try.prog 63 #[.pointer (some ⟨b, 0, none⟩)] w fun e w' => e = .returned (.bool true) ∧ BoxF w' b [x, y, .int .i64 (n + 1 : Nat)] ∧ ChgS (fun k => k = b) w w' := by
  have c2 : w.cell? ⟨b, 2, none⟩ = some (.int .i64 n) := h.1.2 2 (by simp)
  have f2 : w.frozen? ⟨b, 2, none⟩ = false := h.2 2 (by simp)
  have hn8 : ¬ (n : Int) = 8 := by omega
  have HB := hid (show BoxF (w.setCell ⟨b, 2, none⟩ (.int .i64 ((n : Int) + 1))) b [x, y, .int .i64 (n + 1 : Nat)] from h.set 2 (by simp) _)
  have HC := hid (show ChgS (fun k => k = b) w (w.setCell ⟨b, 2, none⟩ (.int .i64 ((n : Int) + 1))) from (ChgS.refl _ _).set _ _ rfl)
  go_enter Try.func63, Try.ntmps63
  go_wp2
  go_ret
  exact ⟨rfl, HB.out, HC.out⟩
/-- The cell of a link holds a place. -/
def LocAt (L : List Twig) (root : Int) (l : Nat) (p : Int) : Prop := ∀ (W : World) (b : Nat), BoxF W b (TreeD.enc ⟨L, root⟩) → W.cell? ⟨b, l, none⟩ = some (.int .i64 p)
theorem loc_root {L : List Twig} (hL : L.length = 16) (root : Int) : LocAt L root 64 root := fun W b h => tree_root h hL
theorem loc_left {L : List Twig} (hL : L.length = 16) (root : Int) (k : Nat) (hk : k < 16) : LocAt L root (k * 4 + 2) (tw L k).left_ := fun W b h => (tree_at h hL k hk).2.2.1
theorem loc_right {L : List Twig} (hL : L.length = 16) (root : Int) (k : Nat) (hk : k < 16) : LocAt L root (k * 4 + 3) (tw L k).right_ := fun W b h => (tree_at h hL k hk).2.2.2
def walkI (t : TreeD) (key : Int) : Nat × Nat × Int := if (treeOk t && isVal key) = true then walkP t.twigs_ key 8 64 t.root_ 0 else (64, 0, 1)
set_option maxHeartbeats 8000000 in
theorem impl_walkTo0 (c : TreeD) (hc : c.twigs_.length = 16) (key : Int) (b : Nat) (w : World) (hB : BoxF w b c.enc) :
    Calls Try.prog 42 #[.pointer (some ⟨b, 0, none⟩), .int .i64 key] w fun e w' => e = .returned (.tuple #[.agg #[.pointer (some ⟨b, 0, none⟩), .pointer (some ⟨b, (walkI c key).1, none⟩), .int .i64 ((walkI c key).2.1 : Int)], .int .i64 (walkI c key).2.2]) ∧ Below w.heap.size w w' := by
  obtain ⟨L, root⟩ := c
  dsimp only at hc
  have hB : BoxF w b (encT L root) := hB
  have hl : (encT L root).length = 65 := tree_len (c := ⟨L, root⟩) hc
  have hl2 : (encT L root).toArray.size = 65 := by rw [List.size_toArray, hl]
  have HC := hid hc
  have HOK0 := hid (fun (W : World) => impl_TreeOk0 ⟨L, root⟩ hc W)
  rw [show (TreeD.enc ⟨L, root⟩) = encT L root from rfl] at HOK0
  obtain ⟨W1, hW1⟩ : ∃ X, w.alloc (.cells #[.pointer none, .pointer none, .int .i64 0] 67) = X := ⟨_, rfl⟩
  have hB1 : Below w.heap.size w W1 := by rw [← hW1]; exact (Below.refl _ _).alloc (Nat.le_refl _) _
  have HB1 := hid hB1
  have R1 := hid (show BoxF W1 w.heap.size [.pointer none, .pointer none, .int .i64 0] by rw [← hW1]; exact BoxF.alloc w #[.pointer none, .pointer none, .int .i64 0] 67)
  have BT1 := hid (hB.below hB1)
  have HLT := hid hB.1.1
  have HW1 := hid hW1
  clear hW1 hB hB1
  have HWH := hid (impl_whole b W1)
  unfold partV at HWH
  go_enter Try.func42, Try.ntmps42
  go_upto_region 1 with fail
  rw [HW1.out]
  go_upto_region 2 with (go_at_call 38; refine HWH.out.mono ?_; rintro e w2 ⟨rfl, b2⟩; have b2 := hid b2)
  obtain ⟨W3, hW3⟩ : ∃ X, w2.alloc (.cells #[.pointer (some ⟨b, 0, none⟩), .pointer (some ⟨b, 64, none⟩), .int .i64 0] 67) = X := ⟨_, rfl⟩
  have hb3 : Below w2.heap.size w2 W3 := by rw [← hW3]; exact (Below.refl _ _).alloc (Nat.le_refl _) _
  have hb13 : Below W1.heap.size W1 W3 := b2.out.trans (hb3.mono b2.out.size)
  have HB3 := hid (HB1.out.trans (hb13.mono HB1.out.size))
  have R3 := hid (R1.out.below hb13)
  have BT := hid (BT1.out.below hb13)
  have K3 := hid (show BoxF W3 w2.heap.size [.pointer (some ⟨b, 0, none⟩), .pointer (some ⟨b, 64, none⟩), .int .i64 0] by rw [← hW3]; exact BoxF.alloc w2 #[.pointer (some ⟨b, 0, none⟩), .pointer (some ⟨b, 64, none⟩), .int .i64 0] 67)
  have hB6 := hid (show w.heap.size < w2.heap.size by have := b2.out.size; have := R1.out.1.1; omega)
  have HW3 := hid hW3
  rw [HW3.out]
  obtain ⟨B6, hB6e⟩ : ∃ n, w2.heap.size = n := ⟨_, rfl⟩
  rw [hB6e] at K3 hB6 ⊢
  clear hW3 hb3 hb13 b2 HW3 hB6e R1 BT1 HWH HB1
  cases hok : treeOk ⟨L, root⟩ with
  | false =>
    have HR := hid (show walkI ⟨L, root⟩ key = (64, 0, 1) by unfold walkI; rw [hok]; rfl)
    rw [hok] at HOK0
    clear hok
    have K := K3
    have HB := HB3
    have R := R3
    clear K3 HB3 R3
    go_wp2_with (first | (refine wpList_load_boxg rfl 31 _ rfl b (encT L root) (by exact BT.out.1) rfl _ Try.underlying31 rfl (by rw [hl]; kernel_rfl) ?_) | (go_at_call 13; refine (HOK0.out _).mono ?_; rintro e wq ⟨rfl, bq⟩; have HB := hid (HB.out.trans (bq.mono HB.out.size)); have K := hid (K.out.below bq); have BT := hid (BT.out.below bq); have R := hid (R.out.below bq); have q0 : wq.cell? ⟨B6, 0, none⟩ = some (.pointer (some ⟨b, 0, none⟩)) := K.out.1.2 0 (by simp); have q1 : wq.cell? ⟨B6, 1, none⟩ = some (.pointer (some ⟨b, 64, none⟩)) := K.out.1.2 1 (by simp); have q2 : wq.cell? ⟨B6, 2, none⟩ = some (.int .i64 0) := K.out.1.2 2 (by simp); clear bq) | (refine wpList_store_box rfl 67 _ _ rfl w.heap.size [.pointer none, .pointer none, .int .i64 0] [.pointer (some ⟨b, 0, none⟩), .pointer (some ⟨b, 64, none⟩), .int .i64 0] (by exact R.out) rfl rfl rfl (by kernel_rfl) rfl ?_))
    intro w9 o9 C9
    have O9 := hid o9
    have HB9 := hid (below_chg HB.out C9 HB.out.size (fun b hb => by omega))
    clear o9 C9
    go_wp2
    exact bodyPost_ret (results_cq rfl _ _ w.heap.size _ rfl O9.out _ Try.underlying67 rfl (by kernel_rfl)) rfl ⟨by rw [HR.out]; rfl, HB9.out⟩
  | true =>
    obtain ⟨ps, hp, -⟩ := treeOk_part (t := ⟨L, root⟩) hc hok
    have HOK := hid hok
    rw [hok] at HOK0
    clear hok
    have K := K3
    have HB := HB3
    have R := R3
    clear K3 HB3 R3
    cases hv : isVal key with
    | false =>
      have HV := hid hv
      have HR := hid (show walkI ⟨L, root⟩ key = (64, 0, 1) by unfold walkI; rw [HOK.out, hv]; rfl)
      clear hv
      go_wp2_with (first | (refine wpList_load_boxg rfl 31 _ rfl b (encT L root) (by exact BT.out.1) rfl _ Try.underlying31 rfl (by rw [hl]; kernel_rfl) ?_) | (go_at_call 13; refine (HOK0.out _).mono ?_; rintro e wq ⟨rfl, bq⟩; have HB := hid (HB.out.trans (bq.mono HB.out.size)); have K := hid (K.out.below bq); have BT := hid (BT.out.below bq); have R := hid (R.out.below bq); have q0 : wq.cell? ⟨B6, 0, none⟩ = some (.pointer (some ⟨b, 0, none⟩)) := K.out.1.2 0 (by simp); have q1 : wq.cell? ⟨B6, 1, none⟩ = some (.pointer (some ⟨b, 64, none⟩)) := K.out.1.2 1 (by simp); have q2 : wq.cell? ⟨B6, 2, none⟩ = some (.int .i64 0) := K.out.1.2 2 (by simp); clear bq) | (go_at_call 62; refine (impl_isValueT _ _).mono ?_; rintro e w' ⟨rfl, rfl⟩; rw [HV.out]) | (refine wpList_store_box rfl 67 _ _ rfl w.heap.size [.pointer none, .pointer none, .int .i64 0] [.pointer (some ⟨b, 0, none⟩), .pointer (some ⟨b, 64, none⟩), .int .i64 0] (by exact R.out) rfl rfl rfl (by kernel_rfl) rfl ?_))
      intro w9 o9 C9
      have O9 := hid o9
      have HB9 := hid (below_chg HB.out C9 HB.out.size (fun b hb => by omega))
      clear o9 C9
      go_wp2
      exact bodyPost_ret (results_cq rfl _ _ w.heap.size _ rfl O9.out _ Try.underlying67 rfl (by kernel_rfl)) rfl ⟨by rw [HR.out]; rfl, HB9.out⟩
    | true =>
      have HV := hid hv
      have HR := hid (show walkI ⟨L, root⟩ key = walkP L key 8 64 root 0 by unfold walkI; rw [HOK.out, hv]; rfl)
      obtain ⟨⟨Rl, Rn, Rc⟩, hR⟩ : ∃ r, walkP L key 8 64 root 0 = r := ⟨_, rfl⟩
      rw [hR] at HR
      have HRR := hid hR
      have HP := hid hp
      have HLC := hid (loc_root hc root)
      clear hv hR hp hc
      go_upto_region 4 with (first | (refine wpList_load_boxg rfl 31 _ rfl b (encT L root) (by exact BT.out.1) rfl _ Try.underlying31 rfl (by rw [hl]; kernel_rfl) ?_) | (go_at_call 13; refine (HOK0.out _).mono ?_; rintro e wq ⟨rfl, bq⟩; have HB := hid (HB.out.trans (bq.mono HB.out.size)); have K := hid (K.out.below bq); have BT := hid (BT.out.below bq); have R := hid (R.out.below bq); have q0 : wq.cell? ⟨B6, 0, none⟩ = some (.pointer (some ⟨b, 0, none⟩)) := K.out.1.2 0 (by simp); have q1 : wq.cell? ⟨B6, 1, none⟩ = some (.pointer (some ⟨b, 64, none⟩)) := K.out.1.2 1 (by simp); have q2 : wq.cell? ⟨B6, 2, none⟩ = some (.int .i64 0) := K.out.1.2 2 (by simp); clear bq) | (go_at_call 62; refine (impl_isValueT _ _).mono ?_; rintro e w' ⟨rfl, rfl⟩; rw [HV.out]))
      clear q0 q1 q2
      go_loopw [7] (fun _ wr => ∃ (l n : Nat) (p : Int) (ys : List Int), n ≤ 8 ∧ Hid (LocAt L root l p) ∧ Hid (Part L p ys) ∧ Hid (walkP L key (8 - n) l p n = (Rl, Rn, Rc)) ∧ Hid (BoxF wr B6 [.pointer (some ⟨b, 0, none⟩), .pointer (some ⟨b, l, none⟩), .int .i64 n]) ∧ Hid (BoxF wr b (encT L root)) ∧ Hid (BoxF wr w.heap.size [.pointer none, .pointer none, .int .i64 0]) ∧ Hid (Below w.heap.size w wr)) (fun _ wr => match wr.cell? ⟨B6, 2, none⟩ with | some (.int _ n) => (9 - n).toNat | _ => 0)
      case atStart => exact ⟨64, 0, root, ps, by omega, HLC, HP, HRR, K, BT, R, HB⟩
      case round =>
        have hBb := HLT.out
        clear K BT R HB HLC HP HRR
        obtain ⟨l, n, p, ys, hn8, HLC, HP, HRR, K, BT, R, HB⟩ := hrel
        have HLB := hid (show b < B6 by have := hB6.out; omega)
        have q0 : wr.cell? ⟨B6, 0, none⟩ = some (.pointer (some ⟨b, 0, none⟩)) := K.out.1.2 0 (by simp)
        have q1 : wr.cell? ⟨B6, 1, none⟩ = some (.pointer (some ⟨b, l, none⟩)) := K.out.1.2 1 (by simp)
        have q2 : wr.cell? ⟨B6, 2, none⟩ = some (.int .i64 n) := K.out.1.2 2 (by simp)
        have hmz := q2
        by_cases hq : p = -1
        · subst hq
          have HE := hid (show ((l, n, 5) : Nat × Nat × Int) = (Rl, Rn, Rc) from (by cases h9 : 8 - n <;> simp [walkP] : ((l, n, 5) : Nat × Nat × Int) = walkP L key (8 - n) l (-1) n).trans HRR.out)
          obtain ⟨rfl, rfl, rfl⟩ : l = Rl ∧ n = Rn ∧ 5 = Rc := by simpa using HE.out
          have HNN := hid (impl_isNone b l (-1) wr (HLC.out wr b BT.out) BT.out.1.1)
          unfold partV at HNN
          clear HRR HE hmz
          go_wp2_with (first | (refine wpList_load_part rfl 60 _ rfl B6 [] [.pointer (some ⟨b, 0, none⟩), .pointer (some ⟨b, l, none⟩)] [_] _ (by exact K.out) rfl rfl _ Try.underlying60 rfl (by kernel_rfl) ?_) | (go_at_call 57; refine (HNN.out).mono ?_; rintro e wq ⟨rfl, bq⟩; have HB := hid (HB.out.trans (bq.mono HB.out.size)); have K := hid (K.out.below bq); have BT := hid (BT.out.below bq); have R := hid (R.out.below bq); have q0 : wq.cell? ⟨B6, 0, none⟩ = some (.pointer (some ⟨b, 0, none⟩)) := K.out.1.2 0 (by simp); have q1 : wq.cell? ⟨B6, 1, none⟩ = some (.pointer (some ⟨b, l, none⟩)) := K.out.1.2 1 (by simp); have q2 : wq.cell? ⟨B6, 2, none⟩ = some (.int .i64 n) := K.out.1.2 2 (by simp); clear bq) | (refine wpList_store_box rfl 67 _ _ rfl w.heap.size [.pointer none, .pointer none, .int .i64 0] [.pointer (some ⟨b, 0, none⟩), .pointer (some ⟨b, l, none⟩), .int .i64 n] (by exact R.out) rfl rfl rfl (by kernel_rfl) rfl ?_))
          intro w9 o9 C9
          have O9 := hid o9
          have HB9 := hid (below_chg HB.out C9 HB.out.size (fun b hb => by omega))
          clear o9 C9
          go_wp2
          exact bodyPost_ret (results_cq rfl _ _ w.heap.size _ rfl O9.out _ Try.underlying67 rfl (by kernel_rfl)) rfl ⟨by rw [HR.out]; rfl, HB9.out⟩
        · obtain ⟨xs, zs, hi, hu, h3, h4, -⟩ := HP.out.inv hq
          obtain ⟨k, rfl, hk16⟩ : ∃ k : Nat, p = (k : Int) ∧ k < 16 := by
            have := inB_nn hi
            exact ⟨p.toNat, by omega, by omega⟩
          have H3 := hid h3
          have H4 := hid h4
          have hdq : decide ((k : Int) = -1) = false := decide_eq_false hq
          have HNN := hid (impl_isNone b l k wr (HLC.out wr b BT.out) BT.out.1.1)
          unfold partV at HNN
          rw [hdq] at HNN
          by_cases h8 : n = 8
          · subst h8
            have HE := hid (show ((l, 8, 2) : Nat × Nat × Int) = (Rl, Rn, Rc) from (by simp [walkP, hq] : ((l, 8, 2) : Nat × Nat × Int) = walkP L key (8 - 8) l k 8).trans HRR.out)
            obtain ⟨rfl, rfl, rfl⟩ : l = Rl ∧ 8 = Rn ∧ 2 = Rc := by simpa using HE.out
            clear HRR HE hmz
            go_wp2_with (first | (refine wpList_load_part rfl 60 _ rfl B6 [] [.pointer (some ⟨b, 0, none⟩), .pointer (some ⟨b, l, none⟩)] [_] _ (by exact K.out) rfl rfl _ Try.underlying60 rfl (by kernel_rfl) ?_) | (go_at_call 57; refine (HNN.out).mono ?_; rintro e wq ⟨rfl, bq⟩; have HB := hid (HB.out.trans (bq.mono HB.out.size)); have K := hid (K.out.below bq); have BT := hid (BT.out.below bq); have R := hid (R.out.below bq); have q0 : wq.cell? ⟨B6, 0, none⟩ = some (.pointer (some ⟨b, 0, none⟩)) := K.out.1.2 0 (by simp); have q1 : wq.cell? ⟨B6, 1, none⟩ = some (.pointer (some ⟨b, l, none⟩)) := K.out.1.2 1 (by simp); have q2 : wq.cell? ⟨B6, 2, none⟩ = some (.int .i64 (8 : Nat)) := K.out.1.2 2 (by simp); clear bq) | (go_at_call 63; refine (impl_open8 B6 _ _ _ K.out).mono ?_; rintro e w' ⟨rfl, rfl⟩) | (refine wpList_store_box rfl 67 _ _ rfl w.heap.size [.pointer none, .pointer none, .int .i64 0] [.pointer (some ⟨b, 0, none⟩), .pointer (some ⟨b, l, none⟩), .int .i64 (8 : Nat)] (by exact R.out) rfl rfl rfl (by kernel_rfl) rfl ?_))
            intro w9 o9 C9
            have O9 := hid o9
            have HB9 := hid (below_chg HB.out C9 HB.out.size (fun b hb => by omega))
            clear o9 C9
            go_wp2
            exact bodyPost_ret (results_cq rfl _ _ w.heap.size _ rfl O9.out _ Try.underlying67 rfl (by kernel_rfl)) rfl ⟨by rw [HR.out]; rfl, HB9.out⟩
          · have hn7 : n < 8 := by omega
            have HWP := hid (show walkP L key (8 - n) l (k : Int) n = if key < (tw L (k : Int)).key_ then walkP L key (8 - (n+1)) (k * 4 + 2) (tw L (k : Int)).left_ (n+1) else if (tw L (k : Int)).key_ < key then walkP L key (8 - (n+1)) (k * 4 + 3) (tw L (k : Int)).right_ (n+1) else (l, n+1, 4) by
              rw [show 8 - n = (8 - (n+1)) + 1 by omega, walkP, if_neg hq, Int.toNat_natCast])
            rw [HRR.out] at HWP
            have HLL := hid (loc_left HC.out root k hk16)
            have HLR := hid (loc_right HC.out root k hk16)
            have HTA := hid (fun (W : World) (h : BoxF W b (encT L root)) => (tree_at h HC.out k hk16).2.1)
            obtain ⟨X, hX⟩ : ∃ X, tw L (k : Int) = X := ⟨_, rfl⟩
            rw [hX] at HWP HLL HLR HTA H3 H4
            obtain ⟨xu, xk, xl, xr⟩ := X
            dsimp only at HWP HLL HLR HTA H3 H4
            have hmz := hid hmz
            clear hX hi hu h3 h4 HRR HP
            go_upto_region 9 with (first | (refine wpList_load_part rfl 60 _ rfl B6 [] [.pointer (some ⟨b, 0, none⟩), .pointer (some ⟨b, l, none⟩)] [_] _ (by exact K.out) rfl rfl _ Try.underlying60 rfl (by kernel_rfl) ?_) | (go_at_call 57; refine (HNN.out).mono ?_; rintro e wq ⟨rfl, bq⟩; have HB := hid (HB.out.trans (bq.mono HB.out.size)); have K := hid (K.out.below bq); have BT := hid (BT.out.below bq); have R := hid (R.out.below bq); have q0 : wq.cell? ⟨B6, 0, none⟩ = some (.pointer (some ⟨b, 0, none⟩)) := K.out.1.2 0 (by simp); have q1 : wq.cell? ⟨B6, 1, none⟩ = some (.pointer (some ⟨b, l, none⟩)) := K.out.1.2 1 (by simp); have q2 : wq.cell? ⟨B6, 2, none⟩ = some (.int .i64 n) := K.out.1.2 2 (by simp); clear bq) | (go_at_call 63; refine (impl_openN B6 _ _ n hn7 _ K.out).mono ?_; rintro e wq ⟨rfl, oq, cq⟩; have HB := hid (below_chg HB.out cq HB.out.size (fun b hb => by have := hB6.out; omega)); have BT := hid (BT.out.chg cq (by have := HLB.out; omega)); have R := hid (R.out.chg cq (by have := hB6.out; omega)); have K := hid oq; have q0 : wq.cell? ⟨B6, 0, none⟩ = some (.pointer (some ⟨b, 0, none⟩)) := K.out.1.2 0 (by simp); have q1 : wq.cell? ⟨B6, 1, none⟩ = some (.pointer (some ⟨b, l, none⟩)) := K.out.1.2 1 (by simp); have q2 : wq.cell? ⟨B6, 2, none⟩ = some (.int .i64 (n + 1 : Nat)) := K.out.1.2 2 (by simp); clear oq cq) | (go_at_call 58; refine (impl_twig b l k _ (HLC.out _ b BT.out) BT.out.1.1 hk16).mono ?_; rintro e wq ⟨rfl, bq⟩; have HB := hid (HB.out.trans (bq.mono HB.out.size)); have K := hid (K.out.below bq); have BT := hid (BT.out.below bq); have R := hid (R.out.below bq); have q0 : wq.cell? ⟨B6, 0, none⟩ = some (.pointer (some ⟨b, 0, none⟩)) := K.out.1.2 0 (by simp); have q1 : wq.cell? ⟨B6, 1, none⟩ = some (.pointer (some ⟨b, l, none⟩)) := K.out.1.2 1 (by simp); have q2 : wq.cell? ⟨B6, 2, none⟩ = some (.int .i64 (n + 1 : Nat)) := K.out.1.2 2 (by simp); clear bq))
            have t1 := HTA.out _ BT.out
            by_cases hlt : key < xk
            · have HW4 := hid (HWP.out.trans (if_pos hlt)).symm
              clear HWP HTA
              go_wp2_with (first | (refine wpList_load_part rfl 60 _ rfl B6 [] [.pointer (some ⟨b, 0, none⟩), .pointer (some ⟨b, l, none⟩)] [_] _ (by exact K.out) rfl rfl _ Try.underlying60 rfl (by kernel_rfl) ?_) | (go_at_call 59; refine (show Calls _ _ _ _ _ from impl_left b l k _ (HLC.out _ b BT.out) BT.out.1.1 hk16).mono ?_; rintro e wq ⟨rfl, bq⟩; unfold partV; have HB := hid (HB.out.trans (bq.mono HB.out.size)); have K := hid (K.out.below bq); have BT := hid (BT.out.below bq); have R := hid (R.out.below bq); have q0 : wq.cell? ⟨B6, 0, none⟩ = some (.pointer (some ⟨b, 0, none⟩)) := K.out.1.2 0 (by simp); have q1 : wq.cell? ⟨B6, 1, none⟩ = some (.pointer (some ⟨b, l, none⟩)) := K.out.1.2 1 (by simp); have q2 : wq.cell? ⟨B6, 2, none⟩ = some (.int .i64 (n + 1 : Nat)) := K.out.1.2 2 (by simp); clear bq) | (refine wpList_store_part rfl 60 _ _ rfl B6 [] [.pointer (some ⟨b, 0, none⟩), .pointer (some ⟨b, l, none⟩)] [.int .i64 (n + 1 : Nat)] [.pointer (some ⟨b, 0, none⟩), .pointer (some ⟨b, k * 4 + 2, none⟩)] _ (by exact K.out) rfl rfl rfl rfl (by kernel_rfl) rfl ?_))
              intro w9 o9 C9
              have K9 := hid (show BoxF w9 B6 [.pointer (some ⟨b, 0, none⟩), .pointer (some ⟨b, k * 4 + 2, none⟩), .int .i64 (n + 1 : Nat)] from o9)
              have BT9 := hid (BT.out.chg C9 (by have := HLB.out; omega))
              have R9 := hid (R.out.chg C9 (by have := hB6.out; omega))
              have HB9 := hid (below_chg HB.out C9 HB.out.size (fun b hb => by have := hB6.out; omega))
              have m9 : w9.cell? ⟨B6, 2, none⟩ = some (.int .i64 (n + 1 : Nat)) := K9.out.1.2 2 (by simp)
              clear o9 C9
              go_wp2
              go_roundw
              case rel => exact ⟨k * 4 + 2, n + 1, xl, _, by omega, HLL, H3, HW4, K9, BT9, R9, HB9⟩
              case measure => rw [m9, hmz.out]; simp; omega
            · have HW3 := hid (HWP.out.trans (if_neg hlt))
              by_cases hgt : xk < key
              · have HW4 := hid (HW3.out.trans (if_pos hgt)).symm
                clear HWP HTA HW3
                go_wp2_with (first | (refine wpList_load_part rfl 60 _ rfl B6 [] [.pointer (some ⟨b, 0, none⟩), .pointer (some ⟨b, l, none⟩)] [_] _ (by exact K.out) rfl rfl _ Try.underlying60 rfl (by kernel_rfl) ?_) | (go_at_call 60; refine (show Calls _ _ _ _ _ from impl_right b l k _ (HLC.out _ b BT.out) BT.out.1.1 hk16).mono ?_; rintro e wq ⟨rfl, bq⟩; unfold partV; have HB := hid (HB.out.trans (bq.mono HB.out.size)); have K := hid (K.out.below bq); have BT := hid (BT.out.below bq); have R := hid (R.out.below bq); have q0 : wq.cell? ⟨B6, 0, none⟩ = some (.pointer (some ⟨b, 0, none⟩)) := K.out.1.2 0 (by simp); have q1 : wq.cell? ⟨B6, 1, none⟩ = some (.pointer (some ⟨b, l, none⟩)) := K.out.1.2 1 (by simp); have q2 : wq.cell? ⟨B6, 2, none⟩ = some (.int .i64 (n + 1 : Nat)) := K.out.1.2 2 (by simp); clear bq) | (refine wpList_store_part rfl 60 _ _ rfl B6 [] [.pointer (some ⟨b, 0, none⟩), .pointer (some ⟨b, l, none⟩)] [.int .i64 (n + 1 : Nat)] [.pointer (some ⟨b, 0, none⟩), .pointer (some ⟨b, k * 4 + 3, none⟩)] _ (by exact K.out) rfl rfl rfl rfl (by kernel_rfl) rfl ?_))
                intro w9 o9 C9
                have K9 := hid (show BoxF w9 B6 [.pointer (some ⟨b, 0, none⟩), .pointer (some ⟨b, k * 4 + 3, none⟩), .int .i64 (n + 1 : Nat)] from o9)
                have BT9 := hid (BT.out.chg C9 (by have := HLB.out; omega))
                have R9 := hid (R.out.chg C9 (by have := hB6.out; omega))
                have HB9 := hid (below_chg HB.out C9 HB.out.size (fun b hb => by have := hB6.out; omega))
                have m9 : w9.cell? ⟨B6, 2, none⟩ = some (.int .i64 (n + 1 : Nat)) := K9.out.1.2 2 (by simp)
                clear o9 C9
                go_wp2
                go_roundw
                case rel => exact ⟨k * 4 + 3, n + 1, xr, _, by omega, HLR, H4, HW4, K9, BT9, R9, HB9⟩
                case measure => rw [m9, hmz.out]; simp; omega
              · have HE := hid (HW3.out.trans (if_neg hgt))
                obtain ⟨rfl, rfl, rfl⟩ : Rl = l ∧ Rn = n + 1 ∧ Rc = 4 := by simpa using HE.out
                clear HWP HTA HW3 HE hmz
                go_wp2_with (refine wpList_store_box rfl 67 _ _ rfl w.heap.size [.pointer none, .pointer none, .int .i64 0] [.pointer (some ⟨b, 0, none⟩), .pointer (some ⟨b, Rl, none⟩), .int .i64 (n + 1 : Nat)] (by exact R.out) rfl rfl rfl (by kernel_rfl) rfl ?_)
                intro w9 o9 C9
                have O9 := hid o9
                have HB9 := hid (below_chg HB.out C9 HB.out.size (fun b hb => by omega))
                clear o9 C9
                go_wp2
                exact bodyPost_ret (results_cq rfl _ _ w.heap.size _ rfl O9.out _ Try.underlying67 rfl (by kernel_rfl)) rfl ⟨by rw [HR.out]; rfl, HB9.out⟩
end Go.Proofs.Ytcjeafhejkppeaa
