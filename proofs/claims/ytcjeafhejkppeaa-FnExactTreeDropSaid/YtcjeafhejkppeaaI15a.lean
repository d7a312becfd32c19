/- Chapter 15's program: hang, unused, TreeAdd. (printed by tools/mk_i15a.py) -/
import Derived.Test.YtcjeafhejkppeaaI15f
import Derived.Test.YtcjeafhejkppeaaF15a
namespace Go.Proofs.Ytcjeafhejkppeaa
set_option maxRecDepth 100000
open Go.RowKit Go.Proofs Go.Own
open Go Go.BigFrame
set_option linter.unusedVariables false
set_option linter.unusedSimpArgs false
set_option maxHeartbeats 4000000 in
/-- A place hung at the link of a part, whose block may be written. -/
theorem impl_hang0 (L : List Twig) (hL : L.length = 16) (root : Int) (b l : Nat) (hlk : LinkC l) (v : Int) (w : World) (h : BoxF w b (encT L root)) :
    Calls Try.prog 45 #[partV b l, .int .i64 v] w fun e w' => e = .returned (.tuple #[]) ∧ BoxF w' b (hangT ⟨L, root⟩ l v).enc ∧ ChgS (fun k => k = b) w w' := by
  have hl : (encT L root).length = 65 := tree_len (c := ⟨L, root⟩) hL
  have hlt := hlk.lt
  obtain ⟨W1, hW1⟩ : ∃ X, w.alloc (.cells #[.pointer (some ⟨b, 0, none⟩), .pointer (some ⟨b, l, none⟩)] 60) = X := ⟨_, rfl⟩
  have hB1 : Below w.heap.size w W1 := by rw [← hW1]; exact (Below.refl _ _).alloc (Nat.le_refl _) _
  have K := hid (show BoxF W1 w.heap.size [.pointer (some ⟨b, 0, none⟩), .pointer (some ⟨b, l, none⟩)] by rw [← hW1]; exact BoxF.alloc w #[.pointer (some ⟨b, 0, none⟩), .pointer (some ⟨b, l, none⟩)] 60)
  have BX := hid (h.below hB1)
  have HG := hid (ChgS.of_below hB1 (fun k => k = b))
  have d0 : W1.cell? ⟨w.heap.size, 0, none⟩ = some (.pointer (some ⟨b, 0, none⟩)) := K.out.1.2 0 (by simp)
  have d1 : W1.cell? ⟨w.heap.size, 1, none⟩ = some (.pointer (some ⟨b, l, none⟩)) := K.out.1.2 1 (by simp)
  have HW1 := hid hW1
  have HEQ := hid (show (encT L root).set l (.int .i64 v) = (hangT ⟨L, root⟩ l v).enc from enc_hang L hL root l hlk v)
  clear hW1 hB1 h
  unfold partV
  go_enter Try.func45, Try.ntmps45
  go_upto_region 1 with fail
  rw [HW1.out]
  go_wp2_with (refine wpList_store_cell rfl 3 _ _ rfl b l (encT L root) (.int .i64 v) (by exact BX.out) rfl rfl (by rw [hl]; omega) (by kernel_rfl) rfl rfl ?_)
  intro w5 o5 C5
  have O5 := hid (show BoxF w5 b (hangT ⟨L, root⟩ l v).enc by rw [← HEQ.out]; exact o5)
  have HG5 := hid (HG.out.trans C5)
  clear o5 C5
  go_wp2
  refine bodyPost_end (results_none rfl _ _ _) rfl ⟨rfl, O5.out, HG5.out⟩
set_option maxHeartbeats 4000000 in
theorem impl_unused0 (L : List Twig) (hL : L.length = 16) (root : Int) (b : Nat) (w : World) (h : BoxF w b (encT L root)) :
    Calls Try.prog 44 #[.pointer (some ⟨b, 0, none⟩)] w fun e w' => e = .returned (.int .i64 (freeT L)) ∧ Below w.heap.size w w' := by
  have hln : (L.flatMap Twig.enc).length = 64 := by rw [twigs_len, hL]
  have HL := hid hL
  have BX := hid h
  clear h
  go_enter Try.func44, Try.ntmps44
  go_wp2_with (refine wpList_load_part rfl 29 _ rfl b [] (L.flatMap Twig.enc) [.int .i64 root] (encT L root) (by exact BX.out) rfl rfl _ Try.underlying29 rfl (by rw [hln]; kernel_rfl) ?_)
  go_loopw [9] (fun i wr => ∃ k : Nat, k ≤ 16 ∧ i = .int .i64 k ∧ Hid (freeFromT (L.drop k) k = freeT L) ∧ Below w.heap.size w wr) (fun i _ => 16 - (intOf i).toNat)
  case atStart => exact ⟨0, by omega, rfl, hid rfl, Below.refl _ _⟩
  case round =>
    obtain ⟨k, hk, rfl, HF, hB⟩ := hrel
    have HBr := hid hB
    clear hB
    by_cases hlt : k < 16
    · have hkL : k < L.length := by rw [HL.out]; exact hlt
      have hix := index_T L HL.out k hkL
      have hk0 : (0 : Int) ≤ (k : Int) := by omega
      have hk16 : (k : Int) < 16 := by omega
      have hfd := freeFromT_drop L k hkL
      rw [HF.out] at hfd
      obtain ⟨X, hX⟩ : ∃ X, L[k] = X := ⟨_, rfl⟩
      rw [hX] at hix hfd
      clear hX
      obtain ⟨xu, xk, xl, xr⟩ := X
      dsimp only at hix hfd
      have HBX := hid (HBr.out.alloc (o := .cells #[.bool xu, .int .i64 xk, .int .i64 xl, .int .i64 xr] 28) HBr.out.size)
      cases xu with
      | true =>
        rw [if_pos rfl] at hfd
        have HFN := hid hfd.symm
        clear hfd HF
        go_wp2_with (refine wpList_indexA rfl 29 _ _ rfl _ _ _ rfl rfl hix ?_)
        go_roundw
        case rel => exact ⟨k+1, by omega, by go_num, HFN, HBX.out⟩
        case measure => simp [intOf]; omega
      | false =>
        rw [if_neg Bool.false_ne_true] at hfd
        have HFN := hid hfd
        clear hfd HF
        go_wp2_with (refine wpList_indexA rfl 29 _ _ rfl _ _ _ rfl rfl hix ?_)
        go_ret
        exact ⟨by rw [HFN.out]; rfl, HBX.out⟩
    · obtain rfl : k = 16 := by omega
      have HFN := hid (show freeT L = -1 by rw [← HF.out, List.drop_of_length_le (by rw [HL.out]; exact Nat.le_refl _)]; rfl)
      clear HF
      go_wp2
      go_ret
      exact ⟨by rw [HFN.out]; rfl, HBr.out⟩
set_option maxHeartbeats 8000000 in
theorem impl_TreeAdd0 (c : TreeD) (hc : c.twigs_.length = 16) (key : Int) (w : World) :
    Calls Try.prog 20 #[.agg c.enc.toArray, .int .i64 key] w fun e w' => e = .returned (.tuple #[.agg (addC c key).1.enc.toArray, .int .i64 (addC c key).2]) ∧ Below w.heap.size w w' := by
  obtain ⟨L, root⟩ := c
  dsimp only at hc
  change Calls Try.prog 20 #[.agg (encT L root).toArray, .int .i64 key] w _
  have hl : (encT L root).length = 65 := tree_len (c := ⟨L, root⟩) hc
  have hone : (encT L root).all (·.oneCell') = true := tree_one ⟨L, root⟩
  have hl2 : (encT L root).toArray.size = 65 := by rw [List.size_toArray, hl]
  have HC := hid hc
  obtain ⟨W1, hW1⟩ : ∃ X, (w.alloc (.cells (encT L root).toArray 31)).alloc (.cells #[.bool false, .int .i64 0, .int .i64 0, .int .i64 0, .bool false, .int .i64 0, .int .i64 0, .int .i64 0, .bool false, .int .i64 0, .int .i64 0, .int .i64 0, .bool false, .int .i64 0, .int .i64 0, .int .i64 0, .bool false, .int .i64 0, .int .i64 0, .int .i64 0, .bool false, .int .i64 0, .int .i64 0, .int .i64 0, .bool false, .int .i64 0, .int .i64 0, .int .i64 0, .bool false, .int .i64 0, .int .i64 0, .int .i64 0, .bool false, .int .i64 0, .int .i64 0, .int .i64 0, .bool false, .int .i64 0, .int .i64 0, .int .i64 0, .bool false, .int .i64 0, .int .i64 0, .int .i64 0, .bool false, .int .i64 0, .int .i64 0, .int .i64 0, .bool false, .int .i64 0, .int .i64 0, .int .i64 0, .bool false, .int .i64 0, .int .i64 0, .int .i64 0, .bool false, .int .i64 0, .int .i64 0, .int .i64 0, .bool false, .int .i64 0, .int .i64 0, .int .i64 0, .int .i64 0] 31) = X := ⟨_, rfl⟩
  have HB := hid (show Below w.heap.size w W1 by rw [← hW1]; exact ((Below.refl _ _).alloc (Nat.le_refl _) _).alloc (by simp) _)
  have BX := hid (show BoxF W1 w.heap.size (encT L root) by rw [← hW1]; exact (BoxF.alloc w (encT L root).toArray 31).below ((Below.refl _ _).alloc (Nat.le_refl _) _))
  have RB := hid (show BoxF W1 (w.heap.size + 1) [.bool false, .int .i64 0, .int .i64 0, .int .i64 0, .bool false, .int .i64 0, .int .i64 0, .int .i64 0, .bool false, .int .i64 0, .int .i64 0, .int .i64 0, .bool false, .int .i64 0, .int .i64 0, .int .i64 0, .bool false, .int .i64 0, .int .i64 0, .int .i64 0, .bool false, .int .i64 0, .int .i64 0, .int .i64 0, .bool false, .int .i64 0, .int .i64 0, .int .i64 0, .bool false, .int .i64 0, .int .i64 0, .int .i64 0, .bool false, .int .i64 0, .int .i64 0, .int .i64 0, .bool false, .int .i64 0, .int .i64 0, .int .i64 0, .bool false, .int .i64 0, .int .i64 0, .int .i64 0, .bool false, .int .i64 0, .int .i64 0, .int .i64 0, .bool false, .int .i64 0, .int .i64 0, .int .i64 0, .bool false, .int .i64 0, .int .i64 0, .int .i64 0, .bool false, .int .i64 0, .int .i64 0, .int .i64 0, .bool false, .int .i64 0, .int .i64 0, .int .i64 0, .int .i64 0] by
    rw [← hW1]
    have z := BoxF.alloc (w.alloc (.cells (encT L root).toArray 31)) #[.bool false, .int .i64 0, .int .i64 0, .int .i64 0, .bool false, .int .i64 0, .int .i64 0, .int .i64 0, .bool false, .int .i64 0, .int .i64 0, .int .i64 0, .bool false, .int .i64 0, .int .i64 0, .int .i64 0, .bool false, .int .i64 0, .int .i64 0, .int .i64 0, .bool false, .int .i64 0, .int .i64 0, .int .i64 0, .bool false, .int .i64 0, .int .i64 0, .int .i64 0, .bool false, .int .i64 0, .int .i64 0, .int .i64 0, .bool false, .int .i64 0, .int .i64 0, .int .i64 0, .bool false, .int .i64 0, .int .i64 0, .int .i64 0, .bool false, .int .i64 0, .int .i64 0, .int .i64 0, .bool false, .int .i64 0, .int .i64 0, .int .i64 0, .bool false, .int .i64 0, .int .i64 0, .int .i64 0, .bool false, .int .i64 0, .int .i64 0, .int .i64 0, .bool false, .int .i64 0, .int .i64 0, .int .i64 0, .bool false, .int .i64 0, .int .i64 0, .int .i64 0, .int .i64 0] 31
    rw [show (w.alloc (.cells (encT L root).toArray 31)).heap.size = w.heap.size + 1 by simp] at z
    exact z)
  have hz : ∀ w : World, (zeroValue 31).run Try.prog w = .ok (.agg #[.bool false, .int .i64 0, .int .i64 0, .int .i64 0, .bool false, .int .i64 0, .int .i64 0, .int .i64 0, .bool false, .int .i64 0, .int .i64 0, .int .i64 0, .bool false, .int .i64 0, .int .i64 0, .int .i64 0, .bool false, .int .i64 0, .int .i64 0, .int .i64 0, .bool false, .int .i64 0, .int .i64 0, .int .i64 0, .bool false, .int .i64 0, .int .i64 0, .int .i64 0, .bool false, .int .i64 0, .int .i64 0, .int .i64 0, .bool false, .int .i64 0, .int .i64 0, .int .i64 0, .bool false, .int .i64 0, .int .i64 0, .int .i64 0, .bool false, .int .i64 0, .int .i64 0, .int .i64 0, .bool false, .int .i64 0, .int .i64 0, .int .i64 0, .bool false, .int .i64 0, .int .i64 0, .int .i64 0, .bool false, .int .i64 0, .int .i64 0, .int .i64 0, .bool false, .int .i64 0, .int .i64 0, .int .i64 0, .bool false, .int .i64 0, .int .i64 0, .int .i64 0, .int .i64 0]) w := fun w => zero_run w (by kernel_rfl)
  have HW1 := hid hW1
  clear hW1
  have HWK := hid (impl_walkTo0 ⟨L, root⟩ hc key w.heap.size W1 BX.out)
  have HWE := hid (walkI_eq ⟨L, root⟩ key)
  obtain ⟨⟨l, n, r⟩, hR⟩ : ∃ r, walkI ⟨L, root⟩ key = r := ⟨_, rfl⟩
  rw [hR] at HWK HWE
  dsimp only at HWK HWE
  clear hR
  have HFI := hid (fun (W : World) (h : BoxF W w.heap.size (encT L root)) => impl_unused0 L hc root w.heap.size W h)
  by_cases hr5 : r = 5
  · subst hr5
    have hboth : (treeOk ⟨L, root⟩ && isVal key) = true := by
      cases h9 : (treeOk ⟨L, root⟩ && isVal key) with
      | true => rfl
      | false => have z := HWE.out; rw [h9, if_neg (by simp)] at z; simp at z
    have z := HWE.out
    rw [if_pos hboth] at z
    have hco : codeW (wayC ⟨L, root⟩ key) = 5 := by have := congrArg (fun x => x.2.2) z; exact this.symm
    have hnf : (wayC ⟨L, root⟩ key).2.1 = false := by
      cases h9 : (wayC ⟨L, root⟩ key).2.1 with
      | false => rfl
      | true => unfold codeW at hco; rw [h9] at hco; split at hco <;> simp at hco
    have hl5 : l = linkOf L key (wayC ⟨L, root⟩ key).1 := by have := congrArg (fun x => x.1) z; rw [hnf] at this; simpa using this
    have hpk : treeOk ⟨L, root⟩ = true := by simp at hboth; exact hboth.1
    obtain ⟨ps, hp, -⟩ := treeOk_part (t := ⟨L, root⟩) hc hpk
    have HWI := wayT_in L key 8 root [] ps hp (by simp)
    have HLC := hid (show LinkC l by rw [hl5]; exact linkOf_C fun q hq => (HWI q hq).1)
    have HF1 := hid (show addC ⟨L, root⟩ key = if freeT L = -1 then ((⟨L, root⟩ : TreeD), (3 : Int)) else (hangT ⟨L.set (freeT L).toNat ⟨true, key, -1, -1⟩, root⟩ l (freeT L), 0) by
      unfold addC; rw [if_pos hboth, if_pos hco, ← hl5])
    clear hboth z hco hnf hl5 hpk hp HWI HWE
    rcases freeT_in hc with hfr | ⟨k, hfr, hk16, hku⟩
    · have HF := hid (HF1.out.trans (if_pos hfr))
      rw [hfr] at HFI
      clear hfr HF1
      go_enter Try.func20, Try.ntmps20
      go_upto_region 1 with fail
      rw [HW1.out]
      go_upto_region 2 with (go_at_call 42; refine HWK.out.mono ?_; rintro e wq ⟨rfl, bq⟩; have HB := hid (HB.out.trans (bq.mono HB.out.size)); have BX := hid (BX.out.below bq); have RB := hid (RB.out.below bq); clear bq)
      obtain ⟨W3, hW3⟩ : ∃ X, wq.alloc (.cells #[.pointer (some ⟨w.heap.size, 0, none⟩), .pointer (some ⟨w.heap.size, l, none⟩), .int .i64 (n : Int)] 67) = X := ⟨_, rfl⟩
      have hb3 : Below wq.heap.size wq W3 := by rw [← hW3]; exact (Below.refl _ _).alloc (Nat.le_refl _) _
      have K := hid (show BoxF W3 wq.heap.size [.pointer (some ⟨w.heap.size, 0, none⟩), .pointer (some ⟨w.heap.size, l, none⟩), .int .i64 (n : Int)] by rw [← hW3]; exact BoxF.alloc wq #[.pointer (some ⟨w.heap.size, 0, none⟩), .pointer (some ⟨w.heap.size, l, none⟩), .int .i64 (n : Int)] 67)
      have HN6 := hid (show w.heap.size + 1 < wq.heap.size from RB.out.1.1)
      have HB := hid (HB.out.trans (hb3.mono HB.out.size))
      have BX := hid (BX.out.below hb3)
      have RB := hid (RB.out.below hb3)
      obtain ⟨B6, hB6e⟩ : ∃ n, wq.heap.size = n := ⟨_, rfl⟩
      have HW3 := hid hW3
      rw [HW3.out]
      rw [hB6e] at K HN6 ⊢
      clear hW3 hb3 hB6e HW3
      go_wp2_with (first | (refine wpList_load_boxg rfl 31 _ rfl w.heap.size (encT L root) (by exact BX.out.1) rfl _ Try.underlying31 rfl (by rw [hl]; kernel_rfl) ?_) | (go_at_call 44; refine (HFI.out _ BX.out).mono ?_; rintro e wq ⟨rfl, bq⟩; have HB := hid (HB.out.trans (bq.mono HB.out.size)); have BX := hid (BX.out.below bq); have RB := hid (RB.out.below bq); clear bq) | (refine wpList_store_box rfl 31 _ _ rfl (w.heap.size + 1) [.bool false, .int .i64 0, .int .i64 0, .int .i64 0, .bool false, .int .i64 0, .int .i64 0, .int .i64 0, .bool false, .int .i64 0, .int .i64 0, .int .i64 0, .bool false, .int .i64 0, .int .i64 0, .int .i64 0, .bool false, .int .i64 0, .int .i64 0, .int .i64 0, .bool false, .int .i64 0, .int .i64 0, .int .i64 0, .bool false, .int .i64 0, .int .i64 0, .int .i64 0, .bool false, .int .i64 0, .int .i64 0, .int .i64 0, .bool false, .int .i64 0, .int .i64 0, .int .i64 0, .bool false, .int .i64 0, .int .i64 0, .int .i64 0, .bool false, .int .i64 0, .int .i64 0, .int .i64 0, .bool false, .int .i64 0, .int .i64 0, .int .i64 0, .bool false, .int .i64 0, .int .i64 0, .int .i64 0, .bool false, .int .i64 0, .int .i64 0, .int .i64 0, .bool false, .int .i64 0, .int .i64 0, .int .i64 0, .bool false, .int .i64 0, .int .i64 0, .int .i64 0, .int .i64 0] (encT L root) (by exact RB.out) rfl rfl (by rw [hl]; rfl) (by rw [hl]; kernel_rfl) hone ?_))
      intro w9 o9 C9
      have O9 := hid o9
      have HB9 := hid (below_chg HB.out C9 HB.out.size (fun b hb => by omega))
      clear o9 C9
      go_wp2
      exact bodyPost_ret (results_cq rfl _ _ (w.heap.size + 1) (encT L root) rfl O9.out _ Try.underlying31 rfl (by rw [hl]; kernel_rfl)) rfl ⟨by rw [HF.out]; rfl, HB9.out⟩
    · have HF := hid (HF1.out.trans (if_neg (by rw [hfr]; omega)))
      rw [hfr, Int.toNat_natCast] at HF
      rw [hfr] at HFI
      have hk0 : (0 : Int) ≤ (k : Int) := by omega
      have hki : (k : Int) < 16 := by omega
      have hk1 : ¬ (k : Int) = -1 := by omega
      have HLS := hid (set_len16 hc k ⟨true, key, -1, -1⟩)
      have HkL := hid (show k < L.length by rw [hc]; exact hk16)
      have HHG := hid (fun (W : World) (h : BoxF W w.heap.size (encT (L.set k ⟨true, key, -1, -1⟩) root)) => impl_hang0 (L.set k ⟨true, key, -1, -1⟩) HLS.out root w.heap.size l HLC.out k W h)
      have hlv0 : (hangT ⟨L.set k ⟨true, key, -1, -1⟩, root⟩ l k).enc.length = 65 := tree_len (hangT_len (t := ⟨L.set k ⟨true, key, -1, -1⟩, root⟩) HLS.out _ _)
      have honev0 := tree_one (hangT ⟨L.set k ⟨true, key, -1, -1⟩, root⟩ l k)
      have HFE := hid (show (addC ⟨L, root⟩ key).1.enc = (hangT ⟨L.set k ⟨true, key, -1, -1⟩, root⟩ l k).enc by rw [HF.out])
      have HFC := hid (show (addC ⟨L, root⟩ key).2 = 0 by rw [HF.out])
      obtain ⟨vv, hvv⟩ : ∃ x, (hangT ⟨L.set k ⟨true, key, -1, -1⟩, root⟩ l k).enc = x := ⟨_, rfl⟩
      rw [hvv] at HHG HFE hlv0 honev0
      unfold partV at HHG
      clear hvv hfr HF1 HF hku
      go_enter Try.func20, Try.ntmps20
      go_upto_region 1 with fail
      rw [HW1.out]
      go_upto_region 2 with (go_at_call 42; refine HWK.out.mono ?_; rintro e wq ⟨rfl, bq⟩; have HB := hid (HB.out.trans (bq.mono HB.out.size)); have BX := hid (BX.out.below bq); have RB := hid (RB.out.below bq); clear bq)
      obtain ⟨W3, hW3⟩ : ∃ X, wq.alloc (.cells #[.pointer (some ⟨w.heap.size, 0, none⟩), .pointer (some ⟨w.heap.size, l, none⟩), .int .i64 (n : Int)] 67) = X := ⟨_, rfl⟩
      have hb3 : Below wq.heap.size wq W3 := by rw [← hW3]; exact (Below.refl _ _).alloc (Nat.le_refl _) _
      have K := hid (show BoxF W3 wq.heap.size [.pointer (some ⟨w.heap.size, 0, none⟩), .pointer (some ⟨w.heap.size, l, none⟩), .int .i64 (n : Int)] by rw [← hW3]; exact BoxF.alloc wq #[.pointer (some ⟨w.heap.size, 0, none⟩), .pointer (some ⟨w.heap.size, l, none⟩), .int .i64 (n : Int)] 67)
      have HN6 := hid (show w.heap.size + 1 < wq.heap.size from RB.out.1.1)
      have HB := hid (HB.out.trans (hb3.mono HB.out.size))
      have BX := hid (BX.out.below hb3)
      have RB := hid (RB.out.below hb3)
      obtain ⟨B6, hB6e⟩ : ∃ n, wq.heap.size = n := ⟨_, rfl⟩
      have HW3 := hid hW3
      rw [HW3.out]
      rw [hB6e] at K HN6 ⊢
      clear hW3 hb3 hB6e HW3
      go_wp2_with (first | (go_at_call 44; refine (HFI.out _ BX.out).mono ?_; rintro e wq ⟨rfl, bq⟩; have HB := hid (HB.out.trans (bq.mono HB.out.size)); have BX := hid (BX.out.below bq); have RB := hid (RB.out.below bq); have K := hid (K.out.below bq); clear bq) | (refine wpList_store_el Twig.enc 4 (fun _ => rfl) rfl 28 _ _ rfl w.heap.size (k * 4) [] [.int .i64 root] L k ⟨true, key, -1, -1⟩ (by exact BX.out) HkL.out (by simp) rfl rfl (by kernel_rfl) rfl ?_))
      intro w5 o5 C5
      have BX5 := hid (show BoxF w5 w.heap.size (encT (L.set k ⟨true, key, -1, -1⟩) root) from o5)
      have RB5 := hid (RB.out.chg C5 (by omega))
      have K5 := hid (K.out.chg C5 (by have := HN6.out; omega))
      have HB5 := hid (below_chg HB.out C5 HB.out.size (fun b hb => by omega))
      clear o5 C5 BX RB HB K
      have q0 : w5.cell? ⟨B6, 0, none⟩ = some (.pointer (some ⟨w.heap.size, 0, none⟩)) := K5.out.1.2 0 (by simp)
      have q1 : w5.cell? ⟨B6, 1, none⟩ = some (.pointer (some ⟨w.heap.size, l, none⟩)) := K5.out.1.2 1 (by simp)
      go_wp2_with (first | (go_at_call 45; refine (HHG.out _ BX5.out).mono ?_; rintro e wq ⟨rfl, BX6, C6⟩; have BX := hid BX6; have RB := hid (RB5.out.chg C6 (by omega)); have HB := hid (below_chg HB5.out C6 HB5.out.size (fun b hb => by omega)); clear BX6 C6) | (refine wpList_load_boxg rfl 31 _ rfl w.heap.size vv (by exact BX.out.1) rfl _ Try.underlying31 rfl (by rw [hlv0]; kernel_rfl) ?_) | (refine wpList_store_box rfl 31 _ _ rfl (w.heap.size + 1) [.bool false, .int .i64 0, .int .i64 0, .int .i64 0, .bool false, .int .i64 0, .int .i64 0, .int .i64 0, .bool false, .int .i64 0, .int .i64 0, .int .i64 0, .bool false, .int .i64 0, .int .i64 0, .int .i64 0, .bool false, .int .i64 0, .int .i64 0, .int .i64 0, .bool false, .int .i64 0, .int .i64 0, .int .i64 0, .bool false, .int .i64 0, .int .i64 0, .int .i64 0, .bool false, .int .i64 0, .int .i64 0, .int .i64 0, .bool false, .int .i64 0, .int .i64 0, .int .i64 0, .bool false, .int .i64 0, .int .i64 0, .int .i64 0, .bool false, .int .i64 0, .int .i64 0, .int .i64 0, .bool false, .int .i64 0, .int .i64 0, .int .i64 0, .bool false, .int .i64 0, .int .i64 0, .int .i64 0, .bool false, .int .i64 0, .int .i64 0, .int .i64 0, .bool false, .int .i64 0, .int .i64 0, .int .i64 0, .bool false, .int .i64 0, .int .i64 0, .int .i64 0, .int .i64 0] vv (by exact RB.out) rfl rfl (by rw [hlv0]; rfl) (by rw [hlv0]; kernel_rfl) honev0 ?_))
      intro w9 o9 C9
      have O9 := hid o9
      have HB9 := hid (below_chg HB.out C9 HB.out.size (fun b hb => by omega))
      clear o9 C9
      go_wp2
      exact bodyPost_ret (results_cq rfl _ _ (w.heap.size + 1) vv rfl O9.out _ Try.underlying31 rfl (by rw [hlv0]; kernel_rfl)) rfl ⟨by rw [HFE.out, HFC.out]; rfl, HB9.out⟩
  · have HF := hid (show addC ⟨L, root⟩ key = (⟨L, root⟩, r) by
      have z := HWE.out
      unfold addC
      split
      · rename_i h9
        rw [if_pos h9] at z
        have hco : r = codeW (wayC ⟨L, root⟩ key) := congrArg (fun x => x.2.2) z
        rw [if_neg (by rw [← hco]; exact hr5), hco]
      · rename_i h9
        rw [if_neg h9] at z
        have hco : r = 1 := congrArg (fun x => x.2.2) z
        rw [hco])
    clear HWE
    go_enter Try.func20, Try.ntmps20
    go_upto_region 1 with fail
    rw [HW1.out]
    go_upto_region 2 with (go_at_call 42; refine HWK.out.mono ?_; rintro e wq ⟨rfl, bq⟩; have HB := hid (HB.out.trans (bq.mono HB.out.size)); have BX := hid (BX.out.below bq); have RB := hid (RB.out.below bq); clear bq)
    obtain ⟨W3, hW3⟩ : ∃ X, wq.alloc (.cells #[.pointer (some ⟨w.heap.size, 0, none⟩), .pointer (some ⟨w.heap.size, l, none⟩), .int .i64 (n : Int)] 67) = X := ⟨_, rfl⟩
    have hb3 : Below wq.heap.size wq W3 := by rw [← hW3]; exact (Below.refl _ _).alloc (Nat.le_refl _) _
    have K := hid (show BoxF W3 wq.heap.size [.pointer (some ⟨w.heap.size, 0, none⟩), .pointer (some ⟨w.heap.size, l, none⟩), .int .i64 (n : Int)] by rw [← hW3]; exact BoxF.alloc wq #[.pointer (some ⟨w.heap.size, 0, none⟩), .pointer (some ⟨w.heap.size, l, none⟩), .int .i64 (n : Int)] 67)
    have HN6 := hid (show w.heap.size + 1 < wq.heap.size from RB.out.1.1)
    have HB := hid (HB.out.trans (hb3.mono HB.out.size))
    have BX := hid (BX.out.below hb3)
    have RB := hid (RB.out.below hb3)
    obtain ⟨B6, hB6e⟩ : ∃ n, wq.heap.size = n := ⟨_, rfl⟩
    have HW3 := hid hW3
    rw [HW3.out]
    rw [hB6e] at K HN6 ⊢
    clear hW3 hb3 hB6e HW3
    go_wp2_with (first | (refine wpList_load_boxg rfl 31 _ rfl w.heap.size (encT L root) (by exact BX.out.1) rfl _ Try.underlying31 rfl (by rw [hl]; kernel_rfl) ?_) | (refine wpList_store_box rfl 31 _ _ rfl (w.heap.size + 1) [.bool false, .int .i64 0, .int .i64 0, .int .i64 0, .bool false, .int .i64 0, .int .i64 0, .int .i64 0, .bool false, .int .i64 0, .int .i64 0, .int .i64 0, .bool false, .int .i64 0, .int .i64 0, .int .i64 0, .bool false, .int .i64 0, .int .i64 0, .int .i64 0, .bool false, .int .i64 0, .int .i64 0, .int .i64 0, .bool false, .int .i64 0, .int .i64 0, .int .i64 0, .bool false, .int .i64 0, .int .i64 0, .int .i64 0, .bool false, .int .i64 0, .int .i64 0, .int .i64 0, .bool false, .int .i64 0, .int .i64 0, .int .i64 0, .bool false, .int .i64 0, .int .i64 0, .int .i64 0, .bool false, .int .i64 0, .int .i64 0, .int .i64 0, .bool false, .int .i64 0, .int .i64 0, .int .i64 0, .bool false, .int .i64 0, .int .i64 0, .int .i64 0, .bool false, .int .i64 0, .int .i64 0, .int .i64 0, .bool false, .int .i64 0, .int .i64 0, .int .i64 0, .int .i64 0] (encT L root) (by exact RB.out) rfl rfl (by rw [hl]; rfl) (by rw [hl]; kernel_rfl) hone ?_))
    intro w9 o9 C9
    have O9 := hid o9
    have HB9 := hid (below_chg HB.out C9 HB.out.size (fun b hb => by omega))
    clear o9 C9
    go_wp2
    exact bodyPost_ret (results_cq rfl _ _ (w.heap.size + 1) (encT L root) rfl O9.out _ Try.underlying31 rfl (by rw [hl]; kernel_rfl)) rfl ⟨by rw [HF.out]; rfl, HB9.out⟩
end Go.Proofs.Ytcjeafhejkppeaa
