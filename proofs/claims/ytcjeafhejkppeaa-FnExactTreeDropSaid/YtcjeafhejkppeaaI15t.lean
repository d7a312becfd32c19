/- Chapter 15's program: TreeDrop. (printed by tools/mk_i15d.py) -/
import Derived.Test.YtcjeafhejkppeaaI15d
namespace Go.Proofs.Ytcjeafhejkppeaa
set_option maxRecDepth 100000
open Go.RowKit Go.Proofs Go.Own
open Go Go.BigFrame
set_option linter.unusedVariables false
set_option linter.unusedSimpArgs false
theorem dropAt_code (t : TreeD) (l : Nat) (p : Int) (n : Nat) : (dropAt t l p n).2 = 0 ∨ (dropAt t l p n).2 = 2 := by
  unfold dropAt dropLeast
  repeat' split
  all_goals simp
theorem dropAt_len (t : TreeD) (hL : t.twigs_.length = 16) (l : Nat) (p : Int) (n : Nat) : (dropAt t l p n).1.twigs_.length = 16 := by
  unfold dropAt dropLeast
  repeat' split
  all_goals first | exact hL | exact hangT_len (by simp [hL]) _ _
set_option maxHeartbeats 8000000 in
theorem impl_TreeDrop0 (c : TreeD) (hc : c.twigs_.length = 16) (key : Int) (w : World) :
    Calls Try.prog 22 #[.agg c.enc.toArray, .int .i64 key] w fun e w' => e = .returned (.tuple #[.agg (dropC c key).1.enc.toArray, .int .i64 (dropC c key).2]) ∧ Below w.heap.size w w' := by
  obtain ⟨L, root⟩ := c
  dsimp only at hc
  change Calls Try.prog 22 #[.agg (encT L root).toArray, .int .i64 key] w _
  have hl : (encT L root).length = 65 := tree_len (c := ⟨L, root⟩) hc
  have hone : (encT L root).all (·.oneCell') = true := tree_one ⟨L, root⟩
  have hl2 : (encT L root).toArray.size = 65 := by rw [List.size_toArray, hl]
  have HC := hid hc
  obtain ⟨W1, hW1⟩ : ∃ X, (w.alloc (.cells (encT L root).toArray 31)).alloc (.cells #[.bool false, .int .i64 0, .int .i64 0, .int .i64 0, .bool false, .int .i64 0, .int .i64 0, .int .i64 0, .bool false, .int .i64 0, .int .i64 0, .int .i64 0, .bool false, .int .i64 0, .int .i64 0, .int .i64 0, .bool false, .int .i64 0, .int .i64 0, .int .i64 0, .bool false, .int .i64 0, .int .i64 0, .int .i64 0, .bool false, .int .i64 0, .int .i64 0, .int .i64 0, .bool false, .int .i64 0, .int .i64 0, .int .i64 0, .bool false, .int .i64 0, .int .i64 0, .int .i64 0, .bool false, .int .i64 0, .int .i64 0, .int .i64 0, .bool false, .int .i64 0, .int .i64 0, .int .i64 0, .bool false, .int .i64 0, .int .i64 0, .int .i64 0, .bool false, .int .i64 0, .int .i64 0, .int .i64 0, .bool false, .int .i64 0, .int .i64 0, .int .i64 0, .bool false, .int .i64 0, .int .i64 0, .int .i64 0, .bool false, .int .i64 0, .int .i64 0, .int .i64 0, .int .i64 0] 31) = X := ⟨_, rfl⟩
  have HB := hid (show Below w.heap.size w W1 by rw [← hW1]; exact ((Below.refl _ _).alloc (Nat.le_refl _) _).alloc (by simp) _)
  have BX := hid (show BoxF W1 w.heap.size (encT L root) by rw [← hW1]; exact (BoxF.alloc w (encT L root).toArray 31).below ((Below.refl _ _).alloc (Nat.le_refl _) _))
  have RB := hid (show BoxF W1 (w.heap.size + 1) [.bool false, .int .i64 0, .int .i64 0, .int .i64 0, .bool false, .int .i64 0, .int .i64 0, .int .i64 0, .bool false, .int .i64 0, .int .i64 0, .int .i64 0, .bool false, .int .i64 0, .int .i64 0, .int .i64 0, .bool false, .int .i64 0, .int .i64 0, .int .i64 0, .bool false, .int .i64 0, .int .i64 0, .int .i64 0, .bool false, .int .i64 0, .int .i64 0, .int .i64 0, .bool false, .int .i64 0, .int .i64 0, .int .i64 0, .bool false, .int .i64 0, .int .i64 0, .int .i64 0, .bool false, .int .i64 0, .int .i64 0, .int .i64 0, .bool false, .int .i64 0, .int .i64 0, .int .i64 0, .bool false, .int .i64 0, .int .i64 0, .int .i64 0, .bool false, .int .i64 0, .int .i64 0, .int .i64 0, .bool false, .int .i64 0, .int .i64 0, .int .i64 0, .bool false, .int .i64 0, .int .i64 0, .int .i64 0, .bool false, .int .i64 0, .int .i64 0, .int .i64 0, .int .i64 0] by
    rw [← hW1]
    have z := BoxF.alloc (w.alloc (.cells (encT L root).toArray 31)) #[.bool false, .int .i64 0, .int .i64 0, .int .i64 0, .bool false, .int .i64 0, .int .i64 0, .int .i64 0, .bool false, .int .i64 0, .int .i64 0, .int .i64 0, .bool false, .int .i64 0, .int .i64 0, .int .i64 0, .bool false, .int .i64 0, .int .i64 0, .int .i64 0, .bool false, .int .i64 0, .int .i64 0, .int .i64 0, .bool false, .int .i64 0, .int .i64 0, .int .i64 0, .bool false, .int .i64 0, .int .i64 0, .int .i64 0, .bool false, .int .i64 0, .int .i64 0, .int .i64 0, .bool false, .int .i64 0, .int .i64 0, .int .i64 0, .bool false, .int .i64 0, .int .i64 0, .int .i64 0, .bool false, .int .i64 0, .int .i64 0, .int .i64 0, .bool false, .int .i64 0, .int .i64 0, .int .i64 0, .bool false, .int .i64 0, .int .i64 0, .int .i64 0, .bool false, .int .i64 0, .int .i64 0, .int .i64 0, .bool false, .int .i64 0, .int .i64 0, .int .i64 0, .int .i64 0] 31
    rw [show (w.alloc (.cells (encT L root).toArray 31)).heap.size = w.heap.size + 1 by simp] at z
    exact z)
  have hz : ∀ w : World, (zeroValue 31).run Try.prog w = .ok (.agg #[.bool false, .int .i64 0, .int .i64 0, .int .i64 0, .bool false, .int .i64 0, .int .i64 0, .int .i64 0, .bool false, .int .i64 0, .int .i64 0, .int .i64 0, .bool false, .int .i64 0, .int .i64 0, .int .i64 0, .bool false, .int .i64 0, .int .i64 0, .int .i64 0, .bool false, .int .i64 0, .int .i64 0, .int .i64 0, .bool false, .int .i64 0, .int .i64 0, .int .i64 0, .bool false, .int .i64 0, .int .i64 0, .int .i64 0, .bool false, .int .i64 0, .int .i64 0, .int .i64 0, .bool false, .int .i64 0, .int .i64 0, .int .i64 0, .bool false, .int .i64 0, .int .i64 0, .int .i64 0, .bool false, .int .i64 0, .int .i64 0, .int .i64 0, .bool false, .int .i64 0, .int .i64 0, .int .i64 0, .bool false, .int .i64 0, .int .i64 0, .int .i64 0, .bool false, .int .i64 0, .int .i64 0, .int .i64 0, .bool false, .int .i64 0, .int .i64 0, .int .i64 0, .int .i64 0]) w := fun w => zero_run w (by kernel_rfl)
  have HW1 := hid hW1
  clear hW1
  have HWK := hid (impl_walkTo0 ⟨L, root⟩ hc key w.heap.size W1 BX.out)
  have HWE := hid (walkI_eq ⟨L, root⟩ key)
  obtain ⟨⟨l, n, r⟩, hR⟩ : ∃ r, walkI ⟨L, root⟩ key = r := ⟨_, rfl⟩
  rw [hR] at HWK HWE
  dsimp only at HWK HWE
  clear hR
  by_cases hr4 : r = 4
  · subst hr4
    have hboth : (treeOk ⟨L, root⟩ && isVal key) = true := by
      cases h9 : (treeOk ⟨L, root⟩ && isVal key) with
      | true => rfl
      | false => have z := HWE.out; rw [h9, if_neg (by simp)] at z; simp at z
    have z := HWE.out
    rw [if_pos hboth] at z
    have hco : codeW (wayC ⟨L, root⟩ key) = 4 := by have := congrArg (fun x => x.2.2) z; exact this.symm
    have hok : treeOk ⟨L, root⟩ = true := by simp at hboth; exact hboth.1
    obtain ⟨⟨RW, rf, ro⟩, hR⟩ : ∃ r, wayC ⟨L, root⟩ key = r := ⟨_, rfl⟩
    have hrf : rf = true := by
      rw [hR] at hco
      cases rf with
      | true => rfl
      | false => unfold codeW at hco; cases ro <;> simp at hco
    subst hrf
    rw [hR] at z hco
    obtain ⟨V, q, zs, hF⟩ := way_found (t := ⟨L, root⟩) hc hok hR
    obtain ⟨hway, hpt, hnd, hlen, hne, hoth, hloc⟩ := hF
    dsimp only at hpt hne hoth hloc z
    subst hway
    have hw8 := wayT_len L key 8 root []
    rw [show wayT L key 8 root [] = (V ++ [q], true, ro) from hR] at hw8
    dsimp only at hw8
    have hl4 : l = linkOf L key V := by have := congrArg (fun x => x.1) z; simpa using this
    have hn4 : n = (V ++ [q]).length := congrArg (fun x => x.2.1) z
    rw [← hl4] at hloc
    rw [← hn4] at hw8
    obtain ⟨_, _, hi, _⟩ := hpt.inv hne
    obtain ⟨k, rfl, hk16⟩ : ∃ k : Nat, q = (k : Int) ∧ k < 16 := by
      have := inB_nn hi
      exact ⟨q.toNat, by omega, by omega⟩
    have HF := hid (show dropC ⟨L, root⟩ key = dropAt ⟨L, root⟩ l k n by
      unfold dropC
      rw [if_pos hboth, hR, if_pos hco]
      dsimp only
      rw [hn4, hl4, show (V ++ [(k : Int)]).dropLast = V by simp, show (V ++ [(k : Int)]).getLastD 0 = (k : Int) by simp [List.getLastD_eq_getLast?]])
    have HDR := hid (fun (B6 : Nat) (hbb : w.heap.size ≠ B6) (W : World) (h : BoxF W w.heap.size (encT L root)) (h6 : BoxF W B6 [.pointer (some ⟨w.heap.size, 0, none⟩), .pointer (some ⟨w.heap.size, l, none⟩), .int .i64 n]) => impl_drop0 L hc root w.heap.size B6 l k n (by simpa using hw8) hk16 hloc zs hpt hnd hlen hbb W h h6)
    have hcd := dropAt_code ⟨L, root⟩ l k n
    have hlv0 : (dropAt ⟨L, root⟩ l k n).1.enc.length = 65 := tree_len (dropAt_len ⟨L, root⟩ hc l k n)
    have honev0 := tree_one (dropAt ⟨L, root⟩ l k n).1
    obtain ⟨⟨D, dc⟩, hD⟩ : ∃ x, dropAt ⟨L, root⟩ l k n = x := ⟨_, rfl⟩
    rw [hD] at HF HDR hcd hlv0 honev0
    dsimp only at HDR hcd hlv0 honev0
    have HFE := hid (show (dropC ⟨L, root⟩ key).1.enc = D.enc by rw [HF.out])
    have HFC := hid (show (dropC ⟨L, root⟩ key).2 = dc by rw [HF.out])
    obtain ⟨vv, hvv⟩ : ∃ x, D.enc = x := ⟨_, rfl⟩
    rw [hvv] at HDR HFE hlv0 honev0
    clear hvv hD HF hboth z hco hok hR hpt hnd hlen hne hoth hloc hw8 hl4 hn4 hi HWE
    rcases hcd with rfl | rfl
    · have HDD := hid (fun (B6 : Nat) (hbb : w.heap.size ≠ B6) (W : World) (h : BoxF W w.heap.size (encT L root)) (h6 : BoxF W B6 [.pointer (some ⟨w.heap.size, 0, none⟩), .pointer (some ⟨w.heap.size, l, none⟩), .int .i64 n]) => HDR.out B6 hbb W h h6)
      go_enter Try.func22, Try.ntmps22
      go_upto_region 1 with fail
      rw [HW1.out]
      go_upto_region 2 with (go_at_call 42; refine HWK.out.mono ?_; rintro e wq ⟨rfl, bq⟩; have HB := hid (HB.out.trans (bq.mono HB.out.size)); have BX := hid (BX.out.below bq); have RB := hid (RB.out.below bq); clear bq)
      obtain ⟨W3, hW3⟩ : ∃ X, wq.alloc (.cells #[.pointer (some ⟨w.heap.size, 0, none⟩), .pointer (some ⟨w.heap.size, l, none⟩), .int .i64 (n : Int)] 67) = X := ⟨_, rfl⟩
      have hb3 : Below wq.heap.size wq W3 := by rw [← hW3]; exact (Below.refl _ _).alloc (Nat.le_refl _) _
      have K := hid (show BoxF W3 wq.heap.size [.pointer (some ⟨w.heap.size, 0, none⟩), .pointer (some ⟨w.heap.size, l, none⟩), .int .i64 (n : Int)] by rw [← hW3]; exact BoxF.alloc wq #[.pointer (some ⟨w.heap.size, 0, none⟩), .pointer (some ⟨w.heap.size, l, none⟩), .int .i64 (n : Int)] 67)
      have HN6 := hid (show w.heap.size + 1 < wq.heap.size from RB.out.1.1)
      have HB := hid (HB.out.trans (hb3.mono HB.out.size))
      have BX := hid (BX.out.below hb3)
      have RB := hid (RB.out.below hb3)
      obtain ⟨B6, hB6e⟩ : ∃ n, wq.heap.size = n := ⟨_, rfl⟩
      have HW3 := hid hW3
      rw [HW3.out]
      rw [hB6e] at K HN6 ⊢
      clear hW3 hb3 hB6e HW3
      go_wp2_with (first | (go_at_call 46; refine (HDD.out B6 (by have := HN6.out; omega) _ BX.out K.out).mono ?_; rintro e wq ⟨rfl, B9, C9⟩; have RB := hid (RB.out.chg C9 (by have := HN6.out; omega)); have HB := hid (below_chg HB.out C9 HB.out.size (fun b hb => by have := HN6.out; omega)); have BX := hid B9; clear B9 C9) | (refine wpList_load_boxg rfl 31 _ rfl w.heap.size vv (by exact BX.out.1) rfl _ Try.underlying31 rfl (by rw [hlv0]; kernel_rfl) ?_) | (refine wpList_store_box rfl 31 _ _ rfl (w.heap.size + 1) [.bool false, .int .i64 0, .int .i64 0, .int .i64 0, .bool false, .int .i64 0, .int .i64 0, .int .i64 0, .bool false, .int .i64 0, .int .i64 0, .int .i64 0, .bool false, .int .i64 0, .int .i64 0, .int .i64 0, .bool false, .int .i64 0, .int .i64 0, .int .i64 0, .bool false, .int .i64 0, .int .i64 0, .int .i64 0, .bool false, .int .i64 0, .int .i64 0, .int .i64 0, .bool false, .int .i64 0, .int .i64 0, .int .i64 0, .bool false, .int .i64 0, .int .i64 0, .int .i64 0, .bool false, .int .i64 0, .int .i64 0, .int .i64 0, .bool false, .int .i64 0, .int .i64 0, .int .i64 0, .bool false, .int .i64 0, .int .i64 0, .int .i64 0, .bool false, .int .i64 0, .int .i64 0, .int .i64 0, .bool false, .int .i64 0, .int .i64 0, .int .i64 0, .bool false, .int .i64 0, .int .i64 0, .int .i64 0, .bool false, .int .i64 0, .int .i64 0, .int .i64 0, .int .i64 0] vv (by exact RB.out) rfl rfl (by rw [hlv0]; rfl) (by rw [hlv0]; kernel_rfl) honev0 ?_))
      intro w9 o9 C9
      have O9 := hid o9
      have HB9 := hid (below_chg HB.out C9 HB.out.size (fun b hb => by omega))
      clear o9 C9
      go_wp2
      exact bodyPost_ret (results_cq rfl _ _ (w.heap.size + 1) vv rfl O9.out _ Try.underlying31 rfl (by rw [hlv0]; kernel_rfl)) rfl ⟨by rw [HFE.out, HFC.out]; rfl, HB9.out⟩
    · have HDD := hid (fun (B6 : Nat) (hbb : w.heap.size ≠ B6) (W : World) (h : BoxF W w.heap.size (encT L root)) (h6 : BoxF W B6 [.pointer (some ⟨w.heap.size, 0, none⟩), .pointer (some ⟨w.heap.size, l, none⟩), .int .i64 n]) => HDR.out B6 hbb W h h6)
      go_enter Try.func22, Try.ntmps22
      go_upto_region 1 with fail
      rw [HW1.out]
      go_upto_region 2 with (go_at_call 42; refine HWK.out.mono ?_; rintro e wq ⟨rfl, bq⟩; have HB := hid (HB.out.trans (bq.mono HB.out.size)); have BX := hid (BX.out.below bq); have RB := hid (RB.out.below bq); clear bq)
      obtain ⟨W3, hW3⟩ : ∃ X, wq.alloc (.cells #[.pointer (some ⟨w.heap.size, 0, none⟩), .pointer (some ⟨w.heap.size, l, none⟩), .int .i64 (n : Int)] 67) = X := ⟨_, rfl⟩
      have hb3 : Below wq.heap.size wq W3 := by rw [← hW3]; exact (Below.refl _ _).alloc (Nat.le_refl _) _
      have K := hid (show BoxF W3 wq.heap.size [.pointer (some ⟨w.heap.size, 0, none⟩), .pointer (some ⟨w.heap.size, l, none⟩), .int .i64 (n : Int)] by rw [← hW3]; exact BoxF.alloc wq #[.pointer (some ⟨w.heap.size, 0, none⟩), .pointer (some ⟨w.heap.size, l, none⟩), .int .i64 (n : Int)] 67)
      have HN6 := hid (show w.heap.size + 1 < wq.heap.size from RB.out.1.1)
      have HB := hid (HB.out.trans (hb3.mono HB.out.size))
      have BX := hid (BX.out.below hb3)
      have RB := hid (RB.out.below hb3)
      obtain ⟨B6, hB6e⟩ : ∃ n, wq.heap.size = n := ⟨_, rfl⟩
      have HW3 := hid hW3
      rw [HW3.out]
      rw [hB6e] at K HN6 ⊢
      clear hW3 hb3 hB6e HW3
      go_wp2_with (first | (go_at_call 46; refine (HDD.out B6 (by have := HN6.out; omega) _ BX.out K.out).mono ?_; rintro e wq ⟨rfl, B9, C9⟩; have RB := hid (RB.out.chg C9 (by have := HN6.out; omega)); have HB := hid (below_chg HB.out C9 HB.out.size (fun b hb => by have := HN6.out; omega)); have BX := hid B9; clear B9 C9) | (refine wpList_load_boxg rfl 31 _ rfl w.heap.size vv (by exact BX.out.1) rfl _ Try.underlying31 rfl (by rw [hlv0]; kernel_rfl) ?_) | (refine wpList_store_box rfl 31 _ _ rfl (w.heap.size + 1) [.bool false, .int .i64 0, .int .i64 0, .int .i64 0, .bool false, .int .i64 0, .int .i64 0, .int .i64 0, .bool false, .int .i64 0, .int .i64 0, .int .i64 0, .bool false, .int .i64 0, .int .i64 0, .int .i64 0, .bool false, .int .i64 0, .int .i64 0, .int .i64 0, .bool false, .int .i64 0, .int .i64 0, .int .i64 0, .bool false, .int .i64 0, .int .i64 0, .int .i64 0, .bool false, .int .i64 0, .int .i64 0, .int .i64 0, .bool false, .int .i64 0, .int .i64 0, .int .i64 0, .bool false, .int .i64 0, .int .i64 0, .int .i64 0, .bool false, .int .i64 0, .int .i64 0, .int .i64 0, .bool false, .int .i64 0, .int .i64 0, .int .i64 0, .bool false, .int .i64 0, .int .i64 0, .int .i64 0, .bool false, .int .i64 0, .int .i64 0, .int .i64 0, .bool false, .int .i64 0, .int .i64 0, .int .i64 0, .bool false, .int .i64 0, .int .i64 0, .int .i64 0, .int .i64 0] vv (by exact RB.out) rfl rfl (by rw [hlv0]; rfl) (by rw [hlv0]; kernel_rfl) honev0 ?_))
      intro w9 o9 C9
      have O9 := hid o9
      have HB9 := hid (below_chg HB.out C9 HB.out.size (fun b hb => by omega))
      clear o9 C9
      go_wp2
      exact bodyPost_ret (results_cq rfl _ _ (w.heap.size + 1) vv rfl O9.out _ Try.underlying31 rfl (by rw [hlv0]; kernel_rfl)) rfl ⟨by rw [HFE.out, HFC.out]; rfl, HB9.out⟩
  · have HF := hid (show dropC ⟨L, root⟩ key = (⟨L, root⟩, r) by
      have z := HWE.out
      unfold dropC
      split
      · rename_i h9
        rw [if_pos h9] at z
        have hco : r = codeW (wayC ⟨L, root⟩ key) := congrArg (fun x => x.2.2) z
        rw [if_neg (by rw [← hco]; exact hr4), hco]
      · rename_i h9
        rw [if_neg h9] at z
        have hco : r = 1 := congrArg (fun x => x.2.2) z
        rw [hco])
    clear HWE
    go_enter Try.func22, Try.ntmps22
    go_upto_region 1 with fail
    rw [HW1.out]
    go_upto_region 2 with (go_at_call 42; refine HWK.out.mono ?_; rintro e wq ⟨rfl, bq⟩; have HB := hid (HB.out.trans (bq.mono HB.out.size)); have BX := hid (BX.out.below bq); have RB := hid (RB.out.below bq); clear bq)
    obtain ⟨W3, hW3⟩ : ∃ X, wq.alloc (.cells #[.pointer (some ⟨w.heap.size, 0, none⟩), .pointer (some ⟨w.heap.size, l, none⟩), .int .i64 (n : Int)] 67) = X := ⟨_, rfl⟩
    have hb3 : Below wq.heap.size wq W3 := by rw [← hW3]; exact (Below.refl _ _).alloc (Nat.le_refl _) _
    have K := hid (show BoxF W3 wq.heap.size [.pointer (some ⟨w.heap.size, 0, none⟩), .pointer (some ⟨w.heap.size, l, none⟩), .int .i64 (n : Int)] by rw [← hW3]; exact BoxF.alloc wq #[.pointer (some ⟨w.heap.size, 0, none⟩), .pointer (some ⟨w.heap.size, l, none⟩), .int .i64 (n : Int)] 67)
    have HN6 := hid (show w.heap.size + 1 < wq.heap.size from RB.out.1.1)
    have HB := hid (HB.out.trans (hb3.mono HB.out.size))
    have BX := hid (BX.out.below hb3)
    have RB := hid (RB.out.below hb3)
    obtain ⟨B6, hB6e⟩ : ∃ n, wq.heap.size = n := ⟨_, rfl⟩
    have HW3 := hid hW3
    rw [HW3.out]
    rw [hB6e] at K HN6 ⊢
    clear hW3 hb3 hB6e HW3
    go_wp2_with (first | (refine wpList_load_boxg rfl 31 _ rfl w.heap.size (encT L root) (by exact BX.out.1) rfl _ Try.underlying31 rfl (by rw [hl]; kernel_rfl) ?_) | (refine wpList_store_box rfl 31 _ _ rfl (w.heap.size + 1) [.bool false, .int .i64 0, .int .i64 0, .int .i64 0, .bool false, .int .i64 0, .int .i64 0, .int .i64 0, .bool false, .int .i64 0, .int .i64 0, .int .i64 0, .bool false, .int .i64 0, .int .i64 0, .int .i64 0, .bool false, .int .i64 0, .int .i64 0, .int .i64 0, .bool false, .int .i64 0, .int .i64 0, .int .i64 0, .bool false, .int .i64 0, .int .i64 0, .int .i64 0, .bool false, .int .i64 0, .int .i64 0, .int .i64 0, .bool false, .int .i64 0, .int .i64 0, .int .i64 0, .bool false, .int .i64 0, .int .i64 0, .int .i64 0, .bool false, .int .i64 0, .int .i64 0, .int .i64 0, .bool false, .int .i64 0, .int .i64 0, .int .i64 0, .bool false, .int .i64 0, .int .i64 0, .int .i64 0, .bool false, .int .i64 0, .int .i64 0, .int .i64 0, .bool false, .int .i64 0, .int .i64 0, .int .i64 0, .bool false, .int .i64 0, .int .i64 0, .int .i64 0, .int .i64 0] (encT L root) (by exact RB.out) rfl rfl (by rw [hl]; rfl) (by rw [hl]; kernel_rfl) hone ?_))
    intro w9 o9 C9
    have O9 := hid o9
    have HB9 := hid (below_chg HB.out C9 HB.out.size (fun b hb => by omega))
    clear o9 C9
    go_wp2
    exact bodyPost_ret (results_cq rfl _ _ (w.heap.size + 1) (encT L root) rfl O9.out _ Try.underlying31 rfl (by rw [hl]; kernel_rfl)) rfl ⟨by rw [HF.out]; rfl, HB9.out⟩
end Go.Proofs.Ytcjeafhejkppeaa
