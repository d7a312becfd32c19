/- Chapter 15's model: l15Hang. -/
import Derived.Test.YtcjeafhejkppeaaS15w
import Derived.Test.YtcjeafhejkppeaaF15a
namespace Go.Proofs.Ytcjeafhejkppeaa
set_option maxRecDepth 100000
open Go.RowKit Go.Proofs Go.Own
open Go Go.BigFrame
set_option linter.unusedVariables false
set_option linter.unusedSimpArgs false
set_option maxHeartbeats 8000000 in
theorem spec_l15Hang0 (L : List Twig) (hL : L.length = 16) (root key p : Int) (W : List Int) (v : Value) (w : World) (hv : Ints w v W) (hin : ∀ q ∈ W, inB q 0 15 = true) :
    Calls Try.prog 43 #[.agg (encT L root).toArray, v, .int .i64 key, .int .i64 p] w fun e w' => e = .returned (.agg (hangT ⟨L, root⟩ (linkOf L key W) p).enc.toArray) ∧ Below w.heap.size w w' := by
  have hl : (encT L root).length = 65 := tree_len (c := ⟨L, root⟩) hL
  have hl2 : (encT L root).toArray.size = 65 := by rw [List.size_toArray, hl]
  have HL := hid hL
  obtain ⟨W1, hW1⟩ : ∃ X, (w.alloc (.cells (encT L root).toArray 31)).alloc (.cells #[.bool false, .int .i64 0, .int .i64 0, .int .i64 0, .bool false, .int .i64 0, .int .i64 0, .int .i64 0, .bool false, .int .i64 0, .int .i64 0, .int .i64 0, .bool false, .int .i64 0, .int .i64 0, .int .i64 0, .bool false, .int .i64 0, .int .i64 0, .int .i64 0, .bool false, .int .i64 0, .int .i64 0, .int .i64 0, .bool false, .int .i64 0, .int .i64 0, .int .i64 0, .bool false, .int .i64 0, .int .i64 0, .int .i64 0, .bool false, .int .i64 0, .int .i64 0, .int .i64 0, .bool false, .int .i64 0, .int .i64 0, .int .i64 0, .bool false, .int .i64 0, .int .i64 0, .int .i64 0, .bool false, .int .i64 0, .int .i64 0, .int .i64 0, .bool false, .int .i64 0, .int .i64 0, .int .i64 0, .bool false, .int .i64 0, .int .i64 0, .int .i64 0, .bool false, .int .i64 0, .int .i64 0, .int .i64 0, .bool false, .int .i64 0, .int .i64 0, .int .i64 0, .int .i64 0] 31) = X := ⟨_, rfl⟩
  have hB1 : Below w.heap.size w W1 := by rw [← hW1]; exact ((Below.refl _ _).alloc (Nat.le_refl _) _).alloc (by simp) _
  have HB1 := hid hB1
  have B1 := hid (show BoxF W1 w.heap.size (encT L root) by rw [← hW1]; exact (BoxF.alloc w (encT L root).toArray 31).below ((Below.refl _ _).alloc (Nat.le_refl _) _))
  have R1 := hid (show BoxF W1 (w.heap.size + 1) [.bool false, .int .i64 0, .int .i64 0, .int .i64 0, .bool false, .int .i64 0, .int .i64 0, .int .i64 0, .bool false, .int .i64 0, .int .i64 0, .int .i64 0, .bool false, .int .i64 0, .int .i64 0, .int .i64 0, .bool false, .int .i64 0, .int .i64 0, .int .i64 0, .bool false, .int .i64 0, .int .i64 0, .int .i64 0, .bool false, .int .i64 0, .int .i64 0, .int .i64 0, .bool false, .int .i64 0, .int .i64 0, .int .i64 0, .bool false, .int .i64 0, .int .i64 0, .int .i64 0, .bool false, .int .i64 0, .int .i64 0, .int .i64 0, .bool false, .int .i64 0, .int .i64 0, .int .i64 0, .bool false, .int .i64 0, .int .i64 0, .int .i64 0, .bool false, .int .i64 0, .int .i64 0, .int .i64 0, .bool false, .int .i64 0, .int .i64 0, .int .i64 0, .bool false, .int .i64 0, .int .i64 0, .int .i64 0, .bool false, .int .i64 0, .int .i64 0, .int .i64 0, .int .i64 0] by
    rw [← hW1]
    have z := BoxF.alloc (w.alloc (.cells (encT L root).toArray 31)) #[.bool false, .int .i64 0, .int .i64 0, .int .i64 0, .bool false, .int .i64 0, .int .i64 0, .int .i64 0, .bool false, .int .i64 0, .int .i64 0, .int .i64 0, .bool false, .int .i64 0, .int .i64 0, .int .i64 0, .bool false, .int .i64 0, .int .i64 0, .int .i64 0, .bool false, .int .i64 0, .int .i64 0, .int .i64 0, .bool false, .int .i64 0, .int .i64 0, .int .i64 0, .bool false, .int .i64 0, .int .i64 0, .int .i64 0, .bool false, .int .i64 0, .int .i64 0, .int .i64 0, .bool false, .int .i64 0, .int .i64 0, .int .i64 0, .bool false, .int .i64 0, .int .i64 0, .int .i64 0, .bool false, .int .i64 0, .int .i64 0, .int .i64 0, .bool false, .int .i64 0, .int .i64 0, .int .i64 0, .bool false, .int .i64 0, .int .i64 0, .int .i64 0, .bool false, .int .i64 0, .int .i64 0, .int .i64 0, .bool false, .int .i64 0, .int .i64 0, .int .i64 0, .int .i64 0] 31
    rw [show (w.alloc (.cells (encT L root).toArray 31)).heap.size = w.heap.size + 1 by simp] at z
    exact z)
  have hz : ∀ w : World, (zeroValue 31).run Try.prog w = .ok (.agg #[.bool false, .int .i64 0, .int .i64 0, .int .i64 0, .bool false, .int .i64 0, .int .i64 0, .int .i64 0, .bool false, .int .i64 0, .int .i64 0, .int .i64 0, .bool false, .int .i64 0, .int .i64 0, .int .i64 0, .bool false, .int .i64 0, .int .i64 0, .int .i64 0, .bool false, .int .i64 0, .int .i64 0, .int .i64 0, .bool false, .int .i64 0, .int .i64 0, .int .i64 0, .bool false, .int .i64 0, .int .i64 0, .int .i64 0, .bool false, .int .i64 0, .int .i64 0, .int .i64 0, .bool false, .int .i64 0, .int .i64 0, .int .i64 0, .bool false, .int .i64 0, .int .i64 0, .int .i64 0, .bool false, .int .i64 0, .int .i64 0, .int .i64 0, .bool false, .int .i64 0, .int .i64 0, .int .i64 0, .bool false, .int .i64 0, .int .i64 0, .int .i64 0, .bool false, .int .i64 0, .int .i64 0, .int .i64 0, .bool false, .int .i64 0, .int .i64 0, .int .i64 0, .int .i64 0]) w := fun w => zero_run w (by kernel_rfl)
  have HV1 := hid (Ints.below hv hB1)
  have HW1 := hid hW1
  clear hW1 hB1 hv
  obtain ⟨va, vc, e9, hl9, hm9, hcx⟩ := Ints.open HV1.out
  subst e9
  have HCX := hid hcx
  clear hcx
  rcases List.eq_nil_or_concat W with rfl | ⟨W', q, hWq⟩
  · rw [show linkOf L key [] = 64 from rfl]
    have hlv0 : (hangT ⟨L, root⟩ (64) p).enc.length = 65 := tree_len (hangT_len (t := ⟨L, root⟩) hL (64) p)
    have honev0 := tree_one (hangT ⟨L, root⟩ (64) p)
    obtain ⟨vv, hvv⟩ : ∃ x, (hangT ⟨L, root⟩ (64) p).enc = x := ⟨_, rfl⟩
    have hlv : vv.length = 65 := by rw [← hvv]; exact hlv0
    have hlb : vv.length = 65 := hlv
    have honev : vv.all (·.oneCell') = true := by rw [← hvv]; exact honev0
    have HVV := hid hvv
    clear hvv hlv0 honev0
    go_enter Try.func43, Try.ntmps43
    go_upto_region 1 with fail
    rw [HW1.out]
    go_wp2_with (refine wpList_store_cell rfl 3 _ _ rfl w.heap.size (64) (encT L root) (.int .i64 p) (by exact B1.out) rfl rfl (by rw [hl]; omega) (by kernel_rfl) rfl rfl ?_)
    intro w5 o5 C5
    have BX := hid (show BoxF w5 w.heap.size vv by rw [← HVV.out, ← enc_hang L HL.out root (64) (.inl rfl) p]; exact o5)
    have RB := hid (R1.out.chg C5 (by omega))
    have HB5 := hid (below_chg HB1.out C5 HB1.out.size (fun b hb => by omega))
    clear o5 C5
    go_wp2_with (first | (refine wpList_load_boxg rfl 31 _ rfl w.heap.size _ (by exact BX.out.1) rfl _ Try.underlying31 rfl (by rw [hlb]; kernel_rfl) ?_) | (refine wpList_store_box rfl 31 _ _ rfl (w.heap.size + 1) [.bool false, .int .i64 0, .int .i64 0, .int .i64 0, .bool false, .int .i64 0, .int .i64 0, .int .i64 0, .bool false, .int .i64 0, .int .i64 0, .int .i64 0, .bool false, .int .i64 0, .int .i64 0, .int .i64 0, .bool false, .int .i64 0, .int .i64 0, .int .i64 0, .bool false, .int .i64 0, .int .i64 0, .int .i64 0, .bool false, .int .i64 0, .int .i64 0, .int .i64 0, .bool false, .int .i64 0, .int .i64 0, .int .i64 0, .bool false, .int .i64 0, .int .i64 0, .int .i64 0, .bool false, .int .i64 0, .int .i64 0, .int .i64 0, .bool false, .int .i64 0, .int .i64 0, .int .i64 0, .bool false, .int .i64 0, .int .i64 0, .int .i64 0, .bool false, .int .i64 0, .int .i64 0, .int .i64 0, .bool false, .int .i64 0, .int .i64 0, .int .i64 0, .bool false, .int .i64 0, .int .i64 0, .int .i64 0, .bool false, .int .i64 0, .int .i64 0, .int .i64 0, .int .i64 0] vv (by exact RB.out) rfl rfl (by rw [hlv]; rfl) (by rw [hlv]; kernel_rfl) honev ?_))
    intro w9 o9 C9
    have O9 := hid o9
    have HB9 := hid (below_chg HB5.out C9 HB5.out.size (fun b hb => by omega))
    clear o9 C9
    go_wp2
    exact bodyPost_ret (results_box rfl _ _ (w.heap.size + 1) vv rfl O9.out _ Try.underlying31 rfl (by rw [hlv]; kernel_rfl)) rfl ⟨by rw [← HVV.out], HB9.out⟩
  · rw [List.concat_eq_append] at hWq
    subst hWq
    have hq := hin q (by simp)
    obtain ⟨k, rfl, hk16⟩ : ∃ k : Nat, q = (k : Int) ∧ k < 16 := by
      have := inB_nn hq
      exact ⟨q.toNat, by omega, by omega⟩
    obtain ⟨bb, off, rfl, hbs, c0⟩ := HCX.out W'.length (by simp)
    have hc0 : W1.cell? ⟨bb, off + W'.length, none⟩ = some (.int .i64 (k : Int)) := by rw [c0]; simp
    have hln : (W' ++ [(k : Int)]).length = W'.length + 1 := by simp
    rw [hln] at hl9 ⊢
    have hn0 : ¬ ((W'.length + 1 : Nat) : Int) = 0 := by omega
    have hn1 : ((W'.length + 1 : Nat) : Int) - 1 = (W'.length : Int) := by omega
    have hk0 : (0 : Int) ≤ (k : Int) := by omega
    have hki : (k : Int) < 16 := by omega
    have t1 := (tree_at (show BoxF W1 w.heap.size (TreeD.enc ⟨L, root⟩) from B1.out) hL k hk16).2.1
    obtain ⟨xk, hxk⟩ : ∃ x, (tw L (k : Int)).key_ = x := ⟨_, rfl⟩
    rw [linkOf_snoc, Int.toNat_natCast]
    rw [hxk] at t1 ⊢
    clear c0 HCX hin hq hxk HV1
    by_cases hlt : key < xk
    · rw [if_pos hlt]
      have hlv0 : (hangT ⟨L, root⟩ (k * 4 + 2) p).enc.length = 65 := tree_len (hangT_len (t := ⟨L, root⟩) hL (k * 4 + 2) p)
      have honev0 := tree_one (hangT ⟨L, root⟩ (k * 4 + 2) p)
      obtain ⟨vv, hvv⟩ : ∃ x, (hangT ⟨L, root⟩ (k * 4 + 2) p).enc = x := ⟨_, rfl⟩
      have hlv : vv.length = 65 := by rw [← hvv]; exact hlv0
      have hlb : vv.length = 65 := hlv
      have honev : vv.all (·.oneCell') = true := by rw [← hvv]; exact honev0
      have HVV := hid hvv
      clear hvv hlv0 honev0
      go_enter Try.func43, Try.ntmps43
      go_upto_region 1 with fail
      rw [HW1.out]
      go_wp2_with (refine wpList_store_cell rfl 3 _ _ rfl w.heap.size (k * 4 + 2) (encT L root) (.int .i64 p) (by exact B1.out) rfl rfl (by rw [hl]; omega) (by kernel_rfl) rfl rfl ?_)
      intro w5 o5 C5
      have BX := hid (show BoxF w5 w.heap.size vv by rw [← HVV.out, ← enc_hang L HL.out root (k * 4 + 2) (.inr ⟨k, hk16, .inl rfl⟩) p]; exact o5)
      have RB := hid (R1.out.chg C5 (by omega))
      have HB5 := hid (below_chg HB1.out C5 HB1.out.size (fun b hb => by omega))
      clear o5 C5
      go_wp2_with (first | (refine wpList_load_boxg rfl 31 _ rfl w.heap.size _ (by exact BX.out.1) rfl _ Try.underlying31 rfl (by rw [hlb]; kernel_rfl) ?_) | (refine wpList_store_box rfl 31 _ _ rfl (w.heap.size + 1) [.bool false, .int .i64 0, .int .i64 0, .int .i64 0, .bool false, .int .i64 0, .int .i64 0, .int .i64 0, .bool false, .int .i64 0, .int .i64 0, .int .i64 0, .bool false, .int .i64 0, .int .i64 0, .int .i64 0, .bool false, .int .i64 0, .int .i64 0, .int .i64 0, .bool false, .int .i64 0, .int .i64 0, .int .i64 0, .bool false, .int .i64 0, .int .i64 0, .int .i64 0, .bool false, .int .i64 0, .int .i64 0, .int .i64 0, .bool false, .int .i64 0, .int .i64 0, .int .i64 0, .bool false, .int .i64 0, .int .i64 0, .int .i64 0, .bool false, .int .i64 0, .int .i64 0, .int .i64 0, .bool false, .int .i64 0, .int .i64 0, .int .i64 0, .bool false, .int .i64 0, .int .i64 0, .int .i64 0, .bool false, .int .i64 0, .int .i64 0, .int .i64 0, .bool false, .int .i64 0, .int .i64 0, .int .i64 0, .bool false, .int .i64 0, .int .i64 0, .int .i64 0, .int .i64 0] vv (by exact RB.out) rfl rfl (by rw [hlv]; rfl) (by rw [hlv]; kernel_rfl) honev ?_))
      intro w9 o9 C9
      have O9 := hid o9
      have HB9 := hid (below_chg HB5.out C9 HB5.out.size (fun b hb => by omega))
      clear o9 C9
      go_wp2
      exact bodyPost_ret (results_box rfl _ _ (w.heap.size + 1) vv rfl O9.out _ Try.underlying31 rfl (by rw [hlv]; kernel_rfl)) rfl ⟨by rw [← HVV.out], HB9.out⟩
    · rw [if_neg hlt]
      have hlv0 : (hangT ⟨L, root⟩ (k * 4 + 3) p).enc.length = 65 := tree_len (hangT_len (t := ⟨L, root⟩) hL (k * 4 + 3) p)
      have honev0 := tree_one (hangT ⟨L, root⟩ (k * 4 + 3) p)
      obtain ⟨vv, hvv⟩ : ∃ x, (hangT ⟨L, root⟩ (k * 4 + 3) p).enc = x := ⟨_, rfl⟩
      have hlv : vv.length = 65 := by rw [← hvv]; exact hlv0
      have hlb : vv.length = 65 := hlv
      have honev : vv.all (·.oneCell') = true := by rw [← hvv]; exact honev0
      have HVV := hid hvv
      clear hvv hlv0 honev0
      go_enter Try.func43, Try.ntmps43
      go_upto_region 1 with fail
      rw [HW1.out]
      go_wp2_with (refine wpList_store_cell rfl 3 _ _ rfl w.heap.size (k * 4 + 3) (encT L root) (.int .i64 p) (by exact B1.out) rfl rfl (by rw [hl]; omega) (by kernel_rfl) rfl rfl ?_)
      intro w5 o5 C5
      have BX := hid (show BoxF w5 w.heap.size vv by rw [← HVV.out, ← enc_hang L HL.out root (k * 4 + 3) (.inr ⟨k, hk16, .inr rfl⟩) p]; exact o5)
      have RB := hid (R1.out.chg C5 (by omega))
      have HB5 := hid (below_chg HB1.out C5 HB1.out.size (fun b hb => by omega))
      clear o5 C5
      go_wp2_with (first | (refine wpList_load_boxg rfl 31 _ rfl w.heap.size _ (by exact BX.out.1) rfl _ Try.underlying31 rfl (by rw [hlb]; kernel_rfl) ?_) | (refine wpList_store_box rfl 31 _ _ rfl (w.heap.size + 1) [.bool false, .int .i64 0, .int .i64 0, .int .i64 0, .bool false, .int .i64 0, .int .i64 0, .int .i64 0, .bool false, .int .i64 0, .int .i64 0, .int .i64 0, .bool false, .int .i64 0, .int .i64 0, .int .i64 0, .bool false, .int .i64 0, .int .i64 0, .int .i64 0, .bool false, .int .i64 0, .int .i64 0, .int .i64 0, .bool false, .int .i64 0, .int .i64 0, .int .i64 0, .bool false, .int .i64 0, .int .i64 0, .int .i64 0, .bool false, .int .i64 0, .int .i64 0, .int .i64 0, .bool false, .int .i64 0, .int .i64 0, .int .i64 0, .bool false, .int .i64 0, .int .i64 0, .int .i64 0, .bool false, .int .i64 0, .int .i64 0, .int .i64 0, .bool false, .int .i64 0, .int .i64 0, .int .i64 0, .bool false, .int .i64 0, .int .i64 0, .int .i64 0, .bool false, .int .i64 0, .int .i64 0, .int .i64 0, .bool false, .int .i64 0, .int .i64 0, .int .i64 0, .int .i64 0] vv (by exact RB.out) rfl rfl (by rw [hlv]; rfl) (by rw [hlv]; kernel_rfl) honev ?_))
      intro w9 o9 C9
      have O9 := hid o9
      have HB9 := hid (below_chg HB5.out C9 HB5.out.size (fun b hb => by omega))
      clear o9 C9
      go_wp2
      exact bodyPost_ret (results_box rfl _ _ (w.heap.size + 1) vv rfl O9.out _ Try.underlying31 rfl (by rw [hlv]; kernel_rfl)) rfl ⟨by rw [← HVV.out], HB9.out⟩
end Go.Proofs.Ytcjeafhejkppeaa
