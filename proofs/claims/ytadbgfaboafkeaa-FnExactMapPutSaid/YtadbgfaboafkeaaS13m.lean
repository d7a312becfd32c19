/- Chapter 13's model: MapPut. (printed by tools/mk_s13m.py) -/
import Derived.Test.YtadbgfaboafkeaaS13d
import Derived.Test.YtadbgfaboafkeaaF13m
import Derived.Test.YtadbgfaboafkeaaMid2
namespace Go.Proofs.Ytadbgfaboafkeaa
set_option maxRecDepth 100000
open Go.RowKit Go.Proofs Go.Own
open Go Go.BigFrame
set_option linter.unusedVariables false
set_option linter.unusedSimpArgs false
set_option maxHeartbeats 16000000 in
theorem spec_MapPut0 (c : ChainD) (hc : c.nodes_.length = 16) (key val : Int) (w : World) :
    Calls Try.prog 16 #[.agg c.enc.toArray, .int .i64 key, .int .i64 val] w fun e w' => e = .returned (.tuple #[.agg (putC c key val).1.enc.toArray, .int .i64 (putC c key val).2.1, .int .i64 (putC c key val).2.2]) ∧ Below w.heap.size w w' := by
  have hone := chain_one c
  have hl := chain_len hc
  have hl2 : c.enc.toArray.size = 65 := by rw [List.size_toArray, hl]
  have hln : (c.nodes_.flatMap Node.enc).length = 64 := by rw [nodes_len, hc]
  have HC := hid hc
  have HE := hid (show c.enc = [] ++ c.nodes_.flatMap Node.enc ++ [.int .i64 c.first_] from rfl)
  have H64 := hid (show c.enc[64]? = some (.int .i64 c.first_) by rw [HE.out, List.nil_append, List.getElem?_append_right (by omega), hln]; rfl)
  generalize hce : c.enc = ce at *
  obtain ⟨W1, hW1⟩ : ∃ X, (w.alloc (.cells ce.toArray 31)).alloc (.cells #[.bool false, .int .i64 0, .int .i64 0, .int .i64 0, .bool false, .int .i64 0, .int .i64 0, .int .i64 0, .bool false, .int .i64 0, .int .i64 0, .int .i64 0, .bool false, .int .i64 0, .int .i64 0, .int .i64 0, .bool false, .int .i64 0, .int .i64 0, .int .i64 0, .bool false, .int .i64 0, .int .i64 0, .int .i64 0, .bool false, .int .i64 0, .int .i64 0, .int .i64 0, .bool false, .int .i64 0, .int .i64 0, .int .i64 0, .bool false, .int .i64 0, .int .i64 0, .int .i64 0, .bool false, .int .i64 0, .int .i64 0, .int .i64 0, .bool false, .int .i64 0, .int .i64 0, .int .i64 0, .bool false, .int .i64 0, .int .i64 0, .int .i64 0, .bool false, .int .i64 0, .int .i64 0, .int .i64 0, .bool false, .int .i64 0, .int .i64 0, .int .i64 0, .bool false, .int .i64 0, .int .i64 0, .int .i64 0, .bool false, .int .i64 0, .int .i64 0, .int .i64 0, .int .i64 0] 31) = X := ⟨_, rfl⟩
  have hB1 : Below w.heap.size w W1 := by rw [← hW1]; exact ((Below.refl _ _).alloc (Nat.le_refl _) _).alloc (by simp) _
  have b0 : BoxF W1 w.heap.size ce := by
    rw [← hW1]
    exact (BoxF.alloc w ce.toArray 31).below ((Below.refl _ _).alloc (Nat.le_refl _) _)
  have R0 : Hid (BoxF W1 (w.heap.size + 1) [.bool false, .int .i64 0, .int .i64 0, .int .i64 0, .bool false, .int .i64 0, .int .i64 0, .int .i64 0, .bool false, .int .i64 0, .int .i64 0, .int .i64 0, .bool false, .int .i64 0, .int .i64 0, .int .i64 0, .bool false, .int .i64 0, .int .i64 0, .int .i64 0, .bool false, .int .i64 0, .int .i64 0, .int .i64 0, .bool false, .int .i64 0, .int .i64 0, .int .i64 0, .bool false, .int .i64 0, .int .i64 0, .int .i64 0, .bool false, .int .i64 0, .int .i64 0, .int .i64 0, .bool false, .int .i64 0, .int .i64 0, .int .i64 0, .bool false, .int .i64 0, .int .i64 0, .int .i64 0, .bool false, .int .i64 0, .int .i64 0, .int .i64 0, .bool false, .int .i64 0, .int .i64 0, .int .i64 0, .bool false, .int .i64 0, .int .i64 0, .int .i64 0, .bool false, .int .i64 0, .int .i64 0, .int .i64 0, .bool false, .int .i64 0, .int .i64 0, .int .i64 0, .int .i64 0]) := by
    rw [← hW1]
    have z := BoxF.alloc (w.alloc (.cells ce.toArray 31)) #[.bool false, .int .i64 0, .int .i64 0, .int .i64 0, .bool false, .int .i64 0, .int .i64 0, .int .i64 0, .bool false, .int .i64 0, .int .i64 0, .int .i64 0, .bool false, .int .i64 0, .int .i64 0, .int .i64 0, .bool false, .int .i64 0, .int .i64 0, .int .i64 0, .bool false, .int .i64 0, .int .i64 0, .int .i64 0, .bool false, .int .i64 0, .int .i64 0, .int .i64 0, .bool false, .int .i64 0, .int .i64 0, .int .i64 0, .bool false, .int .i64 0, .int .i64 0, .int .i64 0, .bool false, .int .i64 0, .int .i64 0, .int .i64 0, .bool false, .int .i64 0, .int .i64 0, .int .i64 0, .bool false, .int .i64 0, .int .i64 0, .int .i64 0, .bool false, .int .i64 0, .int .i64 0, .int .i64 0, .bool false, .int .i64 0, .int .i64 0, .int .i64 0, .bool false, .int .i64 0, .int .i64 0, .int .i64 0, .bool false, .int .i64 0, .int .i64 0, .int .i64 0, .int .i64 0] 31
    rw [show (w.alloc (.cells ce.toArray 31)).heap.size = w.heap.size + 1 by simp] at z
    exact hid z
  have B0 := hid b0
  have HW1 := hid hW1
  have HB1 := hid hB1
  have HCE := hid hce
  clear hW1 b0 hc hB1 hce
  have HCK := hid (show Calls Try.prog 10 #[.agg ce.toArray] W1 fun e w' => e = .returned (.bool (chainOk c)) ∧ Below W1.heap.size W1 w' by have z := spec_ChainOk0 c HC.out W1; rw [HCE.out] at z; exact z)
  have hw : ∀ v : World, chainOk c = true → Calls Try.prog 36 #[.agg ce.toArray, .int .i64 key] v fun e w' => e = .returned (.tuple #[.int .i64 (walkC c key).1, .int .i64 (walkC c key).2.1, .int .i64 (walkC c key).2.2.1, .bool (walkC c key).2.2.2]) ∧ Below v.heap.size v w' := by
    intro v hok; have z := spec_l13Walk0 c HC.out key hok v; rw [HCE.out] at z; exact z
  have HWK := hid hw
  clear hw
  have hz : ∀ w : World, (zeroValue 31).run Try.prog w = .ok (.agg #[.bool false, .int .i64 0, .int .i64 0, .int .i64 0, .bool false, .int .i64 0, .int .i64 0, .int .i64 0, .bool false, .int .i64 0, .int .i64 0, .int .i64 0, .bool false, .int .i64 0, .int .i64 0, .int .i64 0, .bool false, .int .i64 0, .int .i64 0, .int .i64 0, .bool false, .int .i64 0, .int .i64 0, .int .i64 0, .bool false, .int .i64 0, .int .i64 0, .int .i64 0, .bool false, .int .i64 0, .int .i64 0, .int .i64 0, .bool false, .int .i64 0, .int .i64 0, .int .i64 0, .bool false, .int .i64 0, .int .i64 0, .int .i64 0, .bool false, .int .i64 0, .int .i64 0, .int .i64 0, .bool false, .int .i64 0, .int .i64 0, .int .i64 0, .bool false, .int .i64 0, .int .i64 0, .int .i64 0, .bool false, .int .i64 0, .int .i64 0, .int .i64 0, .bool false, .int .i64 0, .int .i64 0, .int .i64 0, .bool false, .int .i64 0, .int .i64 0, .int .i64 0, .int .i64 0]) w := fun w => zero_run w (by kernel_rfl)
  go_enter Try.func16, Try.ntmps16
  go_wp2_with (refine wpList_load_box rfl 31 _ rfl w.heap.size ce (by first | (rw [HW1.out]; exact B0.out.1) | exact B1.out.1 | exact B3.out.1) rfl _ Try.underlying31 rfl (by rw [hl]; kernel_rfl) ?_)
  rw [HW1.out]
  refine HCK.out.mono ?_
  rintro e w2 ⟨rfl, b2⟩
  have B1 := hid (B0.out.below b2)
  have R1 := hid (R0.out.below b2)
  have HB2 := hid (HB1.out.trans (b2.mono HB1.out.size))
  clear b2
  cases hck : chainOk c with
  | false =>
    have Hr := hid (show putC c key val = (c, 0, 1) by simp [putC, hck])
    go_wp2_with (first | (refine wpList_load_box rfl 31 _ rfl w.heap.size ce (by first | exact B3.out.1 | exact B1.out.1) rfl _ Try.underlying31 rfl (by rw [hl]; kernel_rfl) ?_) | (refine wpList_store_box rfl 31 _ _ rfl (w.heap.size + 1) [.bool false, .int .i64 0, .int .i64 0, .int .i64 0, .bool false, .int .i64 0, .int .i64 0, .int .i64 0, .bool false, .int .i64 0, .int .i64 0, .int .i64 0, .bool false, .int .i64 0, .int .i64 0, .int .i64 0, .bool false, .int .i64 0, .int .i64 0, .int .i64 0, .bool false, .int .i64 0, .int .i64 0, .int .i64 0, .bool false, .int .i64 0, .int .i64 0, .int .i64 0, .bool false, .int .i64 0, .int .i64 0, .int .i64 0, .bool false, .int .i64 0, .int .i64 0, .int .i64 0, .bool false, .int .i64 0, .int .i64 0, .int .i64 0, .bool false, .int .i64 0, .int .i64 0, .int .i64 0, .bool false, .int .i64 0, .int .i64 0, .int .i64 0, .bool false, .int .i64 0, .int .i64 0, .int .i64 0, .bool false, .int .i64 0, .int .i64 0, .int .i64 0, .bool false, .int .i64 0, .int .i64 0, .int .i64 0, .bool false, .int .i64 0, .int .i64 0, .int .i64 0, .int .i64 0] ce (by first | exact R3.out | exact R1.out) rfl rfl (by rw [hl]; rfl) (by rw [hl]; kernel_rfl) hone ?_) | (go_at_call 29; refine (spec_l1ValueIs _ _ _ (by assumption)).mono ?_; rintro e w' ⟨rfl, rfl⟩))
    intro w9 o9 C9
    have O9 := hid o9
    have HB9 := hid (below_chg HB2.out C9 HB2.out.size (fun b hb => by omega))
    clear o9 C9
    go_wp2
    exact bodyPost_ret (results_box3 rfl _ _ (w.heap.size + 1) ce rfl O9.out _ Try.underlying31 rfl (by rw [hl]; kernel_rfl)) rfl ⟨by rw [Hr.out, HCE.out]; rfl, HB9.out⟩
  | true =>
  have HPL := hid (walkC_ok key hck)
  cases hv : isVal key with
  | false =>
    have Hr := hid (show putC c key val = (c, 0, 1) by simp [putC, hv])
    go_wp2_with (first | (refine wpList_load_box rfl 31 _ rfl w.heap.size ce (by first | exact B3.out.1 | exact B1.out.1) rfl _ Try.underlying31 rfl (by rw [hl]; kernel_rfl) ?_) | (refine wpList_store_box rfl 31 _ _ rfl (w.heap.size + 1) [.bool false, .int .i64 0, .int .i64 0, .int .i64 0, .bool false, .int .i64 0, .int .i64 0, .int .i64 0, .bool false, .int .i64 0, .int .i64 0, .int .i64 0, .bool false, .int .i64 0, .int .i64 0, .int .i64 0, .bool false, .int .i64 0, .int .i64 0, .int .i64 0, .bool false, .int .i64 0, .int .i64 0, .int .i64 0, .bool false, .int .i64 0, .int .i64 0, .int .i64 0, .bool false, .int .i64 0, .int .i64 0, .int .i64 0, .bool false, .int .i64 0, .int .i64 0, .int .i64 0, .bool false, .int .i64 0, .int .i64 0, .int .i64 0, .bool false, .int .i64 0, .int .i64 0, .int .i64 0, .bool false, .int .i64 0, .int .i64 0, .int .i64 0, .bool false, .int .i64 0, .int .i64 0, .int .i64 0, .bool false, .int .i64 0, .int .i64 0, .int .i64 0, .bool false, .int .i64 0, .int .i64 0, .int .i64 0, .bool false, .int .i64 0, .int .i64 0, .int .i64 0, .int .i64 0] ce (by first | exact R3.out | exact R1.out) rfl rfl (by rw [hl]; rfl) (by rw [hl]; kernel_rfl) hone ?_) | (go_at_call 29; refine (spec_l1ValueIs _ _ _ (by assumption)).mono ?_; rintro e w' ⟨rfl, rfl⟩))
    intro w9 o9 C9
    have O9 := hid o9
    have HB9 := hid (below_chg HB2.out C9 HB2.out.size (fun b hb => by omega))
    clear o9 C9
    go_wp2
    exact bodyPost_ret (results_box3 rfl _ _ (w.heap.size + 1) ce rfl O9.out _ Try.underlying31 rfl (by rw [hl]; kernel_rfl)) rfl ⟨by rw [Hr.out, HCE.out]; rfl, HB9.out⟩
  | true =>
  cases hv2 : isVal val with
  | false =>
    have Hr := hid (show putC c key val = (c, 0, 1) by simp [putC, hv2])
    go_wp2_with (first | (refine wpList_load_box rfl 31 _ rfl w.heap.size ce (by first | exact B3.out.1 | exact B1.out.1) rfl _ Try.underlying31 rfl (by rw [hl]; kernel_rfl) ?_) | (refine wpList_store_box rfl 31 _ _ rfl (w.heap.size + 1) [.bool false, .int .i64 0, .int .i64 0, .int .i64 0, .bool false, .int .i64 0, .int .i64 0, .int .i64 0, .bool false, .int .i64 0, .int .i64 0, .int .i64 0, .bool false, .int .i64 0, .int .i64 0, .int .i64 0, .bool false, .int .i64 0, .int .i64 0, .int .i64 0, .bool false, .int .i64 0, .int .i64 0, .int .i64 0, .bool false, .int .i64 0, .int .i64 0, .int .i64 0, .bool false, .int .i64 0, .int .i64 0, .int .i64 0, .bool false, .int .i64 0, .int .i64 0, .int .i64 0, .bool false, .int .i64 0, .int .i64 0, .int .i64 0, .bool false, .int .i64 0, .int .i64 0, .int .i64 0, .bool false, .int .i64 0, .int .i64 0, .int .i64 0, .bool false, .int .i64 0, .int .i64 0, .int .i64 0, .bool false, .int .i64 0, .int .i64 0, .int .i64 0, .bool false, .int .i64 0, .int .i64 0, .int .i64 0, .bool false, .int .i64 0, .int .i64 0, .int .i64 0, .int .i64 0] ce (by first | exact R3.out | exact R1.out) rfl rfl (by rw [hl]; rfl) (by rw [hl]; kernel_rfl) hone ?_) | (go_at_call 29; refine (spec_l1ValueIs _ _ _ (by assumption)).mono ?_; rintro e w' ⟨rfl, rfl⟩))
    intro w9 o9 C9
    have O9 := hid o9
    have HB9 := hid (below_chg HB2.out C9 HB2.out.size (fun b hb => by omega))
    clear o9 C9
    go_wp2
    exact bodyPost_ret (results_box3 rfl _ _ (w.heap.size + 1) ce rfl O9.out _ Try.underlying31 rfl (by rw [hl]; kernel_rfl)) rfl ⟨by rw [Hr.out, HCE.out]; rfl, HB9.out⟩
  | true =>
  have HG0 := hid (show putC c key val = putW c key val (walkC c key) by simp [putC, hck, hv, hv2])
  have HWK2 := hid (HWK.out w2 hck)
  go_wp2_with (first | (go_at_call 29; refine (spec_l1ValueIs _ _ _ (by assumption)).mono ?_; rintro e w' ⟨rfl, rfl⟩) | (refine wpList_load_box rfl 31 _ rfl w.heap.size ce (by first | exact B3.out.1 | exact B1.out.1) rfl _ Try.underlying31 rfl (by rw [hl]; kernel_rfl) ?_))
  refine HWK2.out.mono ?_
  rintro e w3 ⟨rfl, b3⟩
  have B3 := hid (B1.out.below b3)
  have R3 := hid (R1.out.below b3)
  have HB3 := hid (HB2.out.trans (b3.mono HB2.out.size))
  clear b3 B0 R0 B1 R1 HWK2 HWK HCK HB2
  generalize walkC c key = R at *
  obtain ⟨p, a, n, ok⟩ := R
  dsimp only at HG0 HPL ⊢
  cases ok with
  | false =>
    have Hr := hid (show putC c key val = (c, (n : Int), 2) by rw [HG0.out]; rfl)
    clear HG0 HPL
    go_wp2_with (first | (refine wpList_load_box rfl 31 _ rfl w.heap.size ce (by first | exact B3.out.1 | exact B1.out.1) rfl _ Try.underlying31 rfl (by rw [hl]; kernel_rfl) ?_) | (refine wpList_store_box rfl 31 _ _ rfl (w.heap.size + 1) [.bool false, .int .i64 0, .int .i64 0, .int .i64 0, .bool false, .int .i64 0, .int .i64 0, .int .i64 0, .bool false, .int .i64 0, .int .i64 0, .int .i64 0, .bool false, .int .i64 0, .int .i64 0, .int .i64 0, .bool false, .int .i64 0, .int .i64 0, .int .i64 0, .bool false, .int .i64 0, .int .i64 0, .int .i64 0, .bool false, .int .i64 0, .int .i64 0, .int .i64 0, .bool false, .int .i64 0, .int .i64 0, .int .i64 0, .bool false, .int .i64 0, .int .i64 0, .int .i64 0, .bool false, .int .i64 0, .int .i64 0, .int .i64 0, .bool false, .int .i64 0, .int .i64 0, .int .i64 0, .bool false, .int .i64 0, .int .i64 0, .int .i64 0, .bool false, .int .i64 0, .int .i64 0, .int .i64 0, .bool false, .int .i64 0, .int .i64 0, .int .i64 0, .bool false, .int .i64 0, .int .i64 0, .int .i64 0, .bool false, .int .i64 0, .int .i64 0, .int .i64 0, .int .i64 0] ce (by first | exact R3.out | exact R1.out) rfl rfl (by rw [hl]; rfl) (by rw [hl]; kernel_rfl) hone ?_) | (go_at_call 29; refine (spec_l1ValueIs _ _ _ (by assumption)).mono ?_; rintro e w' ⟨rfl, rfl⟩))
    intro w9 o9 C9
    have O9 := hid o9
    have HB9 := hid (below_chg HB3.out C9 HB3.out.size (fun b hb => by omega))
    clear o9 C9
    go_wp2
    exact bodyPost_ret (results_box3 rfl _ _ (w.heap.size + 1) ce rfl O9.out _ Try.underlying31 rfl (by rw [hl]; kernel_rfl)) rfl ⟨by rw [Hr.out, HCE.out]; rfl, HB9.out⟩
  | true =>
  have hn : n ≤ 10 := HPL.out.2.2
  have HPA := hid HPL.out.2.1
  rcases HPL.out.1 with h1 | h1
  · have hp1 : p = -1 := h1
    subst hp1
    have HG := hid (show putC c key val = if freeC c.nodes_ = -1 then (c, (n : Int), 3) else if a < 0 then (⟨c.nodes_.set (freeC c.nodes_).toNat ⟨true, key, val, -1⟩, freeC c.nodes_⟩, (n : Int), 0) else (⟨(c.nodes_.set (freeC c.nodes_).toNat ⟨true, key, val, -1⟩).set a.toNat { nd (c.nodes_.set (freeC c.nodes_).toNat ⟨true, key, val, -1⟩) a with next_ := freeC c.nodes_ }, c.first_⟩, (n : Int), 0) by rw [HG0.out]; rfl)
    clear HG0 HPL h1
    go_wp2
    go_loopw [13] (fun i wr => ∃ j : Nat, j ≤ 16 ∧ i = .int .i64 j ∧ Hid (freeFrom (c.nodes_.drop j) j = freeC c.nodes_) ∧ wr = w3) (fun i _ => 16 - (intOf i).toNat)
    case atStart => exact ⟨0, by omega, rfl, hid rfl, rfl⟩
    case round =>
      obtain ⟨f, hf, rfl, HF, hwr⟩ := hrel
      subst hwr
      by_cases hlt : f < 16
      · have hfL : f < c.nodes_.length := by rw [HC.out]; exact hlt
        have HF2 := HF.out
        rw [freeFrom_drop c.nodes_ f hfL] at HF2
        have u0 : wr.cell? ⟨w.heap.size, f * 4, none⟩ = some (.bool c.nodes_[f].used_) := by
          have z := boxA_cell (A := []) (Z := [.int .i64 c.first_]) Node.enc 4 (fun _ => rfl) (by rw [← HE.out]; exact B3.out) f hfL 0 (by omega)
          simpa [Node.enc] using z
        have hf0 : (0 : Int) ≤ (f : Int) := by omega
        have hfi : (f : Int) < 16 := by omega
        cases hu : c.nodes_[f].used_ with
        | true =>
          rw [hu] at u0 HF2
          rw [if_pos rfl] at HF2
          have HF3 := hid HF2
          clear HF2 HF hu
          go_wp2
          go_roundw
          case rel => exact ⟨f+1, by omega, by go_num, HF3, by trivial⟩
          case measure => simp [intOf]; omega
        | false =>
          rw [hu] at u0 HF2
          rw [if_neg (by simp)] at HF2
          have HF3 := hid HF2.symm
          clear HF2 HF hu
          have hf16 : ¬ (f : Int) = 16 := by omega
          have hG2 := HG.out
          rw [HF3.out, if_neg (by omega)] at hG2
          rcases HPA.out with ha | ha
          · subst ha
            have HG4 := hid (hG2.trans (if_pos (by omega)))
            clear hG2 HG
            go_wp2_with (first | (refine wpList_store_el Node.enc 4 (fun _ => rfl) rfl 28 _ _ rfl w.heap.size (f * 4) [] [.int .i64 c.first_] c.nodes_ f ⟨true, key, val, -1⟩ (by rw [← HE.out]; exact B3.out) hfL (by simp) rfl rfl (by kernel_rfl) rfl ?_))
            intro w6 o6 C6
            have R5 := hid (R3.out.chg C6 (by show ¬ (w.heap.size + 1 = w.heap.size); omega))
            have HB5 := hid (below_chg HB3.out C6 HB3.out.size (fun b hb => by omega))
            have B5 := hid (show BoxF w6 w.heap.size ([] ++ (c.nodes_.set f ⟨true, key, val, -1⟩).flatMap Node.enc ++ [.int .i64 c.first_]) from o6)
            have hnl : (([] ++ (c.nodes_.set f ⟨true, key, val, -1⟩).flatMap Node.enc ++ [.int .i64 c.first_] : List Value)).length = 65 := by simp only [List.length_append, List.length_nil, nodes_len, List.length_set, HC.out, List.length_cons]
            obtain ⟨c5, h5⟩ : ∃ Y : List Value, [] ++ (c.nodes_.set f ⟨true, key, val, -1⟩).flatMap Node.enc ++ [.int .i64 c.first_] = Y := ⟨_, rfl⟩
            rw [h5] at hnl B5
            have H5 := hid h5
            clear h5
            clear o6 C6
            go_wp2_with (first | (refine wpList_store_cell rfl 3 _ _ rfl w.heap.size 64 c5 (.int .i64 f) B5.out rfl rfl (by rw [hnl]; omega) (by kernel_rfl) rfl rfl ?_))
            intro w7 o7 C7
            have A6 := hid (show BoxF w7 w.heap.size (ChainD.enc ⟨c.nodes_.set f ⟨true, key, val, -1⟩, f⟩) by
              have z := o7
              rw [← H5.out, show ([] ++ (c.nodes_.set f ⟨true, key, val, -1⟩).flatMap Node.enc ++ [.int .i64 c.first_] : List Value).set 64 (.int .i64 f) = ChainD.enc ⟨c.nodes_.set f ⟨true, key, val, -1⟩, f⟩ by
                have h64 : ((c.nodes_.set f ⟨true, key, val, -1⟩).flatMap Node.enc).length = 64 := by rw [nodes_len, List.length_set, HC.out]
                rw [List.nil_append, List.set_append_right _ _ (by omega), h64]; rfl] at z
              exact z)
            have R6 := hid (R5.out.chg C7 (by show ¬ (w.heap.size + 1 = w.heap.size); omega))
            have HB6 := hid (below_chg HB5.out C7 HB5.out.size (fun b hb => by omega))
            clear o7 C7 B5 R5 HB5 hnl
            have hl9 := chain_len (c := ⟨c.nodes_.set f ⟨true, key, val, -1⟩, f⟩) (by show (List.set _ _ _).length = 16; simp [HC.out])
            have hone9 := chain_one ⟨c.nodes_.set f ⟨true, key, val, -1⟩, f⟩
            have HR := hid (show putC c key val = (⟨c.nodes_.set f ⟨true, key, val, -1⟩, f⟩, (n : Int), 0) from (by rw [HG4.out, Int.toNat_natCast]))
            obtain ⟨cf, hcf⟩ : ∃ Y, ChainD.enc ⟨c.nodes_.set f ⟨true, key, val, -1⟩, f⟩ = Y := ⟨_, rfl⟩
            rw [hcf] at A6 hl9 hone9
            have HCF := hid hcf
            clear hcf
            go_wp2_with (first | (refine wpList_load_box rfl 31 _ rfl w.heap.size cf A6.out.1 rfl _ Try.underlying31 rfl (by rw [hl9]; kernel_rfl) ?_) | (refine wpList_store_box rfl 31 _ _ rfl (w.heap.size + 1) [.bool false, .int .i64 0, .int .i64 0, .int .i64 0, .bool false, .int .i64 0, .int .i64 0, .int .i64 0, .bool false, .int .i64 0, .int .i64 0, .int .i64 0, .bool false, .int .i64 0, .int .i64 0, .int .i64 0, .bool false, .int .i64 0, .int .i64 0, .int .i64 0, .bool false, .int .i64 0, .int .i64 0, .int .i64 0, .bool false, .int .i64 0, .int .i64 0, .int .i64 0, .bool false, .int .i64 0, .int .i64 0, .int .i64 0, .bool false, .int .i64 0, .int .i64 0, .int .i64 0, .bool false, .int .i64 0, .int .i64 0, .int .i64 0, .bool false, .int .i64 0, .int .i64 0, .int .i64 0, .bool false, .int .i64 0, .int .i64 0, .int .i64 0, .bool false, .int .i64 0, .int .i64 0, .int .i64 0, .bool false, .int .i64 0, .int .i64 0, .int .i64 0, .bool false, .int .i64 0, .int .i64 0, .int .i64 0, .bool false, .int .i64 0, .int .i64 0, .int .i64 0, .int .i64 0] cf R6.out rfl rfl (by rw [hl9]; rfl) (by rw [hl9]; kernel_rfl) hone9 ?_))
            intro w9 o9 C9
            have O9 := hid o9
            have HB9 := hid (below_chg HB6.out C9 HB6.out.size (fun b hb => by omega))
            clear o9 C9
            go_wp2
            exact bodyPost_ret (results_box3 rfl _ _ (w.heap.size + 1) cf rfl O9.out _ Try.underlying31 rfl (by rw [hl9]; kernel_rfl)) rfl ⟨by rw [HR.out, HCF.out]; rfl, HB9.out⟩
          · obtain ⟨j, rfl, hj16⟩ : ∃ j : Nat, a = (j : Int) ∧ j < 16 := ⟨a.toNat, by omega, by omega⟩
            clear ha
            have hjL : j < (c.nodes_.set f ⟨true, key, val, -1⟩).length := by rw [List.length_set, HC.out]; exact hj16
            have HJ := hid (nd_eq (c.nodes_.set f ⟨true, key, val, -1⟩) (j : Int) (by rw [Int.toNat_natCast]; exact hjL))
            simp only [Int.toNat_natCast] at HJ
            have hj0 : (0 : Int) ≤ (j : Int) := by omega
            have hji : (j : Int) < 16 := by omega
            have hnj : ¬ (j : Int) < 0 := by omega
            have HG4 := hG2.trans (if_neg hnj)
            simp only [Int.toNat_natCast] at HG4
            rw [HJ.out] at HG4
            have HG4 := hid HG4
            clear hG2 HG
            go_wp2_with (first | (refine wpList_store_el Node.enc 4 (fun _ => rfl) rfl 28 _ _ rfl w.heap.size (f * 4) [] [.int .i64 c.first_] c.nodes_ f ⟨true, key, val, -1⟩ (by rw [← HE.out]; exact B3.out) hfL (by simp) rfl rfl (by kernel_rfl) rfl ?_))
            intro w6 o6 C6
            have R5 := hid (R3.out.chg C6 (by show ¬ (w.heap.size + 1 = w.heap.size); omega))
            have HB5 := hid (below_chg HB3.out C6 HB3.out.size (fun b hb => by omega))
            have B5 := hid (show BoxF w6 w.heap.size ([] ++ (c.nodes_.set f ⟨true, key, val, -1⟩).flatMap Node.enc ++ [.int .i64 c.first_]) from o6)
            have hnl : (([] ++ (c.nodes_.set f ⟨true, key, val, -1⟩).flatMap Node.enc ++ [.int .i64 c.first_] : List Value)).length = 65 := by simp only [List.length_append, List.length_nil, nodes_len, List.length_set, HC.out, List.length_cons]
            obtain ⟨c5, h5⟩ : ∃ Y : List Value, [] ++ (c.nodes_.set f ⟨true, key, val, -1⟩).flatMap Node.enc ++ [.int .i64 c.first_] = Y := ⟨_, rfl⟩
            rw [h5] at hnl B5
            have H5 := hid h5
            clear h5
            clear o6 C6
            go_wp2_with (first | (refine wpList_store_cell rfl 3 _ _ rfl w.heap.size (j * 4 + 3) c5 (.int .i64 f) B5.out rfl rfl (by rw [hnl]; omega) (by kernel_rfl) rfl rfl ?_))
            intro w7 o7 C7
            have A6 := hid (show BoxF w7 w.heap.size (ChainD.enc ⟨(c.nodes_.set f ⟨true, key, val, -1⟩).set j { (c.nodes_.set f ⟨true, key, val, -1⟩)[j] with next_ := (f : Int) }, c.first_⟩) by
              have z := o7
              rw [← H5.out, show ([] ++ (c.nodes_.set f ⟨true, key, val, -1⟩).flatMap Node.enc ++ [.int .i64 c.first_] : List Value).set (j * 4 + 3) (.int .i64 f) = ChainD.enc ⟨(c.nodes_.set f ⟨true, key, val, -1⟩).set j { (c.nodes_.set f ⟨true, key, val, -1⟩)[j] with next_ := (f : Int) }, c.first_⟩ by
                have h64 : ((c.nodes_.set f ⟨true, key, val, -1⟩).flatMap Node.enc).length = 64 := by rw [nodes_len, List.length_set, HC.out]
                rw [List.nil_append, List.set_append_left _ _ (by omega), set_next (c.nodes_.set f ⟨true, key, val, -1⟩) j hjL (f : Int)]; rfl] at z
              exact z)
            have R6 := hid (R5.out.chg C7 (by show ¬ (w.heap.size + 1 = w.heap.size); omega))
            have HB6 := hid (below_chg HB5.out C7 HB5.out.size (fun b hb => by omega))
            clear o7 C7 B5 R5 HB5 hnl
            have hl9 := chain_len (c := ⟨(c.nodes_.set f ⟨true, key, val, -1⟩).set j { (c.nodes_.set f ⟨true, key, val, -1⟩)[j] with next_ := (f : Int) }, c.first_⟩) (by show (List.set _ _ _).length = 16; simp [HC.out])
            have hone9 := chain_one ⟨(c.nodes_.set f ⟨true, key, val, -1⟩).set j { (c.nodes_.set f ⟨true, key, val, -1⟩)[j] with next_ := (f : Int) }, c.first_⟩
            have HR := hid (show putC c key val = (⟨(c.nodes_.set f ⟨true, key, val, -1⟩).set j { (c.nodes_.set f ⟨true, key, val, -1⟩)[j] with next_ := (f : Int) }, c.first_⟩, (n : Int), 0) from HG4.out)
            obtain ⟨cf, hcf⟩ : ∃ Y, ChainD.enc ⟨(c.nodes_.set f ⟨true, key, val, -1⟩).set j { (c.nodes_.set f ⟨true, key, val, -1⟩)[j] with next_ := (f : Int) }, c.first_⟩ = Y := ⟨_, rfl⟩
            rw [hcf] at A6 hl9 hone9
            have HCF := hid hcf
            clear hcf
            go_wp2_with (first | (refine wpList_load_box rfl 31 _ rfl w.heap.size cf A6.out.1 rfl _ Try.underlying31 rfl (by rw [hl9]; kernel_rfl) ?_) | (refine wpList_store_box rfl 31 _ _ rfl (w.heap.size + 1) [.bool false, .int .i64 0, .int .i64 0, .int .i64 0, .bool false, .int .i64 0, .int .i64 0, .int .i64 0, .bool false, .int .i64 0, .int .i64 0, .int .i64 0, .bool false, .int .i64 0, .int .i64 0, .int .i64 0, .bool false, .int .i64 0, .int .i64 0, .int .i64 0, .bool false, .int .i64 0, .int .i64 0, .int .i64 0, .bool false, .int .i64 0, .int .i64 0, .int .i64 0, .bool false, .int .i64 0, .int .i64 0, .int .i64 0, .bool false, .int .i64 0, .int .i64 0, .int .i64 0, .bool false, .int .i64 0, .int .i64 0, .int .i64 0, .bool false, .int .i64 0, .int .i64 0, .int .i64 0, .bool false, .int .i64 0, .int .i64 0, .int .i64 0, .bool false, .int .i64 0, .int .i64 0, .int .i64 0, .bool false, .int .i64 0, .int .i64 0, .int .i64 0, .bool false, .int .i64 0, .int .i64 0, .int .i64 0, .bool false, .int .i64 0, .int .i64 0, .int .i64 0, .int .i64 0] cf R6.out rfl rfl (by rw [hl9]; rfl) (by rw [hl9]; kernel_rfl) hone9 ?_))
            intro w9 o9 C9
            have O9 := hid o9
            have HB9 := hid (below_chg HB6.out C9 HB6.out.size (fun b hb => by omega))
            clear o9 C9
            go_wp2
            exact bodyPost_ret (results_box3 rfl _ _ (w.heap.size + 1) cf rfl O9.out _ Try.underlying31 rfl (by rw [hl9]; kernel_rfl)) rfl ⟨by rw [HR.out, HCF.out]; rfl, HB9.out⟩
      · obtain rfl : f = 16 := by omega
        have HF3 := hid (show freeC c.nodes_ = -1 by rw [← HF.out, List.drop_of_length_le (by rw [HC.out]; exact Nat.le_refl _)]; rfl)
        have Hr := hid (show putC c key val = (c, (n : Int), 3) by rw [HG.out, if_pos HF3.out])
        clear HF HG
        go_wp2_with (first | (refine wpList_load_box rfl 31 _ rfl w.heap.size ce (by first | exact B3.out.1 | exact B1.out.1) rfl _ Try.underlying31 rfl (by rw [hl]; kernel_rfl) ?_) | (refine wpList_store_box rfl 31 _ _ rfl (w.heap.size + 1) [.bool false, .int .i64 0, .int .i64 0, .int .i64 0, .bool false, .int .i64 0, .int .i64 0, .int .i64 0, .bool false, .int .i64 0, .int .i64 0, .int .i64 0, .bool false, .int .i64 0, .int .i64 0, .int .i64 0, .bool false, .int .i64 0, .int .i64 0, .int .i64 0, .bool false, .int .i64 0, .int .i64 0, .int .i64 0, .bool false, .int .i64 0, .int .i64 0, .int .i64 0, .bool false, .int .i64 0, .int .i64 0, .int .i64 0, .bool false, .int .i64 0, .int .i64 0, .int .i64 0, .bool false, .int .i64 0, .int .i64 0, .int .i64 0, .bool false, .int .i64 0, .int .i64 0, .int .i64 0, .bool false, .int .i64 0, .int .i64 0, .int .i64 0, .bool false, .int .i64 0, .int .i64 0, .int .i64 0, .bool false, .int .i64 0, .int .i64 0, .int .i64 0, .bool false, .int .i64 0, .int .i64 0, .int .i64 0, .bool false, .int .i64 0, .int .i64 0, .int .i64 0, .int .i64 0] ce (by first | exact R3.out | exact R1.out) rfl rfl (by rw [hl]; rfl) (by rw [hl]; kernel_rfl) hone ?_) | (go_at_call 29; refine (spec_l1ValueIs _ _ _ (by assumption)).mono ?_; rintro e w' ⟨rfl, rfl⟩))
        intro w9 o9 C9
        have O9 := hid o9
        have HB9 := hid (below_chg HB3.out C9 HB3.out.size (fun b hb => by omega))
        clear o9 C9
        go_wp2
        exact bodyPost_ret (results_box3 rfl _ _ (w.heap.size + 1) ce rfl O9.out _ Try.underlying31 rfl (by rw [hl]; kernel_rfl)) rfl ⟨by rw [Hr.out, HCE.out]; rfl, HB9.out⟩
  · obtain ⟨k, rfl, hk16⟩ : ∃ k : Nat, p = (k : Int) ∧ k < 16 := ⟨p.toNat, by omega, by omega⟩
    clear h1 HPL
    have hnk : ¬ (k : Int) < 0 := by omega
    have hkL : k < c.nodes_.length := by rw [HC.out]; exact hk16
    have HK := hid (nd_eq c.nodes_ (k : Int) (by rw [Int.toNat_natCast]; exact hkL))
    simp only [Int.toNat_natCast] at HK
    have c1 : w3.cell? ⟨w.heap.size, k * 4 + 1, none⟩ = some (.int .i64 c.nodes_[k].key_) := by
      have z := boxA_cell (A := []) (Z := [.int .i64 c.first_]) Node.enc 4 (fun _ => rfl) (by rw [← HE.out]; exact B3.out) k hkL 1 (by omega)
      simpa [Node.enc] using z
    have hk0 : (0 : Int) ≤ (k : Int) := by omega
    have hki : (k : Int) < 16 := by omega
    have HSV := hid (set_value c.nodes_ k hkL val)
    obtain ⟨X, hX⟩ : ∃ X, c.nodes_[k] = X := ⟨_, rfl⟩
    rw [hX] at c1 HK HSV
    clear hX
    obtain ⟨xu, xk, xv, xn⟩ := X
    dsimp only at c1
    by_cases hx : xk = key
    · have HR0 := hid (show putC c key val = (⟨c.nodes_.set k ⟨xu, xk, val, xn⟩, c.first_⟩, (n : Int), 0) by
        rw [HG0.out]; unfold putW; dsimp only
        rw [if_pos rfl, if_neg (by rw [HK.out]; rintro (h | h); omega; exact h hx), HK.out, Int.toNat_natCast])
      clear HG0
      go_wp2_with (first | (refine wpList_store_cell rfl 3 _ _ rfl w.heap.size (k * 4 + 2) ce (.int .i64 val) B3.out rfl rfl (by rw [hl]; omega) (by kernel_rfl) rfl rfl ?_))
      intro w7 o7 C7
      have A6 := hid (show BoxF w7 w.heap.size (ChainD.enc ⟨c.nodes_.set k ⟨xu, xk, val, xn⟩, c.first_⟩) by
        have z := o7
        rw [show ce.set (k * 4 + 2) (.int .i64 val) = ChainD.enc ⟨c.nodes_.set k ⟨xu, xk, val, xn⟩, c.first_⟩ by
          rw [HE.out, List.nil_append, List.set_append_left _ _ (by rw [hln]; omega), HSV.out]; rfl] at z
        exact z)
      have R6 := hid (R3.out.chg C7 (by show ¬ (w.heap.size + 1 = w.heap.size); omega))
      have HB6 := hid (below_chg HB3.out C7 HB3.out.size (fun b hb => by omega))
      clear o7 C7
      have hl9 := chain_len (c := ⟨c.nodes_.set k ⟨xu, xk, val, xn⟩, c.first_⟩) (by show (List.set _ _ _).length = 16; simp [HC.out])
      have hone9 := chain_one ⟨c.nodes_.set k ⟨xu, xk, val, xn⟩, c.first_⟩
      have HR := hid (show putC c key val = (⟨c.nodes_.set k ⟨xu, xk, val, xn⟩, c.first_⟩, (n : Int), 0) from HR0.out)
      obtain ⟨cf, hcf⟩ : ∃ Y, ChainD.enc ⟨c.nodes_.set k ⟨xu, xk, val, xn⟩, c.first_⟩ = Y := ⟨_, rfl⟩
      rw [hcf] at A6 hl9 hone9
      have HCF := hid hcf
      clear hcf
      go_wp2_with (first | (refine wpList_load_box rfl 31 _ rfl w.heap.size cf A6.out.1 rfl _ Try.underlying31 rfl (by rw [hl9]; kernel_rfl) ?_) | (refine wpList_store_box rfl 31 _ _ rfl (w.heap.size + 1) [.bool false, .int .i64 0, .int .i64 0, .int .i64 0, .bool false, .int .i64 0, .int .i64 0, .int .i64 0, .bool false, .int .i64 0, .int .i64 0, .int .i64 0, .bool false, .int .i64 0, .int .i64 0, .int .i64 0, .bool false, .int .i64 0, .int .i64 0, .int .i64 0, .bool false, .int .i64 0, .int .i64 0, .int .i64 0, .bool false, .int .i64 0, .int .i64 0, .int .i64 0, .bool false, .int .i64 0, .int .i64 0, .int .i64 0, .bool false, .int .i64 0, .int .i64 0, .int .i64 0, .bool false, .int .i64 0, .int .i64 0, .int .i64 0, .bool false, .int .i64 0, .int .i64 0, .int .i64 0, .bool false, .int .i64 0, .int .i64 0, .int .i64 0, .bool false, .int .i64 0, .int .i64 0, .int .i64 0, .bool false, .int .i64 0, .int .i64 0, .int .i64 0, .bool false, .int .i64 0, .int .i64 0, .int .i64 0, .bool false, .int .i64 0, .int .i64 0, .int .i64 0, .int .i64 0] cf R6.out rfl rfl (by rw [hl9]; rfl) (by rw [hl9]; kernel_rfl) hone9 ?_))
      intro w9 o9 C9
      have O9 := hid o9
      have HB9 := hid (below_chg HB6.out C9 HB6.out.size (fun b hb => by omega))
      clear o9 C9
      go_wp2
      exact bodyPost_ret (results_box3 rfl _ _ (w.heap.size + 1) cf rfl O9.out _ Try.underlying31 rfl (by rw [hl9]; kernel_rfl)) rfl ⟨by rw [HR.out, HCF.out]; rfl, HB9.out⟩
    · have HG := hid (show putC c key val = if freeC c.nodes_ = -1 then (c, (n : Int), 3) else if a < 0 then (⟨c.nodes_.set (freeC c.nodes_).toNat ⟨true, key, val, k⟩, freeC c.nodes_⟩, (n : Int), 0) else (⟨(c.nodes_.set (freeC c.nodes_).toNat ⟨true, key, val, k⟩).set a.toNat { nd (c.nodes_.set (freeC c.nodes_).toNat ⟨true, key, val, k⟩) a with next_ := freeC c.nodes_ }, c.first_⟩, (n : Int), 0) by
        rw [HG0.out]; unfold putW; dsimp only
        rw [if_pos rfl, if_pos (.inr (by rw [HK.out]; exact hx))])
      clear HG0
      go_wp2
      go_loopw [13] (fun i wr => ∃ j : Nat, j ≤ 16 ∧ i = .int .i64 j ∧ Hid (freeFrom (c.nodes_.drop j) j = freeC c.nodes_) ∧ wr = w3) (fun i _ => 16 - (intOf i).toNat)
      case atStart => exact ⟨0, by omega, rfl, hid rfl, rfl⟩
      case round =>
        obtain ⟨f, hf, rfl, HF, hwr⟩ := hrel
        subst hwr
        by_cases hlt : f < 16
        · have hfL : f < c.nodes_.length := by rw [HC.out]; exact hlt
          have HF2 := HF.out
          rw [freeFrom_drop c.nodes_ f hfL] at HF2
          have u0 : wr.cell? ⟨w.heap.size, f * 4, none⟩ = some (.bool c.nodes_[f].used_) := by
            have z := boxA_cell (A := []) (Z := [.int .i64 c.first_]) Node.enc 4 (fun _ => rfl) (by rw [← HE.out]; exact B3.out) f hfL 0 (by omega)
            simpa [Node.enc] using z
          have hf0 : (0 : Int) ≤ (f : Int) := by omega
          have hfi : (f : Int) < 16 := by omega
          cases hu : c.nodes_[f].used_ with
          | true =>
            rw [hu] at u0 HF2
            rw [if_pos rfl] at HF2
            have HF3 := hid HF2
            clear HF2 HF hu
            go_wp2
            go_roundw
            case rel => exact ⟨f+1, by omega, by go_num, HF3, by trivial⟩
            case measure => simp [intOf]; omega
          | false =>
            rw [hu] at u0 HF2
            rw [if_neg (by simp)] at HF2
            have HF3 := hid HF2.symm
            clear HF2 HF hu
            have hf16 : ¬ (f : Int) = 16 := by omega
            have hG2 := HG.out
            rw [HF3.out, if_neg (by omega)] at hG2
            rcases HPA.out with ha | ha
            · subst ha
              have HG4 := hid (hG2.trans (if_pos (by omega)))
              clear hG2 HG
              go_wp2_with (first | (refine wpList_store_el Node.enc 4 (fun _ => rfl) rfl 28 _ _ rfl w.heap.size (f * 4) [] [.int .i64 c.first_] c.nodes_ f ⟨true, key, val, k⟩ (by rw [← HE.out]; exact B3.out) hfL (by simp) rfl rfl (by kernel_rfl) rfl ?_))
              intro w6 o6 C6
              have R5 := hid (R3.out.chg C6 (by show ¬ (w.heap.size + 1 = w.heap.size); omega))
              have HB5 := hid (below_chg HB3.out C6 HB3.out.size (fun b hb => by omega))
              have B5 := hid (show BoxF w6 w.heap.size ([] ++ (c.nodes_.set f ⟨true, key, val, k⟩).flatMap Node.enc ++ [.int .i64 c.first_]) from o6)
              have hnl : (([] ++ (c.nodes_.set f ⟨true, key, val, k⟩).flatMap Node.enc ++ [.int .i64 c.first_] : List Value)).length = 65 := by simp only [List.length_append, List.length_nil, nodes_len, List.length_set, HC.out, List.length_cons]
              obtain ⟨c5, h5⟩ : ∃ Y : List Value, [] ++ (c.nodes_.set f ⟨true, key, val, k⟩).flatMap Node.enc ++ [.int .i64 c.first_] = Y := ⟨_, rfl⟩
              rw [h5] at hnl B5
              have H5 := hid h5
              clear h5
              clear o6 C6
              go_wp2_with (first | (refine wpList_store_cell rfl 3 _ _ rfl w.heap.size 64 c5 (.int .i64 f) B5.out rfl rfl (by rw [hnl]; omega) (by kernel_rfl) rfl rfl ?_))
              intro w7 o7 C7
              have A6 := hid (show BoxF w7 w.heap.size (ChainD.enc ⟨c.nodes_.set f ⟨true, key, val, k⟩, f⟩) by
                have z := o7
                rw [← H5.out, show ([] ++ (c.nodes_.set f ⟨true, key, val, k⟩).flatMap Node.enc ++ [.int .i64 c.first_] : List Value).set 64 (.int .i64 f) = ChainD.enc ⟨c.nodes_.set f ⟨true, key, val, k⟩, f⟩ by
                  have h64 : ((c.nodes_.set f ⟨true, key, val, k⟩).flatMap Node.enc).length = 64 := by rw [nodes_len, List.length_set, HC.out]
                  rw [List.nil_append, List.set_append_right _ _ (by omega), h64]; rfl] at z
                exact z)
              have R6 := hid (R5.out.chg C7 (by show ¬ (w.heap.size + 1 = w.heap.size); omega))
              have HB6 := hid (below_chg HB5.out C7 HB5.out.size (fun b hb => by omega))
              clear o7 C7 B5 R5 HB5 hnl
              have hl9 := chain_len (c := ⟨c.nodes_.set f ⟨true, key, val, k⟩, f⟩) (by show (List.set _ _ _).length = 16; simp [HC.out])
              have hone9 := chain_one ⟨c.nodes_.set f ⟨true, key, val, k⟩, f⟩
              have HR := hid (show putC c key val = (⟨c.nodes_.set f ⟨true, key, val, k⟩, f⟩, (n : Int), 0) from (by rw [HG4.out, Int.toNat_natCast]))
              obtain ⟨cf, hcf⟩ : ∃ Y, ChainD.enc ⟨c.nodes_.set f ⟨true, key, val, k⟩, f⟩ = Y := ⟨_, rfl⟩
              rw [hcf] at A6 hl9 hone9
              have HCF := hid hcf
              clear hcf
              go_wp2_with (first | (refine wpList_load_box rfl 31 _ rfl w.heap.size cf A6.out.1 rfl _ Try.underlying31 rfl (by rw [hl9]; kernel_rfl) ?_) | (refine wpList_store_box rfl 31 _ _ rfl (w.heap.size + 1) [.bool false, .int .i64 0, .int .i64 0, .int .i64 0, .bool false, .int .i64 0, .int .i64 0, .int .i64 0, .bool false, .int .i64 0, .int .i64 0, .int .i64 0, .bool false, .int .i64 0, .int .i64 0, .int .i64 0, .bool false, .int .i64 0, .int .i64 0, .int .i64 0, .bool false, .int .i64 0, .int .i64 0, .int .i64 0, .bool false, .int .i64 0, .int .i64 0, .int .i64 0, .bool false, .int .i64 0, .int .i64 0, .int .i64 0, .bool false, .int .i64 0, .int .i64 0, .int .i64 0, .bool false, .int .i64 0, .int .i64 0, .int .i64 0, .bool false, .int .i64 0, .int .i64 0, .int .i64 0, .bool false, .int .i64 0, .int .i64 0, .int .i64 0, .bool false, .int .i64 0, .int .i64 0, .int .i64 0, .bool false, .int .i64 0, .int .i64 0, .int .i64 0, .bool false, .int .i64 0, .int .i64 0, .int .i64 0, .bool false, .int .i64 0, .int .i64 0, .int .i64 0, .int .i64 0] cf R6.out rfl rfl (by rw [hl9]; rfl) (by rw [hl9]; kernel_rfl) hone9 ?_))
              intro w9 o9 C9
              have O9 := hid o9
              have HB9 := hid (below_chg HB6.out C9 HB6.out.size (fun b hb => by omega))
              clear o9 C9
              go_wp2
              exact bodyPost_ret (results_box3 rfl _ _ (w.heap.size + 1) cf rfl O9.out _ Try.underlying31 rfl (by rw [hl9]; kernel_rfl)) rfl ⟨by rw [HR.out, HCF.out]; rfl, HB9.out⟩
            · obtain ⟨j, rfl, hj16⟩ : ∃ j : Nat, a = (j : Int) ∧ j < 16 := ⟨a.toNat, by omega, by omega⟩
              clear ha
              have hjL : j < (c.nodes_.set f ⟨true, key, val, k⟩).length := by rw [List.length_set, HC.out]; exact hj16
              have HJ := hid (nd_eq (c.nodes_.set f ⟨true, key, val, k⟩) (j : Int) (by rw [Int.toNat_natCast]; exact hjL))
              simp only [Int.toNat_natCast] at HJ
              have hj0 : (0 : Int) ≤ (j : Int) := by omega
              have hji : (j : Int) < 16 := by omega
              have hnj : ¬ (j : Int) < 0 := by omega
              have HG4 := hG2.trans (if_neg hnj)
              simp only [Int.toNat_natCast] at HG4
              rw [HJ.out] at HG4
              have HG4 := hid HG4
              clear hG2 HG
              go_wp2_with (first | (refine wpList_store_el Node.enc 4 (fun _ => rfl) rfl 28 _ _ rfl w.heap.size (f * 4) [] [.int .i64 c.first_] c.nodes_ f ⟨true, key, val, k⟩ (by rw [← HE.out]; exact B3.out) hfL (by simp) rfl rfl (by kernel_rfl) rfl ?_))
              intro w6 o6 C6
              have R5 := hid (R3.out.chg C6 (by show ¬ (w.heap.size + 1 = w.heap.size); omega))
              have HB5 := hid (below_chg HB3.out C6 HB3.out.size (fun b hb => by omega))
              have B5 := hid (show BoxF w6 w.heap.size ([] ++ (c.nodes_.set f ⟨true, key, val, k⟩).flatMap Node.enc ++ [.int .i64 c.first_]) from o6)
              have hnl : (([] ++ (c.nodes_.set f ⟨true, key, val, k⟩).flatMap Node.enc ++ [.int .i64 c.first_] : List Value)).length = 65 := by simp only [List.length_append, List.length_nil, nodes_len, List.length_set, HC.out, List.length_cons]
              obtain ⟨c5, h5⟩ : ∃ Y : List Value, [] ++ (c.nodes_.set f ⟨true, key, val, k⟩).flatMap Node.enc ++ [.int .i64 c.first_] = Y := ⟨_, rfl⟩
              rw [h5] at hnl B5
              have H5 := hid h5
              clear h5
              clear o6 C6
              go_wp2_with (first | (refine wpList_store_cell rfl 3 _ _ rfl w.heap.size (j * 4 + 3) c5 (.int .i64 f) B5.out rfl rfl (by rw [hnl]; omega) (by kernel_rfl) rfl rfl ?_))
              intro w7 o7 C7
              have A6 := hid (show BoxF w7 w.heap.size (ChainD.enc ⟨(c.nodes_.set f ⟨true, key, val, k⟩).set j { (c.nodes_.set f ⟨true, key, val, k⟩)[j] with next_ := (f : Int) }, c.first_⟩) by
                have z := o7
                rw [← H5.out, show ([] ++ (c.nodes_.set f ⟨true, key, val, k⟩).flatMap Node.enc ++ [.int .i64 c.first_] : List Value).set (j * 4 + 3) (.int .i64 f) = ChainD.enc ⟨(c.nodes_.set f ⟨true, key, val, k⟩).set j { (c.nodes_.set f ⟨true, key, val, k⟩)[j] with next_ := (f : Int) }, c.first_⟩ by
                  have h64 : ((c.nodes_.set f ⟨true, key, val, k⟩).flatMap Node.enc).length = 64 := by rw [nodes_len, List.length_set, HC.out]
                  rw [List.nil_append, List.set_append_left _ _ (by omega), set_next (c.nodes_.set f ⟨true, key, val, k⟩) j hjL (f : Int)]; rfl] at z
                exact z)
              have R6 := hid (R5.out.chg C7 (by show ¬ (w.heap.size + 1 = w.heap.size); omega))
              have HB6 := hid (below_chg HB5.out C7 HB5.out.size (fun b hb => by omega))
              clear o7 C7 B5 R5 HB5 hnl
              have hl9 := chain_len (c := ⟨(c.nodes_.set f ⟨true, key, val, k⟩).set j { (c.nodes_.set f ⟨true, key, val, k⟩)[j] with next_ := (f : Int) }, c.first_⟩) (by show (List.set _ _ _).length = 16; simp [HC.out])
              have hone9 := chain_one ⟨(c.nodes_.set f ⟨true, key, val, k⟩).set j { (c.nodes_.set f ⟨true, key, val, k⟩)[j] with next_ := (f : Int) }, c.first_⟩
              have HR := hid (show putC c key val = (⟨(c.nodes_.set f ⟨true, key, val, k⟩).set j { (c.nodes_.set f ⟨true, key, val, k⟩)[j] with next_ := (f : Int) }, c.first_⟩, (n : Int), 0) from HG4.out)
              obtain ⟨cf, hcf⟩ : ∃ Y, ChainD.enc ⟨(c.nodes_.set f ⟨true, key, val, k⟩).set j { (c.nodes_.set f ⟨true, key, val, k⟩)[j] with next_ := (f : Int) }, c.first_⟩ = Y := ⟨_, rfl⟩
              rw [hcf] at A6 hl9 hone9
              have HCF := hid hcf
              clear hcf
              go_wp2_with (first | (refine wpList_load_box rfl 31 _ rfl w.heap.size cf A6.out.1 rfl _ Try.underlying31 rfl (by rw [hl9]; kernel_rfl) ?_) | (refine wpList_store_box rfl 31 _ _ rfl (w.heap.size + 1) [.bool false, .int .i64 0, .int .i64 0, .int .i64 0, .bool false, .int .i64 0, .int .i64 0, .int .i64 0, .bool false, .int .i64 0, .int .i64 0, .int .i64 0, .bool false, .int .i64 0, .int .i64 0, .int .i64 0, .bool false, .int .i64 0, .int .i64 0, .int .i64 0, .bool false, .int .i64 0, .int .i64 0, .int .i64 0, .bool false, .int .i64 0, .int .i64 0, .int .i64 0, .bool false, .int .i64 0, .int .i64 0, .int .i64 0, .bool false, .int .i64 0, .int .i64 0, .int .i64 0, .bool false, .int .i64 0, .int .i64 0, .int .i64 0, .bool false, .int .i64 0, .int .i64 0, .int .i64 0, .bool false, .int .i64 0, .int .i64 0, .int .i64 0, .bool false, .int .i64 0, .int .i64 0, .int .i64 0, .bool false, .int .i64 0, .int .i64 0, .int .i64 0, .bool false, .int .i64 0, .int .i64 0, .int .i64 0, .bool false, .int .i64 0, .int .i64 0, .int .i64 0, .int .i64 0] cf R6.out rfl rfl (by rw [hl9]; rfl) (by rw [hl9]; kernel_rfl) hone9 ?_))
              intro w9 o9 C9
              have O9 := hid o9
              have HB9 := hid (below_chg HB6.out C9 HB6.out.size (fun b hb => by omega))
              clear o9 C9
              go_wp2
              exact bodyPost_ret (results_box3 rfl _ _ (w.heap.size + 1) cf rfl O9.out _ Try.underlying31 rfl (by rw [hl9]; kernel_rfl)) rfl ⟨by rw [HR.out, HCF.out]; rfl, HB9.out⟩
        · obtain rfl : f = 16 := by omega
          have HF3 := hid (show freeC c.nodes_ = -1 by rw [← HF.out, List.drop_of_length_le (by rw [HC.out]; exact Nat.le_refl _)]; rfl)
          have Hr := hid (show putC c key val = (c, (n : Int), 3) by rw [HG.out, if_pos HF3.out])
          clear HF HG
          go_wp2_with (first | (refine wpList_load_box rfl 31 _ rfl w.heap.size ce (by first | exact B3.out.1 | exact B1.out.1) rfl _ Try.underlying31 rfl (by rw [hl]; kernel_rfl) ?_) | (refine wpList_store_box rfl 31 _ _ rfl (w.heap.size + 1) [.bool false, .int .i64 0, .int .i64 0, .int .i64 0, .bool false, .int .i64 0, .int .i64 0, .int .i64 0, .bool false, .int .i64 0, .int .i64 0, .int .i64 0, .bool false, .int .i64 0, .int .i64 0, .int .i64 0, .bool false, .int .i64 0, .int .i64 0, .int .i64 0, .bool false, .int .i64 0, .int .i64 0, .int .i64 0, .bool false, .int .i64 0, .int .i64 0, .int .i64 0, .bool false, .int .i64 0, .int .i64 0, .int .i64 0, .bool false, .int .i64 0, .int .i64 0, .int .i64 0, .bool false, .int .i64 0, .int .i64 0, .int .i64 0, .bool false, .int .i64 0, .int .i64 0, .int .i64 0, .bool false, .int .i64 0, .int .i64 0, .int .i64 0, .bool false, .int .i64 0, .int .i64 0, .int .i64 0, .bool false, .int .i64 0, .int .i64 0, .int .i64 0, .bool false, .int .i64 0, .int .i64 0, .int .i64 0, .bool false, .int .i64 0, .int .i64 0, .int .i64 0, .int .i64 0] ce (by first | exact R3.out | exact R1.out) rfl rfl (by rw [hl]; rfl) (by rw [hl]; kernel_rfl) hone ?_) | (go_at_call 29; refine (spec_l1ValueIs _ _ _ (by assumption)).mono ?_; rintro e w' ⟨rfl, rfl⟩))
          intro w9 o9 C9
          have O9 := hid o9
          have HB9 := hid (below_chg HB3.out C9 HB3.out.size (fun b hb => by omega))
          clear o9 C9
          go_wp2
          exact bodyPost_ret (results_box3 rfl _ _ (w.heap.size + 1) ce rfl O9.out _ Try.underlying31 rfl (by rw [hl]; kernel_rfl)) rfl ⟨by rw [Hr.out, HCE.out]; rfl, HB9.out⟩
end Go.Proofs.Ytadbgfaboafkeaa
