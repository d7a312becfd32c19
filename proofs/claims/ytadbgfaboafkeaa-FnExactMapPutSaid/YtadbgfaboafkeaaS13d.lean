/- Chapter 13's model: MapDrop. (printed by tools/mk_s13.py) -/
import Derived.Test.YtadbgfaboafkeaaS13n
namespace Go.Proofs.Ytadbgfaboafkeaa
set_option maxRecDepth 100000
open Go.RowKit Go.Proofs Go.Own
open Go Go.BigFrame
set_option linter.unusedVariables false
set_option linter.unusedSimpArgs false
def dropW (c : ChainD) (key : Int) (R : Int × Int × Nat × Bool) : ChainD × Int × Int :=
  if R.2.2.2 = true then
    if R.1 < 0 ∨ ¬ (nd c.nodes_ R.1).key_ = key then (c, (R.2.2.1 : Int), 4)
    else if R.2.1 < 0 then (⟨c.nodes_.set R.1.toNat zNode, (nd c.nodes_ R.1).next_⟩, (R.2.2.1 : Int), 0)
    else (⟨(c.nodes_.set R.2.1.toNat { nd c.nodes_ R.2.1 with next_ := (nd c.nodes_ R.1).next_ }).set R.1.toNat zNode, c.first_⟩, (R.2.2.1 : Int), 0)
  else (c, (R.2.2.1 : Int), 2)
def dropC (c : ChainD) (key : Int) : ChainD × Int × Int := if (chainOk c && isVal key) = true then dropW c key (walkC c key) else (c, 0, 1)
theorem set_next : ∀ (L : List Node) (k : Nat) (h : k < L.length) (v : Int), (L.flatMap Node.enc).set (k * 4 + 3) (.int .i64 v) = (L.set k { L[k] with next_ := v }).flatMap Node.enc
  | x :: L, 0, h, v => by simp [Node.enc]
  | x :: L, k+1, h, v => by
    have ih := set_next L k (by simpa using h) v
    rw [List.flatMap_cons, List.set_cons_succ, List.flatMap_cons, List.set_append_right _ _ (by show 4 ≤ _; omega), List.getElem_cons_succ, ← ih, show (k + 1) * 4 + 3 - (Node.enc x).length = k * 4 + 3 from by show (k + 1) * 4 + 3 - 4 = _; omega]
set_option maxHeartbeats 16000000 in
theorem spec_MapDrop0 (c : ChainD) (hc : c.nodes_.length = 16) (key : Int) (w : World) :
    Calls Try.prog 18 #[.agg c.enc.toArray, .int .i64 key] w fun e w' => e = .returned (.tuple #[.agg (dropC c key).1.enc.toArray, .int .i64 (dropC c key).2.1, .int .i64 (dropC c key).2.2]) ∧ Below w.heap.size w w' := by
  have hone := chain_one c
  have hl := chain_len hc
  have hl2 : c.enc.toArray.size = 65 := by rw [List.size_toArray, hl]
  have hln : (c.nodes_.flatMap Node.enc).length = 64 := by rw [nodes_len, hc]
  have HC := hid hc
  have HE := hid (show c.enc = [] ++ c.nodes_.flatMap Node.enc ++ [.int .i64 c.first_] from rfl)
  have H64 := hid (show c.enc[64]? = some (.int .i64 c.first_) by rw [HE.out, List.nil_append, List.getElem?_append_right (by omega), hln]; rfl)
  generalize hce : c.enc = ce at *
  obtain ⟨W1, hW1⟩ : ∃ X, (w.alloc (.cells ce.toArray 31)).alloc (.cells #[.bool false, .int .i64 0, .int .i64 0, .int .i64 0, .bool false, .int .i64 0, .int .i64 0, .int .i64 0, .bool false, .int .i64 0, .int .i64 0, .int .i64 0, .bool false, .int .i64 0, .int .i64 0, .int .i64 0, .bool false, .int .i64 0, .int .i64 0, .int .i64 0, .bool false, .int .i64 0, .int .i64 0, .int .i64 0, .bool false, .int .i64 0, .int .i64 0, .int .i64 0, .bool false, .int .i64 0, .int .i64 0, .int .i64 0, .bool false, .int .i64 0, .int .i64 0, .int .i64 0, .bool false, .int .i64 0, .int .i64 0, .int .i64 0, .bool false, .int .i64 0, .int .i64 0, .int .i64 0, .bool false, .int .i64 0, .int .i64 0, .int .i64 0, .bool false, .int .i64 0, .int .i64 0, .int .i64 0, .bool false, .int .i64 0, .int .i64 0, .int .i64 0, .bool false, .int .i64 0, .int .i64 0, .int .i64 0, .bool false, .int .i64 0, .int .i64 0, .int .i64 0, .int .i64 0] 31) = X := ⟨_, rfl⟩
  have hB1 : Below w.heap.size w W1 := by rw [← hW1]; exact ((Below.refl _ _).alloc (Nat.le_refl _) _).alloc (by simp) _
  have b0 : BoxF W1 w.heap.size ce := by
    rw [← hW1]
    exact (BoxF.alloc w ce.toArray 31).below ((Below.refl _ _).alloc (Nat.le_refl _) _)
  have R0 : Hid (BoxF W1 (w.heap.size + 1) [.bool false, .int .i64 0, .int .i64 0, .int .i64 0, .bool false, .int .i64 0, .int .i64 0, .int .i64 0, .bool false, .int .i64 0, .int .i64 0, .int .i64 0, .bool false, .int .i64 0, .int .i64 0, .int .i64 0, .bool false, .int .i64 0, .int .i64 0, .int .i64 0, .bool false, .int .i64 0, .int .i64 0, .int .i64 0, .bool false, .int .i64 0, .int .i64 0, .int .i64 0, .bool false, .int .i64 0, .int .i64 0, .int .i64 0, .bool false, .int .i64 0, .int .i64 0, .int .i64 0, .bool false, .int .i64 0, .int .i64 0, .int .i64 0, .bool false, .int .i64 0, .int .i64 0, .int .i64 0, .bool false, .int .i64 0, .int .i64 0, .int .i64 0, .bool false, .int .i64 0, .int .i64 0, .int .i64 0, .bool false, .int .i64 0, .int .i64 0, .int .i64 0, .bool false, .int .i64 0, .int .i64 0, .int .i64 0, .bool false, .int .i64 0, .int .i64 0, .int .i64 0, .int .i64 0]) := by
    rw [← hW1]
    have z := BoxF.alloc (w.alloc (.cells ce.toArray 31)) #[.bool false, .int .i64 0, .int .i64 0, .int .i64 0, .bool false, .int .i64 0, .int .i64 0, .int .i64 0, .bool false, .int .i64 0, .int .i64 0, .int .i64 0, .bool false, .int .i64 0, .int .i64 0, .int .i64 0, .bool false, .int .i64 0, .int .i64 0, .int .i64 0, .bool false, .int .i64 0, .int .i64 0, .int .i64 0, .bool false, .int .i64 0, .int .i64 0, .int .i64 0, .bool false, .int .i64 0, .int .i64 0, .int .i64 0, .bool false, .int .i64 0, .int .i64 0, .int .i64 0, .bool false, .int .i64 0, .int .i64 0, .int .i64 0, .bool false, .int .i64 0, .int .i64 0, .int .i64 0, .bool false, .int .i64 0, .int .i64 0, .int .i64 0, .bool false, .int .i64 0, .int .i64 0, .int .i64 0, .bool false, .int .i64 0, .int .i64 0, .int .i64 0, .bool false, .int .i64 0, .int .i64 0, .int .i64 0, .bool false, .int .i64 0, .int .i64 0, .int .i64 0, .int .i64 0] 31
    rw [show (w.alloc (.cells ce.toArray 31)).heap.size = w.heap.size + 1 by simp] at z
    exact hid z
  have B0 := hid b0
  have HW1 := hid hW1
  have HB1 := hid hB1
  have HCE := hid hce
  clear hW1 b0 hc hB1 hce
  have HCK := hid (show Calls Try.prog 10 #[.agg ce.toArray] W1 fun e w' => e = .returned (.bool (chainOk c)) ∧ Below W1.heap.size W1 w' by have z := spec_ChainOk0 c HC.out W1; rw [HCE.out] at z; exact z)
  have hw : ∀ v : World, chainOk c = true → Calls Try.prog 36 #[.agg ce.toArray, .int .i64 key] v fun e w' => e = .returned (.tuple #[.int .i64 (walkC c key).1, .int .i64 (walkC c key).2.1, .int .i64 (walkC c key).2.2.1, .bool (walkC c key).2.2.2]) ∧ Below v.heap.size v w' := by
    intro v hok; have z := spec_l13Walk0 c HC.out key hok v; rw [HCE.out] at z; exact z
  have HWK := hid hw
  clear hw
  have hz : ∀ w : World, (zeroValue 31).run Try.prog w = .ok (.agg #[.bool false, .int .i64 0, .int .i64 0, .int .i64 0, .bool false, .int .i64 0, .int .i64 0, .int .i64 0, .bool false, .int .i64 0, .int .i64 0, .int .i64 0, .bool false, .int .i64 0, .int .i64 0, .int .i64 0, .bool false, .int .i64 0, .int .i64 0, .int .i64 0, .bool false, .int .i64 0, .int .i64 0, .int .i64 0, .bool false, .int .i64 0, .int .i64 0, .int .i64 0, .bool false, .int .i64 0, .int .i64 0, .int .i64 0, .bool false, .int .i64 0, .int .i64 0, .int .i64 0, .bool false, .int .i64 0, .int .i64 0, .int .i64 0, .bool false, .int .i64 0, .int .i64 0, .int .i64 0, .bool false, .int .i64 0, .int .i64 0, .int .i64 0, .bool false, .int .i64 0, .int .i64 0, .int .i64 0, .bool false, .int .i64 0, .int .i64 0, .int .i64 0, .bool false, .int .i64 0, .int .i64 0, .int .i64 0, .bool false, .int .i64 0, .int .i64 0, .int .i64 0, .int .i64 0]) w := fun w => zero_run w (by kernel_rfl)
  go_enter Try.func18, Try.ntmps18
  go_wp2_with (refine wpList_load_box rfl 31 _ rfl w.heap.size ce (by first | (rw [HW1.out]; exact B0.out.1) | exact B1.out.1 | exact B3.out.1) rfl _ Try.underlying31 rfl (by rw [hl]; kernel_rfl) ?_)
  rw [HW1.out]
  refine HCK.out.mono ?_
  rintro e w2 ⟨rfl, b2⟩
  have B1 := hid (B0.out.below b2)
  have R1 := hid (R0.out.below b2)
  have HB2 := hid (HB1.out.trans (b2.mono HB1.out.size))
  clear b2
  cases hck : chainOk c with
  | false =>
    have Hr := hid (show dropC c key = (c, 0, 1) by simp [dropC, hck])
    go_wp2_with (first | (refine wpList_load_box rfl 31 _ rfl w.heap.size ce (by first | (rw [HW1.out]; exact B0.out.1) | exact B1.out.1 | exact B3.out.1) rfl _ Try.underlying31 rfl (by rw [hl]; kernel_rfl) ?_) | (refine wpList_store_box rfl 31 _ _ rfl (w.heap.size + 1) [.bool false, .int .i64 0, .int .i64 0, .int .i64 0, .bool false, .int .i64 0, .int .i64 0, .int .i64 0, .bool false, .int .i64 0, .int .i64 0, .int .i64 0, .bool false, .int .i64 0, .int .i64 0, .int .i64 0, .bool false, .int .i64 0, .int .i64 0, .int .i64 0, .bool false, .int .i64 0, .int .i64 0, .int .i64 0, .bool false, .int .i64 0, .int .i64 0, .int .i64 0, .bool false, .int .i64 0, .int .i64 0, .int .i64 0, .bool false, .int .i64 0, .int .i64 0, .int .i64 0, .bool false, .int .i64 0, .int .i64 0, .int .i64 0, .bool false, .int .i64 0, .int .i64 0, .int .i64 0, .bool false, .int .i64 0, .int .i64 0, .int .i64 0, .bool false, .int .i64 0, .int .i64 0, .int .i64 0, .bool false, .int .i64 0, .int .i64 0, .int .i64 0, .bool false, .int .i64 0, .int .i64 0, .int .i64 0, .bool false, .int .i64 0, .int .i64 0, .int .i64 0, .int .i64 0] ce (by first | exact R3.out | exact R1.out) rfl rfl (by rw [hl]; rfl) (by rw [hl]; kernel_rfl) hone ?_))
    intro w9 o9 C9
    have O9 := hid o9
    have HB9 := hid (below_chg HB2.out C9 HB2.out.size (fun b hb => by omega))
    clear o9 C9
    go_wp2
    exact bodyPost_ret (results_box3 rfl _ _ (w.heap.size + 1) ce rfl O9.out _ Try.underlying31 rfl (by rw [hl]; kernel_rfl)) rfl ⟨by rw [Hr.out, HCE.out]; rfl, HB9.out⟩
  | true =>
  have HPL := hid (walkC_ok key hck)
  cases hv : isVal key with
  | false =>
    have Hr := hid (show dropC c key = (c, 0, 1) by simp [dropC, hv])
    go_wp2_with (first | (refine wpList_load_box rfl 31 _ rfl w.heap.size ce (by first | (rw [HW1.out]; exact B0.out.1) | exact B1.out.1 | exact B3.out.1) rfl _ Try.underlying31 rfl (by rw [hl]; kernel_rfl) ?_) | (refine wpList_store_box rfl 31 _ _ rfl (w.heap.size + 1) [.bool false, .int .i64 0, .int .i64 0, .int .i64 0, .bool false, .int .i64 0, .int .i64 0, .int .i64 0, .bool false, .int .i64 0, .int .i64 0, .int .i64 0, .bool false, .int .i64 0, .int .i64 0, .int .i64 0, .bool false, .int .i64 0, .int .i64 0, .int .i64 0, .bool false, .int .i64 0, .int .i64 0, .int .i64 0, .bool false, .int .i64 0, .int .i64 0, .int .i64 0, .bool false, .int .i64 0, .int .i64 0, .int .i64 0, .bool false, .int .i64 0, .int .i64 0, .int .i64 0, .bool false, .int .i64 0, .int .i64 0, .int .i64 0, .bool false, .int .i64 0, .int .i64 0, .int .i64 0, .bool false, .int .i64 0, .int .i64 0, .int .i64 0, .bool false, .int .i64 0, .int .i64 0, .int .i64 0, .bool false, .int .i64 0, .int .i64 0, .int .i64 0, .bool false, .int .i64 0, .int .i64 0, .int .i64 0, .bool false, .int .i64 0, .int .i64 0, .int .i64 0, .int .i64 0] ce (by first | exact R3.out | exact R1.out) rfl rfl (by rw [hl]; rfl) (by rw [hl]; kernel_rfl) hone ?_) | (go_at_call 29; refine (spec_l1ValueIs key _ _ hv).mono ?_; rintro e w' ⟨rfl, rfl⟩))
    intro w9 o9 C9
    have O9 := hid o9
    have HB9 := hid (below_chg HB2.out C9 HB2.out.size (fun b hb => by omega))
    clear o9 C9
    go_wp2
    exact bodyPost_ret (results_box3 rfl _ _ (w.heap.size + 1) ce rfl O9.out _ Try.underlying31 rfl (by rw [hl]; kernel_rfl)) rfl ⟨by rw [Hr.out, HCE.out]; rfl, HB9.out⟩
  | true =>
  have HG := hid (show dropC c key = dropW c key (walkC c key) by simp [dropC, hck, hv])
  have HWK2 := hid (HWK.out w2 hck)
  go_wp2_with (first | (go_at_call 29; refine (spec_l1ValueIs key _ _ hv).mono ?_; rintro e w' ⟨rfl, rfl⟩) | (refine wpList_load_box rfl 31 _ rfl w.heap.size ce (by first | (rw [HW1.out]; exact B0.out.1) | exact B1.out.1 | exact B3.out.1) rfl _ Try.underlying31 rfl (by rw [hl]; kernel_rfl) ?_))
  refine HWK2.out.mono ?_
  rintro e w3 ⟨rfl, b3⟩
  have B3 := hid (B1.out.below b3)
  have R3 := hid (R1.out.below b3)
  have HB3 := hid (HB2.out.trans (b3.mono HB2.out.size))
  clear b3 B0 R0 B1 R1 HWK2 HWK HCK HB2
  generalize walkC c key = R at *
  obtain ⟨p, a, n, ok⟩ := R
  dsimp only at HG HPL ⊢
  cases ok with
  | false =>
    have Hr := hid (show dropC c key = (c, (n : Int), 2) by rw [HG.out]; rfl)
    clear HG HPL
    go_wp2_with (first | (refine wpList_load_box rfl 31 _ rfl w.heap.size ce (by first | (rw [HW1.out]; exact B0.out.1) | exact B1.out.1 | exact B3.out.1) rfl _ Try.underlying31 rfl (by rw [hl]; kernel_rfl) ?_) | (refine wpList_store_box rfl 31 _ _ rfl (w.heap.size + 1) [.bool false, .int .i64 0, .int .i64 0, .int .i64 0, .bool false, .int .i64 0, .int .i64 0, .int .i64 0, .bool false, .int .i64 0, .int .i64 0, .int .i64 0, .bool false, .int .i64 0, .int .i64 0, .int .i64 0, .bool false, .int .i64 0, .int .i64 0, .int .i64 0, .bool false, .int .i64 0, .int .i64 0, .int .i64 0, .bool false, .int .i64 0, .int .i64 0, .int .i64 0, .bool false, .int .i64 0, .int .i64 0, .int .i64 0, .bool false, .int .i64 0, .int .i64 0, .int .i64 0, .bool false, .int .i64 0, .int .i64 0, .int .i64 0, .bool false, .int .i64 0, .int .i64 0, .int .i64 0, .bool false, .int .i64 0, .int .i64 0, .int .i64 0, .bool false, .int .i64 0, .int .i64 0, .int .i64 0, .bool false, .int .i64 0, .int .i64 0, .int .i64 0, .bool false, .int .i64 0, .int .i64 0, .int .i64 0, .bool false, .int .i64 0, .int .i64 0, .int .i64 0, .int .i64 0] ce (by first | exact R3.out | exact R1.out) rfl rfl (by rw [hl]; rfl) (by rw [hl]; kernel_rfl) hone ?_))
    intro w9 o9 C9
    have O9 := hid o9
    have HB9 := hid (below_chg HB3.out C9 HB3.out.size (fun b hb => by omega))
    clear o9 C9
    go_wp2
    exact bodyPost_ret (results_box3 rfl _ _ (w.heap.size + 1) ce rfl O9.out _ Try.underlying31 rfl (by rw [hl]; kernel_rfl)) rfl ⟨by rw [Hr.out, HCE.out]; rfl, HB9.out⟩
  | true =>
  have hn : n ≤ 10 := HPL.out.2.2
  rcases HPL.out.1 with h1 | h1
  · have hp1 : p = -1 := h1
    subst hp1
    have Hr := hid (show dropC c key = (c, (n : Int), 4) by rw [HG.out]; rfl)
    clear HG HPL h1
    go_wp2_with (first | (refine wpList_load_box rfl 31 _ rfl w.heap.size ce (by first | (rw [HW1.out]; exact B0.out.1) | exact B1.out.1 | exact B3.out.1) rfl _ Try.underlying31 rfl (by rw [hl]; kernel_rfl) ?_) | (refine wpList_store_box rfl 31 _ _ rfl (w.heap.size + 1) [.bool false, .int .i64 0, .int .i64 0, .int .i64 0, .bool false, .int .i64 0, .int .i64 0, .int .i64 0, .bool false, .int .i64 0, .int .i64 0, .int .i64 0, .bool false, .int .i64 0, .int .i64 0, .int .i64 0, .bool false, .int .i64 0, .int .i64 0, .int .i64 0, .bool false, .int .i64 0, .int .i64 0, .int .i64 0, .bool false, .int .i64 0, .int .i64 0, .int .i64 0, .bool false, .int .i64 0, .int .i64 0, .int .i64 0, .bool false, .int .i64 0, .int .i64 0, .int .i64 0, .bool false, .int .i64 0, .int .i64 0, .int .i64 0, .bool false, .int .i64 0, .int .i64 0, .int .i64 0, .bool false, .int .i64 0, .int .i64 0, .int .i64 0, .bool false, .int .i64 0, .int .i64 0, .int .i64 0, .bool false, .int .i64 0, .int .i64 0, .int .i64 0, .bool false, .int .i64 0, .int .i64 0, .int .i64 0, .bool false, .int .i64 0, .int .i64 0, .int .i64 0, .int .i64 0] ce (by first | exact R3.out | exact R1.out) rfl rfl (by rw [hl]; rfl) (by rw [hl]; kernel_rfl) hone ?_))
    intro w9 o9 C9
    have O9 := hid o9
    have HB9 := hid (below_chg HB3.out C9 HB3.out.size (fun b hb => by omega))
    clear o9 C9
    go_wp2
    exact bodyPost_ret (results_box3 rfl _ _ (w.heap.size + 1) ce rfl O9.out _ Try.underlying31 rfl (by rw [hl]; kernel_rfl)) rfl ⟨by rw [Hr.out, HCE.out]; rfl, HB9.out⟩
  · obtain ⟨k, rfl, hk16⟩ : ∃ k : Nat, p = (k : Int) ∧ k < 16 := ⟨p.toNat, by omega, by omega⟩
    clear h1
    have hnk : ¬ (k : Int) < 0 := by omega
    have hkL : k < c.nodes_.length := by rw [HC.out]; exact hk16
    have HK := hid (nd_eq c.nodes_ (k : Int) (by rw [Int.toNat_natCast]; exact hkL))
    simp only [Int.toNat_natCast] at HK
    have Hcc := hid (fun l (hl4 : l < 4) => boxA_cell (A := []) (Z := [.int .i64 c.first_]) Node.enc 4 (fun _ => rfl) (by rw [← HE.out]; exact B3.out) k hkL l hl4)
    have c0 : w3.cell? ⟨w.heap.size, k * 4, none⟩ = some (.bool c.nodes_[k].used_) := by have z := Hcc.out 0 (by omega); simpa [Node.enc] using z
    have c1 : w3.cell? ⟨w.heap.size, k * 4 + 1, none⟩ = some (.int .i64 c.nodes_[k].key_) := by have z := Hcc.out 1 (by omega); simpa [Node.enc] using z
    have c2 : w3.cell? ⟨w.heap.size, k * 4 + 2, none⟩ = some (.int .i64 c.nodes_[k].value_) := by have z := Hcc.out 2 (by omega); simpa [Node.enc] using z
    have c3 : w3.cell? ⟨w.heap.size, k * 4 + 3, none⟩ = some (.int .i64 c.nodes_[k].next_) := by have z := Hcc.out 3 (by omega); simpa [Node.enc] using z
    have hk0 : (0 : Int) ≤ (k : Int) := by omega
    have hki : (k : Int) < 16 := by omega
    obtain ⟨X, hX⟩ : ∃ X, c.nodes_[k] = X := ⟨_, rfl⟩
    rw [hX] at c0 c1 c2 c3 HK
    clear Hcc hX
    obtain ⟨xu, xk, xv, xn⟩ := X
    dsimp only at c0 c1 c2 c3
    have HG2 := HG.out
    unfold dropW at HG2
    dsimp only at HG2
    rw [HK.out, if_pos rfl] at HG2
    dsimp only at HG2
    by_cases hx : xk = key
    · rw [if_neg (by simp [hx])] at HG2
      have HG3 := hid HG2
      clear HG2 HG
      subst hx
      rcases HPL.out.2.1 with h1 | h1
      · have ha1 : a = -1 := h1
        subst ha1
        have HG4 := hid (HG3.out.trans (if_pos (by omega)))
        clear HG3 HPL h1
        have hoff : 64 < ce.length := by rw [hl]; omega
        have d9 : w3.cell? ⟨w.heap.size, 64, none⟩ = ce[64]? := B3.out.1.2 (64) hoff
        have f9 : w3.frozen? ⟨w.heap.size, 64, none⟩ = false := B3.out.2 (64) hoff
        have hsome : ce[64]? = some (ce[64]) := List.getElem?_eq_getElem hoff
        rw [hsome] at d9
        have B4 := hid (show BoxF (w3.setCell ⟨w.heap.size, 64, none⟩ (.int .i64 xn)) w.heap.size ([] ++ (c.nodes_).flatMap Node.enc ++ [.int .i64 xn]) by
          have z := B3.out.set (64) hoff (.int .i64 xn)
          rw [show ce.set (64) (.int .i64 xn) = [] ++ (c.nodes_).flatMap Node.enc ++ [.int .i64 xn] by rw [HE.out, List.nil_append, List.set_append_right _ _ (by omega), hln]; rfl] at z
          exact z)
        have R4 := hid (R3.out.other ⟨w.heap.size, 64, none⟩ (.int .i64 xn) (by show ¬ w.heap.size = w.heap.size + 1; omega))
        have HB4 := hid (HB3.out.setCell (p := ⟨w.heap.size, 64, none⟩) (Nat.le_refl _) (.int .i64 xn))
        obtain ⟨X, hX⟩ : ∃ X, w3.setCell ⟨w.heap.size, 64, none⟩ (.int .i64 xn) = X := ⟨_, rfl⟩
        rw [hX] at B4 R4 HB4
        have HX := hid hX
        clear hX hsome
        generalize ce[64] = vold at d9
        clear hoff
        go_wp2_with (refine wpList_store_el Node.enc 4 (fun _ => rfl) rfl 28 _ _ rfl w.heap.size (k * 4) [] [.int .i64 xn] (c.nodes_) k zNode (by first | exact B4.out | (rw [HX.out]; exact B4.out)) (by first | exact HkL2.out | (rw [HC.out]; exact hk16)) (by simp) rfl rfl (by kernel_rfl) rfl ?_)
        intro w6 o6 C6
        rw [HX.out] at C6
        have A6 := hid (show BoxF w6 w.heap.size (ChainD.enc ⟨(c.nodes_).set k zNode, xn⟩) from o6)
        have R6 := hid (R4.out.chg C6 (by show ¬ (w.heap.size + 1 = w.heap.size); omega))
        have HB6 := hid (below_chg HB4.out C6 HB4.out.size (fun b hb => by omega))
        have hl9 := chain_len (c := ⟨(c.nodes_).set k zNode, xn⟩) (by show (List.set _ _ _).length = 16; simp [HC.out])
        have hone9 := chain_one ⟨(c.nodes_).set k zNode, xn⟩
        have HR := hid (show dropC c xk = (⟨(c.nodes_).set k zNode, xn⟩, (n : Int), 0) from HG4.out)
        clear o6 C6 B4 R4 HB4
        obtain ⟨cf, hcf⟩ : ∃ Y, ChainD.enc ⟨(c.nodes_).set k zNode, xn⟩ = Y := ⟨_, rfl⟩
        rw [hcf] at A6 hl9 hone9
        have HCF := hid hcf
        clear hcf
        go_wp2_with (first | (refine wpList_load_box rfl 31 _ rfl w.heap.size cf A6.out.1 rfl _ Try.underlying31 rfl (by rw [hl9]; kernel_rfl) ?_) | (refine wpList_store_box rfl 31 _ _ rfl (w.heap.size + 1) [.bool false, .int .i64 0, .int .i64 0, .int .i64 0, .bool false, .int .i64 0, .int .i64 0, .int .i64 0, .bool false, .int .i64 0, .int .i64 0, .int .i64 0, .bool false, .int .i64 0, .int .i64 0, .int .i64 0, .bool false, .int .i64 0, .int .i64 0, .int .i64 0, .bool false, .int .i64 0, .int .i64 0, .int .i64 0, .bool false, .int .i64 0, .int .i64 0, .int .i64 0, .bool false, .int .i64 0, .int .i64 0, .int .i64 0, .bool false, .int .i64 0, .int .i64 0, .int .i64 0, .bool false, .int .i64 0, .int .i64 0, .int .i64 0, .bool false, .int .i64 0, .int .i64 0, .int .i64 0, .bool false, .int .i64 0, .int .i64 0, .int .i64 0, .bool false, .int .i64 0, .int .i64 0, .int .i64 0, .bool false, .int .i64 0, .int .i64 0, .int .i64 0, .bool false, .int .i64 0, .int .i64 0, .int .i64 0, .bool false, .int .i64 0, .int .i64 0, .int .i64 0, .int .i64 0] cf R6.out rfl rfl (by rw [hl9]; rfl) (by rw [hl9]; kernel_rfl) hone9 ?_))
        intro w9 o9 C9
        have O9 := hid o9
        have HB9 := hid (below_chg HB6.out C9 HB6.out.size (fun b hb => by omega))
        clear o9 C9
        go_wp2
        exact bodyPost_ret (results_box3 rfl _ _ (w.heap.size + 1) cf rfl O9.out _ Try.underlying31 rfl (by rw [hl9]; kernel_rfl)) rfl ⟨by rw [HR.out, HCF.out]; rfl, HB9.out⟩
      · obtain ⟨j, rfl, hj16⟩ : ∃ j : Nat, a = (j : Int) ∧ j < 16 := ⟨a.toNat, by omega, by omega⟩
        clear h1 HPL
        have hjL : j < c.nodes_.length := by rw [HC.out]; exact hj16
        have HJ := hid (nd_eq c.nodes_ (j : Int) (by rw [Int.toNat_natCast]; exact hjL))
        simp only [Int.toNat_natCast] at HJ
        have hj0 : (0 : Int) ≤ (j : Int) := by omega
        have hji : (j : Int) < 16 := by omega
        have hnj : ¬ (j : Int) < 0 := by omega
        have HG4 := HG3.out.trans (if_neg hnj)
        rw [HJ.out] at HG4
        simp only [Int.toNat_natCast] at HG4
        have HG4 := hid HG4
        have HkL2 := hid (show k < (c.nodes_.set j { c.nodes_[j] with next_ := xn }).length by rw [List.length_set]; exact hkL)
        clear HG3
        have hoff : j * 4 + 3 < ce.length := by rw [hl]; omega
        have d9 : w3.cell? ⟨w.heap.size, j * 4 + 3, none⟩ = ce[j * 4 + 3]? := B3.out.1.2 (j * 4 + 3) hoff
        have f9 : w3.frozen? ⟨w.heap.size, j * 4 + 3, none⟩ = false := B3.out.2 (j * 4 + 3) hoff
        have hsome : ce[j * 4 + 3]? = some (ce[j * 4 + 3]) := List.getElem?_eq_getElem hoff
        rw [hsome] at d9
        have B4 := hid (show BoxF (w3.setCell ⟨w.heap.size, j * 4 + 3, none⟩ (.int .i64 xn)) w.heap.size ([] ++ (c.nodes_.set j { c.nodes_[j] with next_ := xn }).flatMap Node.enc ++ [.int .i64 c.first_]) by
          have z := B3.out.set (j * 4 + 3) hoff (.int .i64 xn)
          rw [show ce.set (j * 4 + 3) (.int .i64 xn) = [] ++ (c.nodes_.set j { c.nodes_[j] with next_ := xn }).flatMap Node.enc ++ [.int .i64 c.first_] by rw [HE.out, List.nil_append, List.set_append_left _ _ (by rw [hln]; omega), set_next c.nodes_ j hjL xn]; rfl] at z
          exact z)
        have R4 := hid (R3.out.other ⟨w.heap.size, j * 4 + 3, none⟩ (.int .i64 xn) (by show ¬ w.heap.size = w.heap.size + 1; omega))
        have HB4 := hid (HB3.out.setCell (p := ⟨w.heap.size, j * 4 + 3, none⟩) (Nat.le_refl _) (.int .i64 xn))
        obtain ⟨X, hX⟩ : ∃ X, w3.setCell ⟨w.heap.size, j * 4 + 3, none⟩ (.int .i64 xn) = X := ⟨_, rfl⟩
        rw [hX] at B4 R4 HB4
        have HX := hid hX
        clear hX hsome
        generalize ce[j * 4 + 3] = vold at d9
        clear hoff
        go_wp2_with (refine wpList_store_el Node.enc 4 (fun _ => rfl) rfl 28 _ _ rfl w.heap.size (k * 4) [] [.int .i64 c.first_] (c.nodes_.set j { c.nodes_[j] with next_ := xn }) k zNode (by first | exact B4.out | (rw [HX.out]; exact B4.out)) (by first | exact HkL2.out | (rw [HC.out]; exact hk16)) (by simp) rfl rfl (by kernel_rfl) rfl ?_)
        intro w6 o6 C6
        rw [HX.out] at C6
        have A6 := hid (show BoxF w6 w.heap.size (ChainD.enc ⟨(c.nodes_.set j { c.nodes_[j] with next_ := xn }).set k zNode, c.first_⟩) from o6)
        have R6 := hid (R4.out.chg C6 (by show ¬ (w.heap.size + 1 = w.heap.size); omega))
        have HB6 := hid (below_chg HB4.out C6 HB4.out.size (fun b hb => by omega))
        have hl9 := chain_len (c := ⟨(c.nodes_.set j { c.nodes_[j] with next_ := xn }).set k zNode, c.first_⟩) (by show (List.set _ _ _).length = 16; simp [HC.out])
        have hone9 := chain_one ⟨(c.nodes_.set j { c.nodes_[j] with next_ := xn }).set k zNode, c.first_⟩
        have HR := hid (show dropC c xk = (⟨(c.nodes_.set j { c.nodes_[j] with next_ := xn }).set k zNode, c.first_⟩, (n : Int), 0) from HG4.out)
        clear o6 C6 B4 R4 HB4
        obtain ⟨cf, hcf⟩ : ∃ Y, ChainD.enc ⟨(c.nodes_.set j { c.nodes_[j] with next_ := xn }).set k zNode, c.first_⟩ = Y := ⟨_, rfl⟩
        rw [hcf] at A6 hl9 hone9
        have HCF := hid hcf
        clear hcf
        go_wp2_with (first | (refine wpList_load_box rfl 31 _ rfl w.heap.size cf A6.out.1 rfl _ Try.underlying31 rfl (by rw [hl9]; kernel_rfl) ?_) | (refine wpList_store_box rfl 31 _ _ rfl (w.heap.size + 1) [.bool false, .int .i64 0, .int .i64 0, .int .i64 0, .bool false, .int .i64 0, .int .i64 0, .int .i64 0, .bool false, .int .i64 0, .int .i64 0, .int .i64 0, .bool false, .int .i64 0, .int .i64 0, .int .i64 0, .bool false, .int .i64 0, .int .i64 0, .int .i64 0, .bool false, .int .i64 0, .int .i64 0, .int .i64 0, .bool false, .int .i64 0, .int .i64 0, .int .i64 0, .bool false, .int .i64 0, .int .i64 0, .int .i64 0, .bool false, .int .i64 0, .int .i64 0, .int .i64 0, .bool false, .int .i64 0, .int .i64 0, .int .i64 0, .bool false, .int .i64 0, .int .i64 0, .int .i64 0, .bool false, .int .i64 0, .int .i64 0, .int .i64 0, .bool false, .int .i64 0, .int .i64 0, .int .i64 0, .bool false, .int .i64 0, .int .i64 0, .int .i64 0, .bool false, .int .i64 0, .int .i64 0, .int .i64 0, .bool false, .int .i64 0, .int .i64 0, .int .i64 0, .int .i64 0] cf R6.out rfl rfl (by rw [hl9]; rfl) (by rw [hl9]; kernel_rfl) hone9 ?_))
        intro w9 o9 C9
        have O9 := hid o9
        have HB9 := hid (below_chg HB6.out C9 HB6.out.size (fun b hb => by omega))
        clear o9 C9
        go_wp2
        exact bodyPost_ret (results_box3 rfl _ _ (w.heap.size + 1) cf rfl O9.out _ Try.underlying31 rfl (by rw [hl9]; kernel_rfl)) rfl ⟨by rw [HR.out, HCF.out]; rfl, HB9.out⟩
    · have Hr := hid (show dropC c key = (c, (n : Int), 4) by rw [HG2, if_pos (.inr hx)])
      clear HG2 HG HPL
      go_wp2_with (first | (refine wpList_load_box rfl 31 _ rfl w.heap.size ce (by first | (rw [HW1.out]; exact B0.out.1) | exact B1.out.1 | exact B3.out.1) rfl _ Try.underlying31 rfl (by rw [hl]; kernel_rfl) ?_) | (refine wpList_store_box rfl 31 _ _ rfl (w.heap.size + 1) [.bool false, .int .i64 0, .int .i64 0, .int .i64 0, .bool false, .int .i64 0, .int .i64 0, .int .i64 0, .bool false, .int .i64 0, .int .i64 0, .int .i64 0, .bool false, .int .i64 0, .int .i64 0, .int .i64 0, .bool false, .int .i64 0, .int .i64 0, .int .i64 0, .bool false, .int .i64 0, .int .i64 0, .int .i64 0, .bool false, .int .i64 0, .int .i64 0, .int .i64 0, .bool false, .int .i64 0, .int .i64 0, .int .i64 0, .bool false, .int .i64 0, .int .i64 0, .int .i64 0, .bool false, .int .i64 0, .int .i64 0, .int .i64 0, .bool false, .int .i64 0, .int .i64 0, .int .i64 0, .bool false, .int .i64 0, .int .i64 0, .int .i64 0, .bool false, .int .i64 0, .int .i64 0, .int .i64 0, .bool false, .int .i64 0, .int .i64 0, .int .i64 0, .bool false, .int .i64 0, .int .i64 0, .int .i64 0, .bool false, .int .i64 0, .int .i64 0, .int .i64 0, .int .i64 0] ce (by first | exact R3.out | exact R1.out) rfl rfl (by rw [hl]; rfl) (by rw [hl]; kernel_rfl) hone ?_))
      intro w9 o9 C9
      have O9 := hid o9
      have HB9 := hid (below_chg HB3.out C9 HB3.out.size (fun b hb => by omega))
      clear o9 C9
      go_wp2
      exact bodyPost_ret (results_box3 rfl _ _ (w.heap.size + 1) ce rfl O9.out _ Try.underlying31 rfl (by rw [hl]; kernel_rfl)) rfl ⟨by rw [Hr.out, HCE.out]; rfl, HB9.out⟩
end Go.Proofs.Ytadbgfaboafkeaa
