/- Chapter 13's model: MapGet. (printed by tools/mk_s13.py) -/
import Derived.Test.YtadbgfaboafkeaaS13a
namespace Go.Proofs.Ytadbgfaboafkeaa
set_option maxRecDepth 100000
open Go.RowKit Go.Proofs Go.Own
open Go Go.BigFrame
set_option linter.unusedVariables false
set_option linter.unusedSimpArgs false
def getW (L : List Node) (key : Int) (R : Int × Int × Nat × Bool) : Int × Int × Int :=
  if R.2.2.2 = true then
    if R.1 < 0 ∨ ¬ (nd L R.1).key_ = key then (0, (R.2.2.1 : Int), 4) else ((nd L R.1).value_, (R.2.2.1 : Int), 0)
  else (0, (R.2.2.1 : Int), 2)
def getC (c : ChainD) (key : Int) : Int × Int × Int := if (chainOk c && isVal key) = true then getW c.nodes_ key (walkC c key) else (0, 0, 1)
set_option maxHeartbeats 8000000 in
theorem spec_MapGet0 (c : ChainD) (hc : c.nodes_.length = 16) (key : Int) (w : World) :
    Calls Try.prog 20 #[.agg c.enc.toArray, .int .i64 key] w fun e w' => e = .returned (.tuple #[.int .i64 (getC c key).1, .int .i64 (getC c key).2.1, .int .i64 (getC c key).2.2]) ∧ Below w.heap.size w w' := by
  have hc0 := hid hc
  have hl := chain_len hc
  have hl2 : c.enc.toArray.size = 65 := by rw [List.size_toArray, hl]
  have hln : (c.nodes_.flatMap Node.enc).length = 64 := by rw [nodes_len, hc]
  have HC := hid hc
  have HE := hid (show c.enc = [] ++ c.nodes_.flatMap Node.enc ++ [.int .i64 c.first_] from rfl)
  have H64 := hid (show c.enc[64]? = some (.int .i64 c.first_) by rw [HE.out, List.nil_append, List.getElem?_append_right (by omega), hln]; rfl)
  generalize hce : c.enc = ce at *
  obtain ⟨W1, hW1⟩ : ∃ X, w.alloc (.cells ce.toArray 31) = X := ⟨_, rfl⟩
  have hB1 : Below w.heap.size w W1 := by rw [← hW1]; exact (Below.refl _ _).alloc (Nat.le_refl _) _
  have b0 : BoxF W1 w.heap.size ce := by
    rw [← hW1]
    exact BoxF.alloc w ce.toArray 31
  have B0 := hid b0
  have HW1 := hid hW1
  have HB1 := hid hB1
  have HCE := hid hce
  clear hW1 b0 hc hB1 hce
  have HCK := hid (show Calls Try.prog 10 #[.agg ce.toArray] W1 fun e w' => e = .returned (.bool (chainOk c)) ∧ Below W1.heap.size W1 w' by have z := spec_ChainOk0 c HC.out W1; rw [HCE.out] at z; exact z)
  have hw : ∀ v : World, chainOk c = true → Calls Try.prog 36 #[.agg ce.toArray, .int .i64 key] v fun e w' => e = .returned (.tuple #[.int .i64 (walkC c key).1, .int .i64 (walkC c key).2.1, .int .i64 (walkC c key).2.2.1, .bool (walkC c key).2.2.2]) ∧ Below v.heap.size v w' := by
    intro v hok; have z := spec_l13Walk0 c HC.out key hok v; rw [HCE.out] at z; exact z
  have HWK := hid hw
  clear hw hc0
  go_enter Try.func20, Try.ntmps20
  go_wp2_with (refine wpList_load_box rfl 31 _ rfl w.heap.size ce (by first | (rw [HW1.out]; exact B0.out.1) | exact B1.out.1) rfl _ Try.underlying31 rfl (by rw [hl]; kernel_rfl) ?_)
  rw [HW1.out]
  refine HCK.out.mono ?_
  rintro e w2 ⟨rfl, b2⟩
  have B1 := hid (B0.out.below b2)
  have HB2 := hid (HB1.out.trans (b2.mono HB1.out.size))
  clear b2
  cases hck : chainOk c with
  | false =>
    have Hr := hid (show getC c key = (0, 0, 1) by simp [getC, hck])
    go_wp2
    exact bodyPost_ret (v := .tuple #[.int .i64 0, .int .i64 0, .int .i64 1]) (by simp [results, Try.results20, go_sem]) rfl ⟨by rw [Hr.out], HB2.out⟩
  | true =>
  have HPL := hid (walkC_ok key hck)
  cases hv : isVal key with
  | false =>
    have Hr := hid (show getC c key = (0, 0, 1) by simp [getC, hv])
    go_wp2_with (go_at_call 29; refine (spec_l1ValueIs key _ _ hv).mono ?_; rintro e w' ⟨rfl, rfl⟩)
    exact bodyPost_ret (v := .tuple #[.int .i64 0, .int .i64 0, .int .i64 1]) (by simp [results, Try.results20, go_sem]) rfl ⟨by rw [Hr.out], HB2.out⟩
  | true =>
  have HG := hid (show getC c key = getW c.nodes_ key (walkC c key) by simp [getC, hck, hv])
  have HWK2 := hid (HWK.out w2 hck)
  go_wp2_with (first | (go_at_call 29; refine (spec_l1ValueIs key _ _ hv).mono ?_; rintro e w' ⟨rfl, rfl⟩) | (refine wpList_load_box rfl 31 _ rfl w.heap.size ce (by first | (rw [HW1.out]; exact B0.out.1) | exact B1.out.1) rfl _ Try.underlying31 rfl (by rw [hl]; kernel_rfl) ?_))
  refine HWK2.out.mono ?_
  rintro e w3 ⟨rfl, b3⟩
  have B3 := hid (B1.out.below b3)
  have HB3 := hid (HB2.out.trans (b3.mono HB2.out.size))
  clear b3 B1 HWK2 HWK HCK
  generalize walkC c key = R at *
  obtain ⟨p, a, n, ok⟩ := R
  dsimp only at HG HPL ⊢
  cases ok with
  | false =>
    have Hr := hid (show getC c key = (0, (n : Int), 2) by rw [HG.out]; rfl)
    clear HG HPL
    go_wp2
    exact bodyPost_ret (v := .tuple #[.int .i64 0, .int .i64 n, .int .i64 2]) (by simp [results, Try.results20, go_sem]) rfl ⟨by rw [Hr.out], HB3.out⟩
  | true =>
  have hn : n ≤ 10 := HPL.out.2.2
  rcases HPL.out.1 with h1 | h1
  · have hp1 : p = -1 := h1
    subst hp1
    have Hr := hid (show getC c key = (0, (n : Int), 4) by rw [HG.out]; rfl)
    clear HG HPL h1
    go_wp2
    exact bodyPost_ret (v := .tuple #[.int .i64 0, .int .i64 n, .int .i64 4]) (by simp [results, Try.results20, go_sem]) rfl ⟨by rw [Hr.out], HB3.out⟩
  · obtain ⟨k, rfl, hk16⟩ : ∃ k : Nat, p = (k : Int) ∧ k < 16 := ⟨p.toNat, by omega, by omega⟩
    clear h1 HPL
    have hnk : ¬ (k : Int) < 0 := by omega
    have hkL : k < c.nodes_.length := by rw [HC.out]; exact hk16
    have HK := hid (nd_eq c.nodes_ (k : Int) (by rw [Int.toNat_natCast]; exact hkL))
    simp only [Int.toNat_natCast] at HK
    have Hcc := hid (fun l (hl4 : l < 4) => boxA_cell (A := []) (Z := [.int .i64 c.first_]) Node.enc 4 (fun _ => rfl) (by rw [← HE.out]; exact B3.out) k hkL l hl4)
    have c0 : w3.cell? ⟨w.heap.size, k * 4, none⟩ = some (.bool c.nodes_[k].used_) := by have z := Hcc.out 0 (by omega); simpa [Node.enc] using z
    have c1 : w3.cell? ⟨w.heap.size, k * 4 + 1, none⟩ = some (.int .i64 c.nodes_[k].key_) := by have z := Hcc.out 1 (by omega); simpa [Node.enc] using z
    have c2 : w3.cell? ⟨w.heap.size, k * 4 + 2, none⟩ = some (.int .i64 c.nodes_[k].value_) := by have z := Hcc.out 2 (by omega); simpa [Node.enc] using z
    have c3 : w3.cell? ⟨w.heap.size, k * 4 + 3, none⟩ = some (.int .i64 c.nodes_[k].next_) := by have z := Hcc.out 3 (by omega); simpa [Node.enc] using z
    have hk0 : (0 : Int) ≤ (k : Int) := by omega
    have hki : (k : Int) < 16 := by omega
    obtain ⟨X, hX⟩ : ∃ X, c.nodes_[k] = X := ⟨_, rfl⟩
    rw [hX] at c0 c1 c2 c3 HK
    clear Hcc hX
    obtain ⟨xu, xk, xv, xn⟩ := X
    dsimp only at c0 c1 c2 c3
    have HG2 := HG.out
    unfold getW at HG2
    dsimp only at HG2
    rw [HK.out, if_pos rfl] at HG2
    dsimp only at HG2
    by_cases hx : xk = key
    · have Hr := hid (show getC c key = (xv, (n : Int), 0) by rw [HG2, if_neg (by simp [hx])])
      clear HG2 HG
      go_wp2
      exact bodyPost_ret (v := .tuple #[.int .i64 xv, .int .i64 n, .int .i64 0]) (by simp [results, Try.results20, go_sem]) rfl ⟨by rw [Hr.out], HB3.out⟩
    · have Hr := hid (show getC c key = (0, (n : Int), 4) by rw [HG2, if_pos (.inr hx)])
      clear HG2 HG
      go_wp2
      exact bodyPost_ret (v := .tuple #[.int .i64 0, .int .i64 n, .int .i64 4]) (by simp [results, Try.results20, go_sem]) rfl ⟨by rw [Hr.out], HB3.out⟩
end Go.Proofs.Ytadbgfaboafkeaa
