/- Chapter 13's program: MapGet. -/
import Derived.Test.YtadbgfaboafkeaaI13w
import Derived.Test.YtadbgfaboafkeaaS13g
namespace Go.Proofs.Ytadbgfaboafkeaa
set_option maxRecDepth 100000
open Go.RowKit Go.Proofs Go.Own
open Go Go.BigFrame
set_option linter.unusedVariables false
set_option linter.unusedSimpArgs false
/-- The ways in which a walk ends. -/
theorem kwP_cases {c : ChainD} {key n a p r : Int} (h : kwP c key n a p r) :
    ((chainOk c && isVal key) = false ∧ r = 1 ∧ n = 0) ∨
    ((chainOk c && isVal key) = true ∧ ∃ (m : Nat), n = (m : Int) ∧ m ≤ 10 ∧
      ((r = 2 ∧ ∃ p0 a0, walkC c key = (p0, a0, m, false)) ∨
       (r = 4 ∧ walkC c key = (p, a, m, true) ∧ plOk p ∧ plOk a ∧ (p < 0 ∨ ¬ (nd c.nodes_ p).key_ = key)) ∨
       (r = 0 ∧ walkC c key = (p, a, m, true) ∧ plOk a ∧ (0 ≤ p ∧ p ≤ 15) ∧ (nd c.nodes_ p).key_ = key))) := by
  rcases h with h | ⟨h1, h2, h3, h4⟩
  · exact .inl h
  · refine .inr ⟨h1, ?_⟩
    have hok : chainOk c = true := by simp only [Bool.and_eq_true] at h1; exact h1.1
    have hp := walkC_ok key hok
    obtain ⟨W, hw⟩ : ∃ W, walkC c key = W := ⟨_, rfl⟩
    rw [hw] at h2 h3 h4 hp ⊢
    obtain ⟨p0, a0, m, ok⟩ := W
    dsimp only at h2 h3 h4 hp
    refine ⟨m, h3, hp.2.2, ?_⟩
    unfold codeR at h2
    cases ok with
    | false => exact .inl ⟨by simpa using h2, p0, a0, rfl⟩
    | true =>
      obtain ⟨rfl, rfl⟩ := h4 rfl
      rw [if_pos rfl] at h2
      dsimp only at h2
      by_cases hx : p < 0 ∨ ¬ (nd c.nodes_ p).key_ = key
      · rw [if_pos hx] at h2
        exact .inr (.inl ⟨h2, rfl, hp.1, hp.2.1, hx⟩)
      · rw [if_neg hx] at h2
        have hx1 : ¬ p < 0 := fun h => hx (.inl h)
        have hx2 : (nd c.nodes_ p).key_ = key := Decidable.byContradiction fun h => hx (.inr h)
        refine .inr (.inr ⟨h2, rfl, hp.2.1, ?_, hx2⟩)
        rcases hp.1 with h9 | h9
        · omega
        · exact h9
set_option maxHeartbeats 8000000 in
theorem impl_MapGet0 (c : ChainD) (hc : c.nodes_.length = 16) (key : Int) (w : World) :
    Calls Try.prog 21 #[.agg c.enc.toArray, .int .i64 key] w fun e w' => e = .returned (.tuple #[.int .i64 (getC c key).1, .int .i64 (getC c key).2.1, .int .i64 (getC c key).2.2]) ∧ Below w.heap.size w w' := by
  have hl := chain_len hc
  have hl2 : c.enc.toArray.size = 65 := by rw [List.size_toArray, hl]
  have hln : (c.nodes_.flatMap Node.enc).length = 64 := by rw [nodes_len, hc]
  have HC := hid hc
  have HE := hid (show c.enc = [] ++ c.nodes_.flatMap Node.enc ++ [.int .i64 c.first_] from rfl)
  have HW0 := hid (fun (W : World) => impl_walkTo0 c hc key W)
  generalize hce : c.enc = ce at *
  obtain ⟨W1, hW1⟩ : ∃ X, w.alloc (.cells ce.toArray 31) = X := ⟨_, rfl⟩
  have hB1 : Below w.heap.size w W1 := by rw [← hW1]; exact (Below.refl _ _).alloc (Nat.le_refl _) _
  have b0 : BoxF W1 w.heap.size ce := by
    rw [← hW1]
    exact BoxF.alloc w ce.toArray 31
  have B1 := hid b0
  have HB1 := hid hB1
  have HWK := hid (HW0.out W1)
  clear b0 hc hB1 hce HW0
  go_enter Try.func21, Try.ntmps21
  go_wp2_with (first | (go_at_call 38; refine HWK.out.mono ?_) | (refine wpList_load_box rfl 31 _ rfl w.heap.size ce (by exact B1.out.1) rfl _ Try.underlying31 rfl (by rw [hl]; kernel_rfl) ?_))
  rintro e w2 ⟨⟨v, r, rfl, n, a, p, rfl, hk⟩, b2⟩
  clear hW1
  have B2 := hid (B1.out.below b2)
  have HB2 := hid (HB1.out.trans (b2.mono HB1.out.size))
  clear b2
  obtain ⟨W3, hW3⟩ : ∃ X, w2.alloc (.cells #[.int .i64 n, .int .i64 a, .int .i64 p] 62) = X := ⟨_, rfl⟩
  have hb3 : Below w2.heap.size w2 W3 := by rw [← hW3]; exact (Below.refl _ _).alloc (Nat.le_refl _) _
  have hv : BoxF W3 w2.heap.size [.int .i64 n, .int .i64 a, .int .i64 p] := by rw [← hW3]; exact BoxF.alloc w2 #[.int .i64 n, .int .i64 a, .int .i64 p] 62
  have v0 := hv.1.2 0 (by simp)
  have v2 := hv.1.2 2 (by simp)
  simp only [List.getElem?_cons_zero, List.getElem?_cons_succ] at v0 v2
  have B3 := hid (B2.out.below hb3)
  have HB3 := hid (HB2.out.trans (hb3.mono HB2.out.size))
  clear hb3 hv
  rcases kwP_cases hk with ⟨h1, rfl, rfl⟩ | ⟨h1, m, rfl, hm, (⟨rfl, p0, a0, h2⟩ | ⟨rfl, h2, h3, h4, h5⟩ | ⟨rfl, h2, h4, h3, h5⟩)⟩
  · have Hr := hid (show getC c key = (0, 0, 1) by unfold getC; rw [h1]; rfl)
    clear hk h1
    go_wp2
    go_quiet (fail)
    go_wp2
    exact bodyPost_ret (v := .tuple #[.int .i64 0, .int .i64 0, .int .i64 1]) (by simp [results, Try.results21, go_sem]) rfl ⟨by rw [Hr.out], below_drewN HB3.out _⟩
  · have Hr := hid (show getC c key = (0, (m : Int), 2) by unfold getC; rw [if_pos h1, h2]; rfl)
    clear hk h1 h2
    go_wp2
    go_quiet (fail)
    go_wp2
    exact bodyPost_ret (v := .tuple #[.int .i64 0, .int .i64 m, .int .i64 2]) (by simp [results, Try.results21, go_sem]) rfl ⟨by rw [Hr.out], below_drewN HB3.out _⟩
  · have Hr := hid (show getC c key = (0, (m : Int), 4) by unfold getC getW; rw [if_pos h1, h2]; dsimp only; rw [if_pos rfl, if_pos h5])
    clear hk h1 h2 h3 h4 h5
    go_wp2
    go_quiet (fail)
    go_wp2
    exact bodyPost_ret (v := .tuple #[.int .i64 0, .int .i64 m, .int .i64 4]) (by simp [results, Try.results21, go_sem]) rfl ⟨by rw [Hr.out], below_drewN HB3.out _⟩
  · have Hr := hid (show getC c key = ((nd c.nodes_ p).value_, (m : Int), 0) by unfold getC getW; rw [if_pos h1, h2]; dsimp only; rw [if_pos rfl, if_neg (by rintro (h | h); omega; exact h h5)])
    obtain ⟨k, rfl, hk16⟩ : ∃ k : Nat, p = (k : Int) ∧ k < 16 := ⟨p.toNat, by omega, by omega⟩
    have hkL : k < c.nodes_.length := by rw [HC.out]; exact hk16
    have HK := hid (nd_eq c.nodes_ (k : Int) (by rw [Int.toNat_natCast]; exact hkL))
    simp only [Int.toNat_natCast] at HK
    have Hcc := hid (fun l (hl4 : l < 4) => boxA_cell (A := []) (Z := [.int .i64 c.first_]) Node.enc 4 (fun _ => rfl) (by rw [← HE.out]; exact B3.out) k hkL l hl4)
    have c2 : W3.cell? ⟨w.heap.size, k * 4 + 2, none⟩ = some (.int .i64 c.nodes_[k].value_) := by have z := Hcc.out 2 (by omega); simpa [Node.enc] using z
    have hk0 : (0 : Int) ≤ (k : Int) := by omega
    have hki : (k : Int) < 16 := by omega
    rw [HK.out] at Hr
    obtain ⟨X, hX⟩ : ∃ X, c.nodes_[k].value_ = X := ⟨_, rfl⟩
    rw [hX] at c2 Hr
    clear hk h1 h2 h3 h4 h5 Hcc hX
    go_wp2
    go_quiet (fail)
    go_wp2
    exact bodyPost_ret (v := .tuple #[.int .i64 X, .int .i64 m, .int .i64 0]) (by simp [results, Try.results21, go_sem]) rfl ⟨by rw [Hr.out], below_drewN HB3.out _⟩
end Go.Proofs.Ytadbgfaboafkeaa
