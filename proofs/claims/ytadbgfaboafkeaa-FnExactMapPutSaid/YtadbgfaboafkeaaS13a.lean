/- Chapter 13's model: the walk along a chain. -/
import Derived.Test.YtadbgfaboafkeaaS13
namespace Go.Proofs.Ytadbgfaboafkeaa
set_option maxRecDepth 100000
open Go.RowKit Go.Proofs Go.Own
open Go Go.BigFrame
set_option linter.unusedVariables false
set_option linter.unusedSimpArgs false
set_option maxHeartbeats 8000000 in
theorem spec_l13Walk0 (c : ChainD) (hc : c.nodes_.length = 16) (key : Int) (hok : chainOk c = true) (w : World) :
    Calls Try.prog 36 #[.agg c.enc.toArray, .int .i64 key] w fun e w' => e = .returned (.tuple #[.int .i64 (walkC c key).1, .int .i64 (walkC c key).2.1, .int .i64 (walkC c key).2.2.1, .bool (walkC c key).2.2.2]) ∧ Below w.heap.size w w' := by
  have hl := chain_len hc
  have hl2 : c.enc.toArray.size = 65 := by rw [List.size_toArray, hl]
  have hln : (c.nodes_.flatMap Node.enc).length = 64 := by rw [nodes_len, hc]
  have HC := hid hc
  have HE := hid (show c.enc = [] ++ c.nodes_.flatMap Node.enc ++ [.int .i64 c.first_] from rfl)
  have H64 := hid (show c.enc[64]? = some (.int .i64 c.first_) by rw [HE.out, List.nil_append, List.getElem?_append_right (by omega), hln]; rfl)
  generalize hce : c.enc = ce at *
  obtain ⟨W1, hW1⟩ : ∃ X, w.alloc (.cells ce.toArray 31) = X := ⟨_, rfl⟩
  have hB1 : Below w.heap.size w W1 := by rw [← hW1]; exact (Below.refl _ _).alloc (Nat.le_refl _) _
  have b0 : BoxF W1 w.heap.size ce := by
    rw [← hW1]
    exact BoxF.alloc w ce.toArray 31
  have B0 := hid b0
  have HW1 := hid hW1
  have HB1 := hid hB1
  have HCE := hid hce
  clear hW1 b0 hc hB1 hce
  have HL0 := hid (chainOk_link hok)
  have HWC := hid (show walkTo c.nodes_ key 10 c.first_ (-1) 0 = walkC c key from rfl)
  have k64 : W1.cell? ⟨w.heap.size, 64, none⟩ = some (.int .i64 c.first_) := by
    have z := B0.out.1.2 64 (by rw [hl]; omega)
    rw [z]; exact H64.out
  clear hok
  go_enter Try.func36, Try.ntmps36
  go_upto_region 2 with fail
  rw [HW1.out]
  go_wp2
  clear k64
  go_loopw [8, 9, 10] (fun a u p wr => ∃ (m n : Nat) (x q : Int), a = .int .i64 x ∧ u = .int .i64 n ∧ p = .int .i64 q ∧ n ≤ 10 ∧ Hid (linkTo c.nodes_ m q x = true) ∧ Hid (walkTo c.nodes_ key (10 - n) q x n = walkC c key) ∧ Below W1.heap.size W1 wr) (fun _ u _ _ => 10 - (intOf u).toNat)
  case atStart => exact ⟨usedN c.nodes_, 0, -1, c.first_, rfl, rfl, rfl, by omega, HL0, HWC, Below.refl _ _⟩
  case round =>
    obtain ⟨m, n, x, q, rfl, rfl, rfl, hn, HL, HW, hB⟩ := hrel
    have B0r := hid (B0.out.below hB)
    have HBr := hid (HB1.out.trans (hB.mono HB1.out.size))
    have HBB := hid hB
    clear hB
    by_cases hq : q = -1
    · subst hq
      have Hr := hid (show walkC c key = (-1, x, n, true) by rw [← HW.out]; cases 10 - n <;> simp [walkTo])
      go_wp2
      exact bodyPost_ret (v := .tuple #[.int .i64 (-1), .int .i64 x, .int .i64 n, .bool true]) (by simp [results, Try.results36, go_sem]) rfl ⟨by rw [Hr.out], HBr.out⟩
    · obtain ⟨m', hm', hqi, hl2'⟩ := linkTo_place HL.out hq
      obtain ⟨k, rfl, hk16⟩ : ∃ k : Nat, q = (k : Int) ∧ k < 16 := ⟨q.toNat, by omega, by omega⟩
      clear hqi hm'
      have HL2 := hid hl2'
      clear hl2' HL
      by_cases hn10 : n = 10
      · subst hn10
        have Hr := hid (show walkC c key = (0, 0, 10, false) by rw [← HW.out]; simp [walkTo, hq])
        go_wp2
        exact bodyPost_ret (v := .tuple #[.int .i64 0, .int .i64 0, .int .i64 10, .bool false]) (by simp [results, Try.results36, go_sem]) rfl ⟨by rw [Hr.out]; rfl, HBr.out⟩
      · have hkL : k < c.nodes_.length := by rw [HC.out]; exact hk16
        have hn2 : ¬ (n : Int) = 10 := by omega
        have HK := hid (nd_eq c.nodes_ (k : Int) (by rw [Int.toNat_natCast]; exact hkL))
        simp only [Int.toNat_natCast] at HK
        have Hcc := hid (fun l (hl4 : l < 4) => boxA_cell (A := []) (Z := [.int .i64 c.first_]) Node.enc 4 (fun _ => rfl) (by rw [← HE.out]; exact B0r.out) k hkL l hl4)
        have c0 : wr.cell? ⟨w.heap.size, k * 4, none⟩ = some (.bool c.nodes_[k].used_) := by have z := Hcc.out 0 (by omega); simpa [Node.enc] using z
        have c1 : wr.cell? ⟨w.heap.size, k * 4 + 1, none⟩ = some (.int .i64 c.nodes_[k].key_) := by have z := Hcc.out 1 (by omega); simpa [Node.enc] using z
        have c2 : wr.cell? ⟨w.heap.size, k * 4 + 2, none⟩ = some (.int .i64 c.nodes_[k].value_) := by have z := Hcc.out 2 (by omega); simpa [Node.enc] using z
        have c3 : wr.cell? ⟨w.heap.size, k * 4 + 3, none⟩ = some (.int .i64 c.nodes_[k].next_) := by have z := Hcc.out 3 (by omega); simpa [Node.enc] using z
        have hk0 : (0 : Int) ≤ (k : Int) := by omega
        have hki : (k : Int) < 16 := by omega
        obtain ⟨X, hX⟩ : ∃ X, c.nodes_[k] = X := ⟨_, rfl⟩
        rw [hX] at c0 c1 c2 c3 HK
        clear Hcc hX
        obtain ⟨xu, xk, xv, xn⟩ := X
        dsimp only at c0 c1 c2 c3
        have HW' := HW.out
        rw [show 10 - n = (10 - (n+1)) + 1 by omega] at HW'
        unfold walkTo at HW'
        rw [if_neg hq] at HW'
        simp only [HK.out] at HW'
        have HL3 := HL2.out
        rw [HK.out] at HL3
        have HL4 := hid HL3
        clear HL3 HL2
        by_cases hkk : key ≤ xk
        · rw [if_pos hkk] at HW'
          have Hr := hid HW'.symm
          clear HW' HW
          go_wp2
          exact bodyPost_ret (v := .tuple #[.int .i64 k, .int .i64 x, .int .i64 (n+1 : Nat), .bool true]) (by simp [results, Try.results36, go_sem]) rfl ⟨by rw [Hr.out], HBr.out⟩
        · rw [if_neg hkk] at HW'
          have Hr := hid HW'
          clear HW' HW
          go_wp2
          go_roundw
          case rel => exact ⟨m', n+1, k, xn, rfl, by go_num, rfl, by omega, HL4, Hr, HBB.out⟩
          case measure => simp [intOf]; omega
end Go.Proofs.Ytadbgfaboafkeaa
