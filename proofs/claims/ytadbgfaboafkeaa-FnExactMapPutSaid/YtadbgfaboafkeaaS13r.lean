/- Chapter 13's model: MapRange. (printed by tools/mk_s13.py) -/
import Derived.Test.YtadbgfaboafkeaaS13g
namespace Go.Proofs.Ytadbgfaboafkeaa
set_option maxRecDepth 100000
open Go.RowKit Go.Proofs Go.Own
open Go Go.BigFrame
set_option linter.unusedVariables false
set_option linter.unusedSimpArgs false
def rangeTo (L : List Node) (lo hi : Int) : Nat → Int → List Int → List Int × Int
  | 0, p, xs => if p = -1 then (xs, 0) else ([], 2)
  | f+1, p, xs => if p = -1 then (xs, 0) else if hi < (nd L p).key_ then (xs, 0) else rangeTo L lo hi f (nd L p).next_ (if lo ≤ (nd L p).key_ then xs ++ [(nd L p).key_] else xs)
def rangeC (c : ChainD) (lo hi : Int) : List Int × Int := if chainOk c = true then rangeTo c.nodes_ lo hi 10 c.first_ [] else ([], 1)
theorem infoIntC : (Try.prog.info? 3).map (fun i => (i.zero, i.size, i.bytes)) = some (some (.int .i64 0), 1, 8) := by kernel_rfl
theorem oneC (x : Int) : ∀ c ∈ [Value.int .i64 x], c.oneCell' = true := by intro c hc; simp at hc; subst hc; rfl
theorem encI_snocC (xs : List Int) (k : Int) : (xs ++ [k]).flatMap encI = xs.flatMap encI ++ [.int .i64 k] := by simp [encI]
theorem boxF_next {L : List Node} {f : Value} {ce : List Value} {w : World} {b : Nat} (he : ce = [] ++ L.flatMap Node.enc ++ [f]) (h : BoxF w b ce) (k : Nat) (hk : k < L.length) : w.cell? ⟨b, k * 4 + 3, none⟩ = some (.int .i64 L[k].next_) := by
  have z := boxA_cell (A := []) (Z := [f]) Node.enc 4 (fun _ => rfl) (by rw [← he]; exact h) k hk 3 (by omega)
  simpa [Node.enc] using z
set_option maxHeartbeats 8000000 in
theorem spec_MapRange0 (c : ChainD) (hc : c.nodes_.length = 16) (lo hi : Int) (w : World) :
    Calls Try.prog 27 #[.agg c.enc.toArray, .int .i64 lo, .int .i64 hi] w fun e w' => ∃ u : Value, e = .returned (.tuple #[u, .int .i64 (rangeC c lo hi).2]) ∧ w'.ownsRow w.heap.size 3 1 u (rangeC c lo hi).1.length ((rangeC c lo hi).1.flatMap encI) ∧ Below w.heap.size w w' := by
  obtain ⟨j0, hj, hy0, hy1, hy2⟩ := info_parts infoIntC
  have hl := chain_len hc
  have hl2 : c.enc.toArray.size = 65 := by rw [List.size_toArray, hl]
  have hln : (c.nodes_.flatMap Node.enc).length = 64 := by rw [nodes_len, hc]
  have HC := hid hc
  have HE := hid (show c.enc = [] ++ c.nodes_.flatMap Node.enc ++ [.int .i64 c.first_] from rfl)
  have H64 := hid (show c.enc[64]? = some (.int .i64 c.first_) by rw [HE.out, List.nil_append, List.getElem?_append_right (by omega), hln]; rfl)
  generalize hce : c.enc = ce at *
  obtain ⟨W1, hW1⟩ : ∃ X, (w.alloc (.cells ce.toArray 31)).alloc (.cells #[] 3) = X := ⟨_, rfl⟩
  have hB1 : Below w.heap.size w W1 := by rw [← hW1]; exact ((Below.refl _ _).alloc (Nat.le_refl _) _).alloc (by simp) _
  have b0 : BoxF W1 w.heap.size ce := by
    rw [← hW1]
    exact (BoxF.alloc w ce.toArray 31).below ((Below.refl _ _).alloc (Nat.le_refl _) _)
  have O1 : Hid (W1.ownsRow (w.heap.size + 1) 3 1 (.slice (some ⟨w.heap.size + 1, 0, none⟩) 0 0) 0 []) := by
    rw [← hW1]
    have h1 := owns_litN (w.alloc (.cells ce.toArray 31)) 3 1 0 #[] (w.heap.size + 1) (by simp) rfl (Nat.zero_le _)
    rw [show (w.alloc (.cells ce.toArray 31)).heap.size = w.heap.size + 1 by simp] at h1
    exact hid h1
  have hN1 : w.heap.size + 1 ≤ W1.heap.size := by rw [← hW1]; simp
  have B0 := hid b0
  have HW1 := hid hW1
  have HB1 := hid hB1
  have HCE := hid hce
  clear hW1 b0 hc hB1 hce
  have HN1 := hid hN1
  have HCK := hid (show Calls Try.prog 10 #[.agg ce.toArray] W1 fun e w' => e = .returned (.bool (chainOk c)) ∧ Below W1.heap.size W1 w' by have z := spec_ChainOk0 c HC.out W1; rw [HCE.out] at z; exact z)
  clear hN1
  go_enter Try.func27, Try.ntmps27
  go_wp2_with (refine wpList_load_box rfl 31 _ rfl w.heap.size ce (by first | (rw [HW1.out]; exact B0.out.1) | exact B1.out.1) rfl _ Try.underlying31 rfl (by rw [hl]; kernel_rfl) ?_)
  rw [HW1.out]
  refine HCK.out.mono ?_
  rintro e w2 ⟨rfl, b2⟩
  have B1 := hid (B0.out.below b2)
  have HB2 := hid (HB1.out.trans (b2.mono HB1.out.size))
  have O2 := hid (owns_below O1.out b2)
  have HN2 := hid (show w.heap.size + 1 ≤ w2.heap.size by have := b2.size; have := HN1.out; omega)
  have k64 : w2.cell? ⟨w.heap.size, 64, none⟩ = some (.int .i64 c.first_) := by
    have z := B1.out.1.2 64 (by rw [hl]; omega)
    rw [z]; exact H64.out
  clear b2 HCK O1 HN1
  cases hck : chainOk c with
  | false =>
    have Hr := hid (show rangeC c lo hi = ([], 1) by simp [rangeC, hck])
    clear k64
    go_wp2
    go_ret2
    exact ⟨_, by rw [Hr.out]; rfl, by rw [Hr.out]; exact owns_mono O2.out (by omega), HB2.out⟩
  | true =>
  have HG := hid (show rangeTo c.nodes_ lo hi (10 - 0) c.first_ [] = rangeC c lo hi by unfold rangeC; rw [if_pos hck])
  have HL0 := hid (chainOk_link hck)
  go_wp2
  clear k64
  go_loopw [8, 9, 10] (fun u i p wr => ∃ (m n : Nat) (x q : Int) (X : List Int) (ua : Option Addr) (um uc : Nat), u = .slice ua um uc ∧ i = .int .i64 n ∧ p = .int .i64 q ∧ n ≤ 10 ∧ X.length ≤ n ∧ Hid (linkTo c.nodes_ m q x = true) ∧ Hid (rangeTo c.nodes_ lo hi (10 - n) q X = rangeC c lo hi) ∧ Hid (Below w.heap.size w wr) ∧ Hid (BoxF wr w.heap.size ce) ∧ Hid (w.heap.size + 1 ≤ wr.heap.size) ∧ Hid (wr.ownsRow (w.heap.size + 1) 3 1 (.slice ua um uc) X.length (X.flatMap encI))) (fun _ i _ _ => 10 - (intOf i).toNat)
  case atStart => exact ⟨usedN c.nodes_, 0, -1, c.first_, [], _, _, _, rfl, rfl, rfl, by omega, by simp, HL0, HG, HB2, B1, HN2, O2⟩
  case round =>
    obtain ⟨m, n, x, q, X, ua, um, uc, rfl, rfl, rfl, hn, hX, HL, HW, HB, BX, HN, HO⟩ := hrel
    clear HL0 HG HB2 B1 HN2 O2
    by_cases hq : q = -1
    · subst hq
      have Hr := hid (show rangeC c lo hi = (X, 0) by rw [← HW.out]; cases 10 - n <;> simp [rangeTo])
      go_wp2
      go_ret2
      exact ⟨_, by rw [Hr.out]; rfl, by rw [Hr.out]; exact owns_mono HO.out (by omega), HB.out⟩
    · obtain ⟨m', hm', hqi, hl2'⟩ := linkTo_place HL.out hq
      obtain ⟨k, rfl, hk16⟩ : ∃ k : Nat, q = (k : Int) ∧ k < 16 := ⟨q.toNat, by omega, by omega⟩
      clear hqi hm'
      have HL2 := hid hl2'
      clear hl2' HL
      by_cases hn10 : n = 10
      · subst hn10
        have Hr := hid (show rangeC c lo hi = ([], 2) by rw [← HW.out]; simp [rangeTo, hq])
        have HBA := hid (HB.out.alloc HB.out.size (.cells #[] 3))
        have HOA := hid (owns_litN wr 3 1 0 #[] w.heap.size HB.out.size rfl (Nat.zero_le _))
        go_wp2
        go_ret2
        exact ⟨_, by rw [Hr.out]; rfl, by rw [Hr.out]; exact HOA.out, HBA.out⟩
      · have hn2 : ¬ (n : Int) = 10 := by omega
        have hkL : k < c.nodes_.length := by rw [HC.out]; exact hk16
        have HK := hid (nd_eq c.nodes_ (k : Int) (by rw [Int.toNat_natCast]; exact hkL))
        simp only [Int.toNat_natCast] at HK
        have Hcc := hid (fun l (hl4 : l < 4) => boxA_cell (A := []) (Z := [.int .i64 c.first_]) Node.enc 4 (fun _ => rfl) (by rw [← HE.out]; exact BX.out) k hkL l hl4)
        have c0 : wr.cell? ⟨w.heap.size, k * 4, none⟩ = some (.bool c.nodes_[k].used_) := by have z := Hcc.out 0 (by omega); simpa [Node.enc] using z
        have c1 : wr.cell? ⟨w.heap.size, k * 4 + 1, none⟩ = some (.int .i64 c.nodes_[k].key_) := by have z := Hcc.out 1 (by omega); simpa [Node.enc] using z
        have c2 : wr.cell? ⟨w.heap.size, k * 4 + 2, none⟩ = some (.int .i64 c.nodes_[k].value_) := by have z := Hcc.out 2 (by omega); simpa [Node.enc] using z
        have c3 : wr.cell? ⟨w.heap.size, k * 4 + 3, none⟩ = some (.int .i64 c.nodes_[k].next_) := by have z := Hcc.out 3 (by omega); simpa [Node.enc] using z
        have hk0 : (0 : Int) ≤ (k : Int) := by omega
        have hki : (k : Int) < 16 := by omega
        obtain ⟨X, hX⟩ : ∃ X, c.nodes_[k] = X := ⟨_, rfl⟩
        rw [hX] at c0 c1 c2 c3 HK
        clear Hcc hX
        obtain ⟨xu, xk, xv, xn⟩ := X
        dsimp only at c0 c1 c2 c3
        have HW' := HW.out
        rw [show 10 - n = (10 - (n+1)) + 1 by omega] at HW'
        unfold rangeTo at HW'
        rw [if_neg hq] at HW'
        simp only [HK.out] at HW'
        have HL3 := HL2.out
        rw [HK.out] at HL3
        have HL4 := hid HL3
        clear HL3 HL2
        by_cases hkk : hi < xk
        · rw [if_pos hkk] at HW'
          have Hr := hid HW'.symm
          clear HW' HW
          go_wp2
          go_ret2
          exact ⟨_, by rw [Hr.out]; rfl, by rw [Hr.out]; exact owns_mono HO.out (by omega), HB.out⟩
        · rw [if_neg hkk] at HW'
          by_cases hlo : lo ≤ xk
          · rw [if_pos hlo] at HW'
            have Hr := hid HW'
            clear HW' HW c0 c2
            obtain ⟨W3, hW3⟩ : ∃ Y, wr.alloc (.cells #[.int .i64 xk] 3) = Y := ⟨_, rfl⟩
            have b23 : Below wr.heap.size wr W3 := by rw [← hW3]; exact (Below.refl _ _).alloc (Nat.le_refl _) _
            have hl3 : Flat W3 (.slice (some ⟨wr.heap.size, 0, none⟩) 1 1) 1 1 [.int .i64 xk] := by rw [← hW3]; exact Flat.of_owns (owns_litN wr 3 1 1 #[.int .i64 xk] 0 (Nat.zero_le _) rfl (by decide))
            have HB3 := hid (HB.out.trans (b23.mono HB.out.size))
            have O3 := owns_below HO.out b23
            have BX3 := hid (BX.out.below b23)
            have hone := oneC xk
            have hs3' : w.heap.size + 1 ≤ W3.heap.size := by have := b23.size; have := HN.out; omega
            go_wp2_with (at_builtin; refine wpList_append_flat rfl _ _ 44 rfl (w.heap.size + 1) 3 j0 (.int .i64 0) 1 8 Try.underlying44 hj hy0 hy1 hy2 rfl (by decide) _ _ _ rfl O3 _ _ _ rfl hl3 hone (by unfold maxLen; omega) (by omega) hs3' ?_)
            intro v4 w4 o4 g4
            obtain ⟨ya, ym, yc, rfl⟩ := owns_form3 o4
            have HB4 := hid (HB3.out.trans (below_grown g4 HB3.out.size fun b e => by have := (World.ownsRow.lt O3 b e).1; omega))
            have BX4 := hid (BX3.out.grown g4 (fun e => by have := (World.ownsRow.lt O3 _ e).1; omega))
            have O4 := hid o4
            have HN4 := hid (show w.heap.size + 1 ≤ w4.heap.size by have := g4.size; omega)
            have c3' := (boxF_next HE.out BX4.out k (by rw [HC.out]; exact hk16))
            rw [show (c.nodes_[k]'(by rw [HC.out]; exact hk16)).next_ = xn from (congrArg Node.next_ ((nd_eq c.nodes_ (k : Int) (by rw [Int.toNat_natCast, HC.out]; exact hk16)).symm.trans HK.out))] at c3'
            clear o4 g4 O3 BX3 BX HO hl3 hW3 b23 hone c1 c3 hs3'
            go_wp2
            go_roundw
            case rel => exact ⟨m', n+1, k, xn, X ++ [xk], _, _, _, rfl, by go_num, rfl, by omega, by simp; omega, HL4, Hr, HB4, BX4, HN4, hid (by rw [encI_snocC, List.length_append]; exact O4.out)⟩
            case measure => simp [intOf]; omega
          · rw [if_neg hlo] at HW'
            have Hr := hid HW'
            clear HW' HW
            go_wp2
            go_roundw
            case rel => exact ⟨m', n+1, k, xn, X, _, _, _, rfl, by go_num, rfl, by omega, by omega, HL4, Hr, HB, BX, HN, HO⟩
            case measure => simp [intOf]; omega
end Go.Proofs.Ytadbgfaboafkeaa
