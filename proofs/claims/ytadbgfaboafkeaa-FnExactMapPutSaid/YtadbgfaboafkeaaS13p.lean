/- Chapter 13's model: MapPairs. (printed by tools/mk_s13.py) -/
import Derived.Test.YtadbgfaboafkeaaS13r
namespace Go.Proofs.Ytadbgfaboafkeaa
set_option maxRecDepth 100000
open Go.RowKit Go.Proofs Go.Own
open Go Go.BigFrame
set_option linter.unusedVariables false
set_option linter.unusedSimpArgs false
def pairsTo (L : List Node) : Nat → Int → List Node
  | 0, _ => []
  | m+1, p => nd L p :: pairsTo L m (nd L p).next_
def pairsC (c : ChainD) : List Node := if chainOk c = true then pairsTo c.nodes_ (usedN c.nodes_) c.first_ else []
theorem usedN_16 {c : ChainD} (hc : c.nodes_.length = 16) : usedN c.nodes_ ≤ 16 := by unfold usedN; rw [← hc]; exact List.countP_le_length
def keysI (X : List Node) : List Int := X.map Node.key_
def valsI (X : List Node) : List Int := X.map Node.value_
theorem keysI_snoc (X : List Node) (x : Node) : keysI (X ++ [x]) = keysI X ++ [x.key_] := by simp [keysI]
theorem valsI_snoc (X : List Node) (x : Node) : valsI (X ++ [x]) = valsI X ++ [x.value_] := by simp [valsI]
theorem keysI_len (X : List Node) : (keysI X).length = X.length := by simp [keysI]
theorem valsI_len (X : List Node) : (valsI X).length = X.length := by simp [valsI]
def lenV : Value → Nat
  | .slice _ n _ => n
  | _ => 0
set_option maxHeartbeats 8000000 in
theorem spec_MapPairs0 (c : ChainD) (hc : c.nodes_.length = 16) (w : World) :
    Calls Try.prog 22 #[.agg c.enc.toArray] w fun e w' => ∃ u v : Value, e = .returned (.tuple #[u, v]) ∧ w'.ownsRow w.heap.size 3 1 u (keysI (pairsC c)).length ((keysI (pairsC c)).flatMap encI) ∧ w'.ownsRow w.heap.size 3 1 v (valsI (pairsC c)).length ((valsI (pairsC c)).flatMap encI) ∧ (∀ b, u.ownBlock = some b → ¬ v.ownBlock = some b) ∧ Below w.heap.size w w' := by
  obtain ⟨j0, hj, hy0, hy1, hy2⟩ := info_parts infoIntC
  have hu16 := hid (usedN_16 hc)
  have hl := chain_len hc
  have hl2 : c.enc.toArray.size = 65 := by rw [List.size_toArray, hl]
  have hln : (c.nodes_.flatMap Node.enc).length = 64 := by rw [nodes_len, hc]
  have HC := hid hc
  have HE := hid (show c.enc = [] ++ c.nodes_.flatMap Node.enc ++ [.int .i64 c.first_] from rfl)
  have H64 := hid (show c.enc[64]? = some (.int .i64 c.first_) by rw [HE.out, List.nil_append, List.getElem?_append_right (by omega), hln]; rfl)
  generalize hce : c.enc = ce at *
  obtain ⟨W1, hW1⟩ : ∃ X, ((w.alloc (.cells ce.toArray 31)).alloc (.cells #[] 3)).alloc (.cells #[] 3) = X := ⟨_, rfl⟩
  have hB1 : Below w.heap.size w W1 := by rw [← hW1]; exact (((Below.refl _ _).alloc (Nat.le_refl _) _).alloc (by simp) _).alloc (by simp; omega) _
  have b0 : BoxF W1 w.heap.size ce := by
    rw [← hW1]
    exact ((BoxF.alloc w ce.toArray 31).below ((Below.refl _ _).alloc (Nat.le_refl _) _)).below ((Below.refl _ _).alloc (Nat.le_refl _) _)
  have O1 : Hid (W1.ownsRow (w.heap.size + 1) 3 1 (.slice (some ⟨w.heap.size + 1, 0, none⟩) 0 0) 0 []) := by
    rw [← hW1]
    have h1 := owns_litN (w.alloc (.cells ce.toArray 31)) 3 1 0 #[] (w.heap.size + 1) (by simp) rfl (Nat.zero_le _)
    rw [show (w.alloc (.cells ce.toArray 31)).heap.size = w.heap.size + 1 by simp] at h1
    exact hid (owns_below h1 ((Below.refl _ _).alloc (Nat.le_refl _) _))
  have V1 : Hid (W1.ownsRow (w.heap.size + 1) 3 1 (.slice (some ⟨w.heap.size + 1 + 1, 0, none⟩) 0 0) 0 []) := by
    rw [← hW1]
    have h1 := owns_litN ((w.alloc (.cells ce.toArray 31)).alloc (.cells #[] 3)) 3 1 0 #[] (w.heap.size + 1) (by simp) rfl (Nat.zero_le _)
    rw [show ((w.alloc (.cells ce.toArray 31)).alloc (.cells #[] 3)).heap.size = w.heap.size + 1 + 1 by simp] at h1
    exact hid h1
  have hN1 : w.heap.size + 1 ≤ W1.heap.size := by rw [← hW1]; simp
  have B0 := hid b0
  have HW1 := hid hW1
  have HB1 := hid hB1
  have HCE := hid hce
  clear hW1 b0 hc hB1 hce
  have HN1 := hid hN1
  have HCK := hid (show Calls Try.prog 10 #[.agg ce.toArray] W1 fun e w' => e = .returned (.bool (chainOk c)) ∧ Below W1.heap.size W1 w' by have z := spec_ChainOk0 c HC.out W1; rw [HCE.out] at z; exact z)
  have HA0 := hid (fun b (hb : (Value.slice (some ⟨w.heap.size + 1, 0, none⟩) 0 0).ownBlock = some b) => show ¬ (Value.slice (some ⟨w.heap.size + 1 + 1, 0, none⟩) 0 0).ownBlock = some b from fun h9 => by
    have e1 : w.heap.size + 1 = b := Option.some.inj hb
    have e2 : w.heap.size + 1 + 1 = b := Option.some.inj h9
    omega)
  clear hN1
  go_enter Try.func22, Try.ntmps22
  go_wp2_with (refine wpList_load_box rfl 31 _ rfl w.heap.size ce (by first | (rw [HW1.out]; exact B0.out.1) | exact B1.out.1) rfl _ Try.underlying31 rfl (by rw [hl]; kernel_rfl) ?_)
  rw [HW1.out]
  refine HCK.out.mono ?_
  rintro e w2 ⟨rfl, b2⟩
  have B1 := hid (B0.out.below b2)
  have HB2 := hid (HB1.out.trans (b2.mono HB1.out.size))
  have O2 := hid (owns_below O1.out b2)
  have V2 := hid (owns_below V1.out b2)
  have HN2 := hid (show w.heap.size + 1 ≤ w2.heap.size by have := b2.size; have := HN1.out; omega)
  have k64 : w2.cell? ⟨w.heap.size, 64, none⟩ = some (.int .i64 c.first_) := by
    have z := B1.out.1.2 64 (by rw [hl]; omega)
    rw [z]; exact H64.out
  clear b2 HCK O1 V1 HN1
  cases hck : chainOk c with
  | false =>
    have Hr := hid (show pairsC c = [] by unfold pairsC; rw [if_neg (by simp [hck])])
    clear k64
    go_wp2
    go_ret2
    exact ⟨_, _, rfl, by rw [Hr.out]; exact owns_mono O2.out (by omega), by rw [Hr.out]; exact owns_mono V2.out (by omega), HA0.out, HB2.out⟩
  | true =>
  have HG := hid (show [] ++ pairsTo c.nodes_ (usedN c.nodes_) c.first_ = pairsC c by unfold pairsC; rw [if_pos hck]; rfl)
  have HL0 := hid (chainOk_link hck)
  go_wp2
  clear k64
  go_loopw [4, 5, 6] (fun u v p wr => ∃ (m : Nat) (x q : Int) (X : List Node) (ua : Option Addr) (uc : Nat) (va : Option Addr) (vc : Nat), u = .slice ua X.length uc ∧ v = .slice va X.length vc ∧ p = .int .i64 q ∧ X.length + m ≤ 16 ∧ Hid (linkTo c.nodes_ m q x = true) ∧ Hid (X ++ pairsTo c.nodes_ m q = pairsC c) ∧ Hid (Below w.heap.size w wr) ∧ Hid (BoxF wr w.heap.size ce) ∧ Hid (w.heap.size + 1 ≤ wr.heap.size) ∧ Hid (wr.ownsRow (w.heap.size + 1) 3 1 (.slice ua X.length uc) X.length ((keysI X).flatMap encI)) ∧ Hid (wr.ownsRow (w.heap.size + 1) 3 1 (.slice va X.length vc) X.length ((valsI X).flatMap encI)) ∧ Hid (∀ b, (Value.slice ua X.length uc).ownBlock = some b → ¬ (Value.slice va X.length vc).ownBlock = some b)) (fun u _ _ _ => 16 - lenV u)
  case atStart => exact ⟨usedN c.nodes_, -1, c.first_, [], _, _, _, _, rfl, rfl, rfl, by have := hu16.out; simpa using this, HL0, HG, HB2, B1, HN2, O2, V2, HA0⟩
  case round =>
    obtain ⟨m, x, q, X, ua, uc, va, vc, rfl, rfl, rfl, hX, HL, HW, HB, BX, HN, HO, HV, HA⟩ := hrel
    clear HL0 HG HB2 B1 HN2 O2 V2 HA0
    by_cases hq : q = -1
    · subst hq
      have hm : m = 0 := by
        cases m with
        | zero => rfl
        | succ m => have z := HL.out; simp [linkTo, inB] at z
      subst hm
      have Hr := hid (show pairsC c = X by rw [← HW.out]; simp [pairsTo])
      go_wp2
      go_ret2
      exact ⟨_, _, rfl, by rw [Hr.out, keysI_len]; exact owns_mono HO.out (by omega), by rw [Hr.out, valsI_len]; exact owns_mono HV.out (by omega), HA.out, HB.out⟩
    · obtain ⟨m', rfl, hqi, hl2'⟩ := linkTo_place HL.out hq
      obtain ⟨k, rfl, hk16⟩ : ∃ k : Nat, q = (k : Int) ∧ k < 16 := ⟨q.toNat, by omega, by omega⟩
      clear hqi
      have HL2 := hid hl2'
      clear hl2' HL
      have hkL : k < c.nodes_.length := by rw [HC.out]; exact hk16
      have HK := hid (nd_eq c.nodes_ (k : Int) (by rw [Int.toNat_natCast]; exact hkL))
      simp only [Int.toNat_natCast] at HK
      have Hcc := hid (fun l (hl4 : l < 4) => boxA_cell (A := []) (Z := [.int .i64 c.first_]) Node.enc 4 (fun _ => rfl) (by rw [← HE.out]; exact BX.out) k hkL l hl4)
      have c0 : wr.cell? ⟨w.heap.size, k * 4, none⟩ = some (.bool c.nodes_[k].used_) := by have z := Hcc.out 0 (by omega); simpa [Node.enc] using z
      have c1 : wr.cell? ⟨w.heap.size, k * 4 + 1, none⟩ = some (.int .i64 c.nodes_[k].key_) := by have z := Hcc.out 1 (by omega); simpa [Node.enc] using z
      have c2 : wr.cell? ⟨w.heap.size, k * 4 + 2, none⟩ = some (.int .i64 c.nodes_[k].value_) := by have z := Hcc.out 2 (by omega); simpa [Node.enc] using z
      have c3 : wr.cell? ⟨w.heap.size, k * 4 + 3, none⟩ = some (.int .i64 c.nodes_[k].next_) := by have z := Hcc.out 3 (by omega); simpa [Node.enc] using z
      have hk0 : (0 : Int) ≤ (k : Int) := by omega
      have hki : (k : Int) < 16 := by omega
      obtain ⟨X, hX⟩ : ∃ X, c.nodes_[k] = X := ⟨_, rfl⟩
      rw [hX] at c0 c1 c2 c3 HK
      clear Hcc hX
      obtain ⟨xu, xk, xv, xn⟩ := X
      dsimp only at c0 c1 c2 c3
      have HL3 := HL2.out
      rw [HK.out] at HL3
      have HL4 := hid HL3
      clear HL3 HL2
      have HW2 := hid (show (X ++ [⟨xu, xk, xv, xn⟩]) ++ pairsTo c.nodes_ m' xn = pairsC c by
        rw [← HW.out, List.append_assoc]
        show _ = X ++ (nd c.nodes_ k :: pairsTo c.nodes_ m' (nd c.nodes_ k).next_)
        rw [HK.out]; rfl)
      clear HW c0 c3
      have hX16 : X.length < 16 := by omega
      obtain ⟨W3, hW3⟩ : ∃ Y, wr.alloc (.cells #[.int .i64 xk] 3) = Y := ⟨_, rfl⟩
      have hs3 : W3.heap.size = wr.heap.size + 1 := by rw [← hW3]; simp
      have HS3 := hid hs3
      have b23 : Below wr.heap.size wr W3 := by rw [← hW3]; exact (Below.refl _ _).alloc (Nat.le_refl _) _
      have hl3 : Flat W3 (.slice (some ⟨wr.heap.size, 0, none⟩) 1 1) 1 1 [.int .i64 xk] := by rw [← hW3]; exact Flat.of_owns (owns_litN wr 3 1 1 #[.int .i64 xk] 0 (Nat.zero_le _) rfl (by decide))
      have HB3 := hid (HB.out.trans (b23.mono HB.out.size))
      have O3 := owns_below HO.out b23
      have V3 := hid (owns_below HV.out b23)
      have BX3 := hid (BX.out.below b23)
      have hone := oneC xk
      have hs3' : w.heap.size + 1 ≤ W3.heap.size := by have := b23.size; have := HN.out; omega
      clear hs3
      have HV0 := hid (fun b hb => (World.ownsRow.lt HV.out b hb).2)
      go_wp2_with (at_builtin; refine wpList_append_at rfl _ _ 44 rfl (w.heap.size + 1) 3 j0 (.int .i64 0) 1 8 Try.underlying44 hj hy0 hy1 hy2 rfl (by decide) _ _ _ rfl O3 _ 1 _ rfl hl3 (by decide) hone (by unfold maxLen; omega) (by omega) hs3' ?_)
      intro v4 w4 o4 g4 p4
      obtain ⟨ya, yc, rfl, -, -⟩ := owns_form o4
      have HB4 := hid (HB3.out.trans (below_grown g4 HB3.out.size fun b e => by have := (World.ownsRow.lt O3 b e).1; omega))
      have BX4 := hid (BX3.out.grown g4 (fun e => by have := (World.ownsRow.lt O3 _ e).1; omega))
      have V4 := hid (owns_same V3.out fun b hb => g4.block b (World.ownsRow.lt V3.out b hb).2 (fun e => HA.out b e.symm hb))
      have HA4 := hid (fun b (hb : (Value.slice ya (X.length + 1) yc).ownBlock = some b) => show ¬ (Value.slice va X.length vc).ownBlock = some b from fun h9 => by
        rcases p4 b hb with e | e
        · exact HA.out b e h9
        · have := HV0.out b h9; have := HS3.out; omega)
      have O4 := hid o4
      have HN4 := hid (show w.heap.size + 1 ≤ w4.heap.size by have := g4.size; omega)
      have e2 : w4.cell? ⟨w.heap.size, k * 4 + 2, none⟩ = some (.int .i64 xv) := by
        have z := boxA_cell (A := []) (Z := [.int .i64 c.first_]) Node.enc 4 (fun _ => rfl) (by rw [← HE.out]; exact BX4.out) k (by rw [HC.out]; exact hk16) 2 (by omega)
        rw [show (c.nodes_[k]'(by rw [HC.out]; exact hk16)) = ⟨xu, xk, xv, xn⟩ from ((nd_eq c.nodes_ (k : Int) (by rw [Int.toNat_natCast, HC.out]; exact hk16)).symm.trans HK.out)] at z
        simpa [Node.enc] using z
      clear o4 g4 p4 O3 V3 BX3 BX HO HV HV0 HA hl3 hW3 b23 hone c1 c2 hs3' HS3 HB HB3 HN
      obtain ⟨W5, hW5⟩ : ∃ Y, w4.alloc (.cells #[.int .i64 xv] 3) = Y := ⟨_, rfl⟩
      have HS5 := hid (show W5.heap.size = w4.heap.size + 1 by rw [← hW5]; simp)
      have b45 : Below w4.heap.size w4 W5 := by rw [← hW5]; exact (Below.refl _ _).alloc (Nat.le_refl _) _
      have hl5 : Flat W5 (.slice (some ⟨w4.heap.size, 0, none⟩) 1 1) 1 1 [.int .i64 xv] := by rw [← hW5]; exact Flat.of_owns (owns_litN w4 3 1 1 #[.int .i64 xv] 0 (Nat.zero_le _) rfl (by decide))
      have HB5 := hid (HB4.out.trans (b45.mono HB4.out.size))
      have V5 := owns_below V4.out b45
      have O5 := hid (owns_below O4.out b45)
      have BX5 := hid (BX4.out.below b45)
      have hone := oneC xv
      have hs5' : w.heap.size + 1 ≤ W5.heap.size := by have := b45.size; have := HN4.out; omega
      have HO0 := hid (fun b hb => (World.ownsRow.lt O4.out b hb).2)
      go_wp2_with (at_builtin; refine wpList_append_at rfl _ _ 44 rfl (w.heap.size + 1) 3 j0 (.int .i64 0) 1 8 Try.underlying44 hj hy0 hy1 hy2 rfl (by decide) _ _ _ rfl V5 _ 1 _ rfl hl5 (by decide) hone (by unfold maxLen; omega) (by omega) hs5' ?_)
      intro v6 w6 o6 g6 p6
      obtain ⟨za, zc, rfl, -, -⟩ := owns_form o6
      have HB6 := hid (HB5.out.trans (below_grown g6 HB5.out.size fun b e => by have := (World.ownsRow.lt V5 b e).1; omega))
      have BX6 := hid (BX5.out.grown g6 (fun e => by have := (World.ownsRow.lt V5 _ e).1; omega))
      have O6 := hid (owns_same O5.out fun b hb => g6.block b (World.ownsRow.lt O5.out b hb).2 (fun e => HA4.out b hb e.symm))
      have HA6 := hid (fun b (hb : (Value.slice ya (X.length + 1) yc).ownBlock = some b) => show ¬ (Value.slice za (X.length + 1) zc).ownBlock = some b from fun h9 => by
        rcases p6 b h9 with e | e
        · exact HA4.out b hb e
        · have := HO0.out b hb; have := HS5.out; omega)
      have V6 := hid o6
      have HN6 := hid (show w.heap.size + 1 ≤ w6.heap.size by have := g6.size; omega)
      have e3 : w6.cell? ⟨w.heap.size, k * 4 + 3, none⟩ = some (.int .i64 xn) := by
        have z := boxA_cell (A := []) (Z := [.int .i64 c.first_]) Node.enc 4 (fun _ => rfl) (by rw [← HE.out]; exact BX6.out) k (by rw [HC.out]; exact hk16) 3 (by omega)
        rw [show (c.nodes_[k]'(by rw [HC.out]; exact hk16)) = ⟨xu, xk, xv, xn⟩ from ((nd_eq c.nodes_ (k : Int) (by rw [Int.toNat_natCast, HC.out]; exact hk16)).symm.trans HK.out)] at z
        simpa [Node.enc] using z
      clear o6 g6 p6 V5 O5 BX5 BX4 O4 V4 HO0 HA4 hl5 hW5 b45 hone e2 hs5' HS5 HB4 HB5 HN4
      go_wp2
      go_roundw
      case rel => exact ⟨m', k, xn, X ++ [⟨xu, xk, xv, xn⟩], ya, yc, za, zc, by rw [List.length_append]; rfl, by rw [List.length_append]; rfl, rfl, by rw [List.length_append, List.length_singleton]; omega, HL4, HW2, HB6, BX6, HN6, hid (by rw [keysI_snoc, encI_snocC, List.length_append]; exact O6.out), hid (by rw [valsI_snoc, encI_snocC, List.length_append]; exact V6.out), hid (by rw [List.length_append]; exact HA6.out)⟩
      case measure => exact (show 16 - (X.length + 1) < 16 - X.length by omega)
end Go.Proofs.Ytadbgfaboafkeaa
