/- Chapter 15's model: TreeKeys. -/
import Derived.Test.YtcjeafhejkppeaaS15o
import Derived.Test.YtcjeafhejkppeaaF15w
namespace Go.Proofs.Ytcjeafhejkppeaa
set_option maxRecDepth 100000
open Go.RowKit Go.Proofs Go.Own
open Go Go.BigFrame
set_option linter.unusedVariables false
set_option linter.unusedSimpArgs false
def keyAt (L : List Twig) (p : Int) : Int := (tw L p).key_
def keysC (t : TreeD) : List Int := if treeOk t = true then (listT t.twigs_ t.root_).1.map (keyAt t.twigs_) else []
theorem Row.owns {S : Nat → Prop} {w : World} {v : Value} {xs : List Int} (h : Row S w v xs) {N : Nat} (hN : ∀ k, S k → N ≤ k) : w.ownsRow N 3 1 v xs.length (xs.flatMap encI) := owns_base h.1 fun k hk => hN k (h.2 k hk)
theorem keysC_part {t : TreeD} (hL : t.twigs_.length = 16) (h : treeOk t = true) : ∃ xs, Part t.twigs_ t.root_ xs ∧ listT t.twigs_ t.root_ = (xs, true) ∧ xs.length ≤ 16 ∧ keysC t = xs.map (keyAt t.twigs_) := by
  obtain ⟨_, xs, h1, h2, h3⟩ := (treeOk_iff t hL).1 h
  have z := part_keysT h1 (usedT t.twigs_) t.twigs_ [] h2.nodup (by have := usedT_le16 hL; simp; omega) (fun _ _ => rfl) (by omega)
  rw [List.nil_append] at z
  refine ⟨xs, h1, z, by have := usedT_le16 hL; omega, ?_⟩
  unfold keysC
  rw [if_pos h]
  unfold listT
  rw [z]
set_option maxHeartbeats 8000000 in
theorem spec_TreeKeys0 (c : TreeD) (hc : c.twigs_.length = 16) (w : World) :
    Calls Try.prog 23 #[.agg c.enc.toArray] w fun e w' => ∃ u : Value, e = .returned u ∧ w'.ownsRow w.heap.size 3 1 u (keysC c).length ((keysC c).flatMap encI) ∧ Below w.heap.size w w' := by
  obtain ⟨L, root⟩ := c
  dsimp only at hc
  change Calls Try.prog 23 #[.agg (encT L root).toArray] w _
  obtain ⟨j0, hj, hy0, hy1, hy2⟩ := info_parts infoIntT
  have hl : (encT L root).length = 65 := tree_len (c := ⟨L, root⟩) hc
  have hl2 : (encT L root).toArray.size = 65 := by rw [List.size_toArray, hl]
  have HC := hid hc
  have HOK0 := hid (fun (W : World) => spec_TreeOk0 ⟨L, root⟩ hc W)
  rw [show (TreeD.enc ⟨L, root⟩) = encT L root from rfl] at HOK0
  obtain ⟨W1, hW1⟩ : ∃ X, (w.alloc (.cells (encT L root).toArray 31)).alloc (.cells #[] 3) = X := ⟨_, rfl⟩
  have HB1 := hid (show Below w.heap.size w W1 by rw [← hW1]; exact ((Below.refl _ _).alloc (Nat.le_refl _) _).alloc (by simp) _)
  have B1 := hid (show BoxF W1 w.heap.size (encT L root) by rw [← hW1]; exact (BoxF.alloc w (encT L root).toArray 31).below ((Below.refl _ _).alloc (Nat.le_refl _) _))
  have O1 : Hid (Row (fun b => b = w.heap.size + 1) W1 (.slice (some ⟨w.heap.size + 1, 0, none⟩) 0 0) []) := by
    refine hid ⟨?_, fun b hb => ?_⟩
    · rw [← hW1]
      have h1 := owns_litN (w.alloc (.cells (encT L root).toArray 31)) 3 1 0 #[] 0 (Nat.zero_le _) rfl (Nat.zero_le _)
      rw [show (w.alloc (.cells (encT L root).toArray 31)).heap.size = w.heap.size + 1 by simp] at h1
      exact h1
    · simp [Blk, Value.ownBlock] at hb; omega
  have HN1 := hid (show w.heap.size + 2 ≤ W1.heap.size by rw [← hW1]; simp)
  have HW1 := hid hW1
  clear hW1
  cases hok : treeOk ⟨L, root⟩ with
  | false =>
    have HR := hid (show keysC ⟨L, root⟩ = [] by unfold keysC; rw [hok]; rfl)
    rw [hok] at HOK0
    clear hok
    go_enter Try.func23, Try.ntmps23
    go_upto_region 2 with fail
    rw [HW1.out]
    go_wp2_with (first | (refine wpList_load_boxg rfl 31 _ rfl w.heap.size (encT L root) (by exact B1.out.1) rfl _ Try.underlying31 rfl (by rw [hl]; kernel_rfl) ?_) | (go_at_call 11; refine (HOK0.out _).mono ?_; rintro e w2 ⟨rfl, b2⟩; have HB2 := hid (HB1.out.trans (b2.mono HB1.out.size)); have O2 := hid (O1.out.below b2); have B1 := hid (B1.out.below b2); have HN2 := hid (show w.heap.size + 2 ≤ w2.heap.size by have := b2.size; have := HN1.out; omega); clear b2))
    go_ret
    exact ⟨_, rfl, by rw [HR.out]; exact O2.out.owns (fun k hk => by omega), HB2.out⟩
  | true =>
    obtain ⟨xs, hp, hls, hx16, hkc⟩ := keysC_part (t := ⟨L, root⟩) hc hok
    dsimp only at hp hls hkc
    have hxi := fun q hq => (hp.in q hq).1
    have HXI := hid hxi
    have HR := hid hkc
    rw [hok] at HOK0
    have HLS := hid (show keysT (usedT L) L root [] = (xs, true) from hls)
    clear hok hp hls hkc hxi
    go_enter Try.func23, Try.ntmps23
    go_upto_region 2 with fail
    rw [HW1.out]
    go_upto_region 4 with (first | (refine wpList_load_boxg rfl 31 _ rfl w.heap.size (encT L root) (by exact B1.out.1) rfl _ Try.underlying31 rfl (by rw [hl]; kernel_rfl) ?_) | (go_at_call 11; refine (HOK0.out _).mono ?_; rintro e w2 ⟨rfl, b2⟩; have HB2 := hid (HB1.out.trans (b2.mono HB1.out.size)); have O2 := hid (O1.out.below b2); have B1 := hid (B1.out.below b2); have HN2 := hid (show w.heap.size + 2 ≤ w2.heap.size by have := b2.size; have := HN1.out; omega); clear b2))
    obtain ⟨W3, hW3⟩ : ∃ X, w2.alloc (.cells #[] 3) = X := ⟨_, rfl⟩
    have hB3 : Below w2.heap.size w2 W3 := by rw [← hW3]; exact (Below.refl _ _).alloc (Nat.le_refl _) _
    have P3 : Row (fun b => b = w2.heap.size) W3 (.slice (some ⟨w2.heap.size, 0, none⟩) 0 0) [] := by
      refine ⟨?_, fun b hb => ?_⟩
      · rw [← hW3]; exact owns_litN w2 3 1 0 #[] 0 (Nat.zero_le _) rfl (Nat.zero_le _)
      · simp [Blk, Value.ownBlock] at hb; omega
    have HC0 := hid (spec_l15Keys0 (usedT L) L HC.out root root [] _ _ W3 (Nat.le_refl _) (by simp) P3)
    rw [HLS.out] at HC0
    dsimp only at HC0
    have B3 := hid (B1.out.below hB3)
    have O3 := hid (O2.out.below hB3)
    have HB3 := hid (HB2.out.trans (hB3.mono HB2.out.size))
    have HS3 := hid (show W3.heap.size = w2.heap.size + 1 by rw [← hW3]; simp)
    have HW3 := hid hW3
    have k64 := tree_root (show BoxF w2 w.heap.size (TreeD.enc ⟨L, root⟩) from B1.out) HC.out
    clear hW3 hB3 P3
    go_upto_region 6 with (first | (refine wpList_load_boxg rfl 31 _ rfl w.heap.size (encT L root) (by exact B1.out.1) rfl _ Try.underlying31 rfl (by rw [hl]; kernel_rfl) ?_) | (go_at_call 34; rw [HW3.out]; refine HC0.out.mono ?_; rintro e w5 ⟨u, rfl, R5, C5⟩))
    obtain ⟨ua, uc, rfl⟩ := R5.form
    have B5 := hid (B3.out.chg C5 (fun h => by have := HN2.out; omega))
    have O5 := hid (O3.out.chg C5 (fun b h1 h2 => by have := HN2.out; omega))
    have HB5 := hid (below_chg HB3.out C5 HB3.out.size (fun b h => by have := HN2.out; omega))
    have HN5 := hid (show w2.heap.size + 1 ≤ w5.heap.size by have := C5.size; have := HS3.out; omega)
    have HR5 := hid R5
    have HF5 := hid (Flat.of_owns R5.1)
    obtain ⟨a9, cap9, e9, hl9, hm9, HCX⟩ := Ints.open (show Ints w5 (.slice ua xs.length uc) xs from HF5.out)
    obtain ⟨rfl, -, rfl⟩ : ua = a9 ∧ True ∧ uc = cap9 := by simpa using e9
    have HCX := hid HCX
    have HBLK := hid (fun b (h : Blk (.slice ua xs.length uc) b) => (show w2.heap.size ≤ b by rcases R5.2 b h with h | h; omega; have := HS3.out; omega))
    clear R5 C5 HC0 k64 HW3 B3 HB3 O3 e9 HF5 B1 O1 O2
    go_wp2
    go_loopw [3, 6] (fun v i wr => ∃ (j : Nat) (va : Option Addr) (vm vc : Nat) (ys : List Int), j ≤ xs.length ∧ v = .slice va vm vc ∧ i = .int .i64 j ∧ ys.length ≤ 16 ∧ Hid (ys = (xs.take j).map (keyAt L)) ∧ Hid (Row (fun b => b = w.heap.size + 1 ∨ w5.heap.size ≤ b) wr (.slice va vm vc) ys) ∧ Hid (ChgS (fun b => b = w.heap.size + 1 ∨ w5.heap.size ≤ b) w5 wr)) (fun _ i _ => 17 - (intOf i).toNat)
    case atStart => exact ⟨0, _, _, _, [], by omega, rfl, rfl, by simp, hid rfl, hid (O5.out.mono fun b h => .inl h), hid (ChgS.refl _ _)⟩
    case round =>
      obtain ⟨j, va, vm, vc, ys, hj2, rfl, rfl, hy16, HY, HV, HG⟩ := hrel
      have HBr := hid (below_chg HB5.out HG.out HB5.out.size (fun b h => by have := HN5.out; have := HN2.out; omega))
      by_cases hlt : j < xs.length
      · have hlt' : (j : Int) < (xs.length : Int) := by omega
        obtain ⟨bb, off, rfl, hbs, c0⟩ := HCX.out j hlt
        have hbw := HBLK.out bb rfl
        have i0 := inB_nn (HXI.out xs[j] (List.getElem_mem _))
        have HTK := hid (show ys ++ [keyAt L xs[j]] = (xs.take (j+1)).map (keyAt L) by rw [List.take_succ_eq_append_getElem hlt, List.map_append, HY.out]; rfl)
        obtain ⟨p0, hp0⟩ : ∃ p : Nat, xs[j] = (p : Int) := ⟨xs[j].toNat, by omega⟩
        rw [hp0] at c0 i0 HTK
        have e0 := (cell_chg (o := off + j) HG.out hbs (by have := HN2.out; omega)).trans c0
        have BXr := hid (B5.out.chg HG.out (by have := HN5.out; have := HN2.out; have := B5.out.1.1; omega))
        have t0 := (tree_at (show BoxF wr w.heap.size (TreeD.enc ⟨L, root⟩) from BXr.out) HC.out p0 (by omega)).2.1
        have j00 : (0 : Int) ≤ (p0 : Int) := by omega
        have j01 : (p0 : Int) < 16 := by omega
        have hj0 : (0 : Int) ≤ (j : Int) := by omega
        rw [show (tw L (p0 : Int)).key_ = keyAt L p0 from rfl] at t0
        obtain ⟨x0, hx0⟩ : ∃ x, keyAt L (p0 : Int) = x := ⟨_, rfl⟩
        rw [hx0] at t0 HTK
        have HYL := hid (show (ys ++ [x0]).length ≤ 16 by rw [HTK.out, List.length_map, List.length_take]; omega)
        clear c0 hx0 hp0 i0
        go_wp2_with (at_builtin; refine wpList_append_at rfl _ _ 42 rfl 0 3 j0 (.int .i64 0) 1 8 Try.underlying42 hj hy0 hy1 hy2 rfl (by decide) _ _ _ rfl (owns_below HV.out.1 ((Below.refl _ _).alloc (Nat.le_refl _) _)) _ 1 _ rfl (Flat.of_owns (owns_litN wr 3 1 1 #[.int .i64 x0] 0 (Nat.zero_le _) rfl (by decide))) (by decide) (oneT x0) (by unfold maxLen; omega) (by omega) (by omega) ?_)
        intro v7 w7 o7 g7 p7
        have hba : Below wr.heap.size wr (wr.alloc (.cells #[.int .i64 x0] 3)) := (Below.refl _ _).alloc (Nat.le_refl _) _
        have C57 : ChgS (fun b => b = w.heap.size + 1 ∨ w5.heap.size ≤ b) wr w7 := (ChgS.of_below hba _).trans (ChgS.of_grown g7 fun b hb => HV.out.2 b hb)
        have HG7 := hid (HG.out.trans C57)
        have HV7 := hid (show Row (fun b => b = w.heap.size + 1 ∨ w5.heap.size ≤ b) w7 v7 (ys ++ [x0]) from ⟨by rw [encI_snocT, List.length_append]; exact o7, fun b hb => by
          rcases p7 b hb with h | h
          · exact HV.out.2 b h
          · exact .inr (by rw [h]; have := HG.out.size; simp; omega)⟩)
        obtain ⟨va7, vc7, rfl⟩ := HV7.out.form
        clear o7 g7 p7 hba C57 HV HG t0 e0
        go_wp2
        go_roundw
        case rel => exact ⟨j+1, _, _, _, _, by omega, rfl, by go_num, HYL.out, HTK, HV7, HG7⟩
        case measure => simp [intOf]; omega
      · have hlt' : ¬ (j : Int) < (xs.length : Int) := by omega
        go_wp2
        go_ret
        exact ⟨_, rfl, by rw [HR.out]; have z := HV.out.owns (N := w.heap.size) (fun k hk => by have := HN5.out; have := HN2.out; omega); rw [HY.out, List.take_of_length_le (by omega)] at z; exact z, HBr.out⟩
end Go.Proofs.Ytcjeafhejkppeaa
