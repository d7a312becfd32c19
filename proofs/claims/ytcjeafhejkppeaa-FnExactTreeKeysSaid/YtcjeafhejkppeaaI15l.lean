/- Chapter 15's program: TreeKeys. -/
import Derived.Test.YtcjeafhejkppeaaI15o
import Derived.Test.YtcjeafhejkppeaaS15l
namespace Go.Proofs.Ytcjeafhejkppeaa
set_option maxRecDepth 100000
open Go.RowKit Go.Proofs Go.Own
open Go Go.BigFrame
set_option linter.unusedVariables false
set_option linter.unusedSimpArgs false
/-- The cell of a link holds a place. -/
def LocK (L : List Twig) (root : Int) (l : Nat) (p : Int) : Prop := ∀ (W : World) (b : Nat), BoxF W b (TreeD.enc ⟨L, root⟩) → W.cell? ⟨b, l, none⟩ = some (.int .i64 p)
def KeysI (L : List Twig) (root : Int) (p : Int) (xs : List Int) : Prop := ∀ (b l : Nat) (out : List Int) (S : Nat → Prop) (v : Value) (w : World), BoxF w b (encT L root) → LocK L root l p → ¬ S b → Row S w v out → out.length + xs.length ≤ 16 →
  Calls Try.prog 47 #[partV b l, v] w fun e w' => ∃ u, e = .returned u ∧ Row (fun k => S k ∨ w.heap.size ≤ k) w' u (out ++ xs.map (keyAt L)) ∧ ChgS S w w'
set_option maxHeartbeats 8000000 in
theorem impl_keysBehind0 (L : List Twig) (hL : L.length = 16) (root p : Int) (xs : List Int) (h : Part L p xs) : KeysI L root p xs := by
  induction h with
  | none =>
    intro b l out S v w hbox hloc hS hrow hlen
    obtain ⟨va, vc, rfl⟩ := hrow.form
    obtain ⟨W1, hW1⟩ : ∃ X, w.alloc (.cells #[.pointer (some ⟨b, 0, none⟩), .pointer (some ⟨b, l, none⟩)] 60) = X := ⟨_, rfl⟩
    have hB1 : Below w.heap.size w W1 := by rw [← hW1]; exact (Below.refl _ _).alloc (Nat.le_refl _) _
    have K := hid (show BoxF W1 w.heap.size [.pointer (some ⟨b, 0, none⟩), .pointer (some ⟨b, l, none⟩)] by rw [← hW1]; exact BoxF.alloc w #[.pointer (some ⟨b, 0, none⟩), .pointer (some ⟨b, l, none⟩)] 60)
    have BT := hid (hbox.below hB1)
    have HG := hid (ChgS.of_below hB1 S)
    have HR := hid (hrow.below hB1)
    have HS := hid (show w.heap.size ≤ W1.heap.size from hB1.size)
    have HLC := hid hloc
    have d0 : W1.cell? ⟨w.heap.size, 0, none⟩ = some (.pointer (some ⟨b, 0, none⟩)) := K.out.1.2 0 (by simp)
    have d1 : W1.cell? ⟨w.heap.size, 1, none⟩ = some (.pointer (some ⟨b, l, none⟩)) := K.out.1.2 1 (by simp)
    have HW1 := hid hW1
    have hq2 : decide ((-1 : Int) = -1) = true := rfl
    clear hW1 hB1 hrow hbox hloc
    unfold partV
    go_enter Try.func47, Try.ntmps47
    go_upto_region 1 with fail
    rw [HW1.out]
    go_wp2_with (go_at_call 57; refine (impl_isNone b l _ _ (HLC.out _ b BT.out) BT.out.1.1).mono ?_; rintro e wq ⟨rfl, bq⟩; have K := hid (K.out.below bq); have BT := hid (BT.out.below bq); have HG := hid (HG.out.trans (ChgS.of_below bq _)); have HR := hid (HR.out.below bq); have HS := hid (Nat.le_trans HS.out bq.size); have d0 : wq.cell? ⟨w.heap.size, 0, none⟩ = some (.pointer (some ⟨b, 0, none⟩)) := K.out.1.2 0 (by simp); have d1 : wq.cell? ⟨w.heap.size, 1, none⟩ = some (.pointer (some ⟨b, l, none⟩)) := K.out.1.2 1 (by simp); clear bq; try rw [hq2])
    go_ret
    exact ⟨_, rfl, by rw [List.map_nil, List.append_nil]; exact HR.out.mono fun k h => .inl h, HG.out⟩
  | twig p xs ys hi hu hl hr ih1 ih2 =>
    intro b l out S v w hbox hloc hS hrow hlen
    obtain ⟨va, vc, rfl⟩ := hrow.form
    obtain ⟨j0, hj, hy0, hy1, hy2⟩ := info_parts infoIntT
    simp only [List.length_append, List.length_cons] at hlen
    obtain ⟨k, rfl, hk16⟩ : ∃ k : Nat, p = (k : Int) ∧ k < 16 := by
      have := inB_nn hi
      exact ⟨p.toNat, by omega, by omega⟩
    obtain ⟨W1, hW1⟩ : ∃ X, w.alloc (.cells #[.pointer (some ⟨b, 0, none⟩), .pointer (some ⟨b, l, none⟩)] 60) = X := ⟨_, rfl⟩
    have hB1 : Below w.heap.size w W1 := by rw [← hW1]; exact (Below.refl _ _).alloc (Nat.le_refl _) _
    have K := hid (show BoxF W1 w.heap.size [.pointer (some ⟨b, 0, none⟩), .pointer (some ⟨b, l, none⟩)] by rw [← hW1]; exact BoxF.alloc w #[.pointer (some ⟨b, 0, none⟩), .pointer (some ⟨b, l, none⟩)] 60)
    have BT := hid (hbox.below hB1)
    have HBW := hid hbox.1.1
    have HG := hid (ChgS.of_below hB1 S)
    have HR := hid (hrow.cut.below hB1)
    have HS := hid (show w.heap.size + 1 ≤ W1.heap.size by rw [← hW1]; simp)
    have HLC := hid hloc
    have HSB := hid hS
    have d0 : W1.cell? ⟨w.heap.size, 0, none⟩ = some (.pointer (some ⟨b, 0, none⟩)) := K.out.1.2 0 (by simp)
    have d1 : W1.cell? ⟨w.heap.size, 1, none⟩ = some (.pointer (some ⟨b, l, none⟩)) := K.out.1.2 1 (by simp)
    have HW1 := hid hW1
    have hq2 : decide ((k : Int) = -1) = false := decide_eq_false (by omega)
    have HI1 := hid ih1
    have HI2 := hid ih2
    have HLL := hid (show LocK L root (k * 4 + 2) (tw L k).left_ from fun W b h => (tree_at h hL k hk16).2.2.1)
    have HLR := hid (show LocK L root (k * 4 + 3) (tw L k).right_ from fun W b h => (tree_at h hL k hk16).2.2.2)
    have HTA := hid (fun (W : World) (h : BoxF W b (encT L root)) => (show W.cell? ⟨b, k * 4 + 1, none⟩ = some (.int .i64 (keyAt L k)) from (tree_at h hL k hk16).2.1))
    have HXS := hid (show out ++ (xs ++ (k : Int) :: ys).map (keyAt L) = (out ++ xs.map (keyAt L) ++ [keyAt L k]) ++ ys.map (keyAt L) by simp)
    have HL1 := hid (show out.length + xs.length ≤ 16 by omega)
    have hm1 : (out ++ xs.map (keyAt L)).length ≤ 16 := by simp; omega
    have HL2 := hid (show (out ++ xs.map (keyAt L) ++ [keyAt L k]).length + ys.length ≤ 16 by simp; omega)
    obtain ⟨x0, hx0⟩ : ∃ x, keyAt L (k : Int) = x := ⟨_, rfl⟩
    obtain ⟨M1, hM1⟩ : ∃ x, out ++ xs.map (keyAt L) = x := ⟨_, rfl⟩
    rw [hx0] at HTA HXS HL2
    rw [hM1] at HXS HL2 hm1
    have HM1 := hid hM1
    clear hW1 hB1 hrow hbox hloc ih1 ih2 hl hr hS hx0 hM1
    unfold partV
    go_enter Try.func47, Try.ntmps47
    go_upto_region 1 with fail
    rw [HW1.out]
    go_upto_region 4 with (first | (go_at_call 57; refine (impl_isNone b l _ _ (HLC.out _ b BT.out) BT.out.1.1).mono ?_; rintro e wq ⟨rfl, bq⟩; have K := hid (K.out.below bq); have BT := hid (BT.out.below bq); have HG := hid (HG.out.trans (ChgS.of_below bq _)); have HR := hid (HR.out.below bq); have HS := hid (Nat.le_trans HS.out bq.size); have d0 : wq.cell? ⟨w.heap.size, 0, none⟩ = some (.pointer (some ⟨b, 0, none⟩)) := K.out.1.2 0 (by simp); have d1 : wq.cell? ⟨w.heap.size, 1, none⟩ = some (.pointer (some ⟨b, l, none⟩)) := K.out.1.2 1 (by simp); clear bq; try rw [hq2]) | (go_at_call 59; refine (impl_left b l k _ (HLC.out _ b BT.out) BT.out.1.1 hk16).mono ?_; rintro e wq ⟨rfl, bq⟩; have K := hid (K.out.below bq); have BT := hid (BT.out.below bq); have HG := hid (HG.out.trans (ChgS.of_below bq _)); have HR := hid (HR.out.below bq); have HS := hid (Nat.le_trans HS.out bq.size); have d0 : wq.cell? ⟨w.heap.size, 0, none⟩ = some (.pointer (some ⟨b, 0, none⟩)) := K.out.1.2 0 (by simp); have d1 : wq.cell? ⟨w.heap.size, 1, none⟩ = some (.pointer (some ⟨b, l, none⟩)) := K.out.1.2 1 (by simp); clear bq) | (go_at_call 47; refine (HI1.out b (k * 4 + 2) out _ _ _ BT.out HLL.out (fun h => HSB.out h.1) HR.out HL1.out).mono ?_; rintro e wq ⟨u, rfl, R5, C5⟩; rw [HM1.out] at R5; have BT := hid (BT.out.chg C5 (fun h => HSB.out h.1)); have HG := hid (chg_on HG.out C5 (fun b h _ => h.1)); have K := hid (K.out.chg C5 (fun h => by have := h.2; omega)); have HR := hid (R5.mono (T := fun k => (S k ∧ k < w.heap.size) ∨ w.heap.size + 1 ≤ k) (fun b h => by rcases h with h | h; exact .inl h; exact .inr (by have := HS.out; omega))); have HS := hid (Nat.le_trans HS.out C5.size); obtain ⟨ua, uc, rfl⟩ := R5.form; have d0 : wq.cell? ⟨w.heap.size, 0, none⟩ = some (.pointer (some ⟨b, 0, none⟩)) := K.out.1.2 0 (by simp); have d1 : wq.cell? ⟨w.heap.size, 1, none⟩ = some (.pointer (some ⟨b, l, none⟩)) := K.out.1.2 1 (by simp); clear R5 C5))
    go_wp2_with (first | (go_at_call 58; refine (impl_twig b l k _ (HLC.out _ b BT.out) BT.out.1.1 hk16).mono ?_; rintro e wq ⟨rfl, bq⟩; have K := hid (K.out.below bq); have BT := hid (BT.out.below bq); have HG := hid (HG.out.trans (ChgS.of_below bq _)); have HR := hid (HR.out.below bq); have HS := hid (Nat.le_trans HS.out bq.size); have d0 : wq.cell? ⟨w.heap.size, 0, none⟩ = some (.pointer (some ⟨b, 0, none⟩)) := K.out.1.2 0 (by simp); have d1 : wq.cell? ⟨w.heap.size, 1, none⟩ = some (.pointer (some ⟨b, l, none⟩)) := K.out.1.2 1 (by simp); clear bq; have t1 := HTA.out _ BT.out) | (at_builtin; refine wpList_append_at rfl _ _ 42 rfl 0 3 j0 (.int .i64 0) 1 8 Try.underlying42 hj hy0 hy1 hy2 rfl (by decide) _ _ _ rfl (owns_below HR.out.1 ((Below.refl _ _).alloc (Nat.le_refl _) _)) _ 1 _ rfl (Flat.of_owns (owns_litN wq 3 1 1 #[.int .i64 x0] 0 (Nat.zero_le _) rfl (by decide))) (by decide) (oneT x0) (by unfold maxLen; omega) (by omega) (by omega) ?_))
    intro v7 w7 o7 g7 p7
    have hba : Below wq.heap.size wq (wq.alloc (.cells #[.int .i64 x0] 3)) := (Below.refl _ _).alloc (Nat.le_refl _) _
    have C57 : ChgS (fun k => (S k ∧ k < w.heap.size) ∨ w.heap.size + 1 ≤ k) wq w7 := (ChgS.of_below hba _).trans (ChgS.of_grown g7 fun b hb => HR.out.2 b hb)
    have HBb := HBW.out
    have BT7 := hid (BT.out.chg C57 (fun h => by rcases h with h | h; exact HSB.out h.1; omega))
    have K7 := hid (K.out.chg C57 (fun h => by rcases h with h | h; have := h.2; omega; omega))
    have HG7 := hid (chg_on HG.out C57 (fun b h hl => by rcases h with h | h; exact h.1; omega))
    have HS7 := hid (show w.heap.size + 1 ≤ w7.heap.size by have := C57.size; have := HS.out; omega)
    have HR7 := hid (show Row (fun k => (S k ∧ k < w.heap.size) ∨ w.heap.size + 1 ≤ k) w7 v7 (M1 ++ [x0]) from ⟨by rw [encI_snocT, List.length_append]; exact o7, fun b hb => by
      rcases p7 b hb with h | h
      · exact HR.out.2 b h
      · exact .inr (by rw [h]; have := HS.out; simp; omega)⟩)
    obtain ⟨va7, vc7, rfl⟩ := HR7.out.form
    rw [show (M1 ++ [x0]).length = M1.length + 1 by simp] at HR7
    clear o7 g7 p7 hba C57 t1 d0 d1
    have HX7 := hid (fun (W : World) (v : Value) (hB : BoxF W b (encT L root)) (hv : Row (fun k => (S k ∧ k < w.heap.size) ∨ w.heap.size + 1 ≤ k) W v (M1 ++ [x0])) => HI2.out b (k * 4 + 3) (M1 ++ [x0]) _ v W hB HLR.out (fun h => by rcases h with h | h; exact HSB.out h.1; omega) hv HL2.out)
    have BT := BT7
    have K := K7
    have HG := HG7
    have HR := HR7
    have HS := HS7
    have d0 : w7.cell? ⟨w.heap.size, 0, none⟩ = some (.pointer (some ⟨b, 0, none⟩)) := K.out.1.2 0 (by simp)
    have d1 : w7.cell? ⟨w.heap.size, 1, none⟩ = some (.pointer (some ⟨b, l, none⟩)) := K.out.1.2 1 (by simp)
    clear BT7 K7 HG7 HR7 HS7
    go_wp2_with (first | (go_at_call 60; refine (impl_right b l k _ (HLC.out _ b BT.out) BT.out.1.1 hk16).mono ?_; rintro e wq ⟨rfl, bq⟩; have K := hid (K.out.below bq); have BT := hid (BT.out.below bq); have HG := hid (HG.out.trans (ChgS.of_below bq _)); have HR := hid (HR.out.below bq); have HS := hid (Nat.le_trans HS.out bq.size); have d0 : wq.cell? ⟨w.heap.size, 0, none⟩ = some (.pointer (some ⟨b, 0, none⟩)) := K.out.1.2 0 (by simp); have d1 : wq.cell? ⟨w.heap.size, 1, none⟩ = some (.pointer (some ⟨b, l, none⟩)) := K.out.1.2 1 (by simp); clear bq) | (go_at_call 47; refine (HX7.out _ _ BT.out HR.out).mono ?_; rintro e wq ⟨u, rfl, R5, C5⟩))
    go_ret
    refine ⟨_, rfl, ?_, chg_on HG.out C5 (fun b h hl => by rcases h with h | h; exact h.1; omega)⟩
    rw [HXS.out]
    refine R5.mono (fun b h => ?_)
    rcases h with (h | h) | h
    · exact .inl h.1
    · exact .inr (by omega)
    · exact .inr (by have := HS.out; omega)
theorem row_nil (S : Nat → Prop) (w : World) : Row S w (.slice none 0 0) [] := ⟨World.ownsRow_nil w 0 3 1, fun k hk => by simp [Blk, Value.ownBlock] at hk⟩
set_option maxHeartbeats 4000000 in
theorem impl_TreeKeys0 (c : TreeD) (hc : c.twigs_.length = 16) (w : World) :
    Calls Try.prog 24 #[.agg c.enc.toArray] w fun e w' => ∃ u : Value, e = .returned u ∧ w'.ownsRow w.heap.size 3 1 u (keysC c).length ((keysC c).flatMap encI) ∧ Below w.heap.size w w' := by
  obtain ⟨L, root⟩ := c
  dsimp only at hc
  change Calls Try.prog 24 #[.agg (encT L root).toArray] w _
  have hl : (encT L root).length = 65 := tree_len (c := ⟨L, root⟩) hc
  have hl2 : (encT L root).toArray.size = 65 := by rw [List.size_toArray, hl]
  have HOK0 := hid (fun (W : World) => impl_TreeOk0 ⟨L, root⟩ hc W)
  rw [show (TreeD.enc ⟨L, root⟩) = encT L root from rfl] at HOK0
  obtain ⟨W1, hW1⟩ : ∃ X, w.alloc (.cells (encT L root).toArray 31) = X := ⟨_, rfl⟩
  have HB1 := hid (show Below w.heap.size w W1 by rw [← hW1]; exact (Below.refl _ _).alloc (Nat.le_refl _) _)
  have B1 := hid (show BoxF W1 w.heap.size (encT L root) by rw [← hW1]; exact BoxF.alloc w (encT L root).toArray 31)
  have HW1 := hid hW1
  clear hW1
  cases hok : treeOk ⟨L, root⟩ with
  | false =>
    have HR := hid (show keysC ⟨L, root⟩ = [] by unfold keysC; rw [hok]; rfl)
    rw [hok] at HOK0
    clear hok
    go_enter Try.func24, Try.ntmps24
    go_upto_region 1 with fail
    rw [HW1.out]
    go_wp2_with (first | (refine wpList_load_boxg rfl 31 _ rfl w.heap.size (encT L root) (by exact B1.out.1) rfl _ Try.underlying31 rfl (by rw [hl]; kernel_rfl) ?_) | (go_at_call 13; refine (HOK0.out _).mono ?_; rintro e w2 ⟨rfl, b2⟩; have HB2 := hid (HB1.out.trans (b2.mono HB1.out.size)); clear b2))
    go_ret
    exact ⟨_, rfl, by rw [HR.out]; exact World.ownsRow_nil _ _ _ _, HB2.out⟩
  | true =>
    obtain ⟨xs, hp, hls, hx16, hkc⟩ := keysC_part (t := ⟨L, root⟩) hc hok
    dsimp only at hp hls hkc
    have HR := hid hkc
    have HLT := hid B1.out.1.1
    have HH := hid (fun (W : World) (h : BoxF W w.heap.size (encT L root)) => impl_keysBehind0 L hc root root xs hp w.heap.size 64 [] (fun _ => False) (.slice none 0 0) W h (fun W b h => tree_root h hc) (fun h => h) (row_nil _ W) (by simpa using hx16))
    rw [hok] at HOK0
    clear hok hp hls hkc
    go_enter Try.func24, Try.ntmps24
    go_upto_region 1 with fail
    rw [HW1.out]
    go_wp2_with (first | (refine wpList_load_boxg rfl 31 _ rfl w.heap.size (encT L root) (by exact B1.out.1) rfl _ Try.underlying31 rfl (by rw [hl]; kernel_rfl) ?_) | (go_at_call 13; refine (HOK0.out _).mono ?_; rintro e w2 ⟨rfl, b2⟩; have HB2 := hid (HB1.out.trans (b2.mono HB1.out.size)); have B1 := hid (B1.out.below b2); clear b2) | (go_at_call 38; refine (impl_whole _ _).mono ?_; rintro e w2 ⟨rfl, b2⟩; have HB2 := hid (HB2.out.trans (b2.mono HB2.out.size)); have B1 := hid (B1.out.below b2); clear b2) | (go_at_call 47; refine (HH.out _ B1.out).mono ?_; rintro e w3 ⟨u, rfl, R3, C3⟩))
    go_ret
    have hs2 := HB2.out.size
    exact ⟨_, rfl, by rw [HR.out]; rw [List.nil_append] at R3; exact R3.owns (fun k hk => by rcases hk with hk | hk; exact hk.elim; omega), below_chg HB2.out C3 HB2.out.size (fun b h => h.elim)⟩
end Go.Proofs.Ytcjeafhejkppeaa
