/- Chapter 13's program: ChainOk. -/
import Derived.Test.YtadbgfaboafkeaaI13n
import Derived.Test.YtadbgfaboafkeaaOv2
namespace Go.Proofs.Ytadbgfaboafkeaa
set_option maxRecDepth 100000
open Go.RowKit Go.Proofs Go.Own Go.Shelf
open Go Go.BigFrame
set_option linter.unusedVariables false
set_option linter.unusedSimpArgs false
attribute [local go_sem] Oper.semAt_some
theorem index_A (L : List Node) (hL : L.length = 16) (k : Nat) (hk : k < L.length) (w : World) : (Instr.index 29 (.agg (L.flatMap Node.enc).toArray) (.int .i64 k)).run Try.prog w = .ok (.agg #[.bool L[k].used_, .int .i64 L[k].key_, .int .i64 L[k].value_, .int .i64 L[k].next_]) w := by
  have e := flat_part Node.enc 4 (fun _ => rfl) L k hk
  have h1 := Try.underlying29
  have h2 := Try.isAgg28
  have h3 := Try.sizeOf28
  have hi : 0 ≤ (k : Int) ∧ (k : Int) < 16 := by omega
  unfold Instr.index
  have hk16 : k < 16 := by omega
  simp [go_sem, h1, h2, h3, asIntOf, hk16, part, run_underlying]
  simpa [Node.enc, List.extract_eq_take_drop] using e
/-- What the caller's boxes hold between two rounds. -/
def ckI (c : ChainD) (ce : List Value) (w : World) (Lb : Nat) (pre : List Nat) (W : World) : Prop := ∃ t : Int, BoxF W (w.heap.size + 1) [.bool false] ∧ BoxF W (w.heap.size + 2) [.int .i64 ((usedN c.nodes_ : Int) - pre.length)] ∧ BoxF W Lb [.int .i64 t] ∧ BoxF W (Lb + 1) ce ∧ Below w.heap.size w W ∧ Hid (lkI c.nodes_ ((usedN c.nodes_ : Int) - pre.length) (nextOf c.nodes_ c.first_ pre) t = chainOk c) ∧ -1000000001 + (pre.length : Int) ≤ t ∧ (t = -1000000001 ∨ t ≤ 1000000000)
set_option maxHeartbeats 8000000 in
theorem impl_ChainOk0 (c : ChainD) (hc : c.nodes_.length = 16) (w : World) :
    Calls Try.prog 12 #[.agg c.enc.toArray] w fun e w' => e = .returned (.bool (chainOk c)) ∧ Below w.heap.size w w' := by
  have hl := chain_len hc
  have hl2 : c.enc.toArray.size = 65 := by rw [List.size_toArray, hl]
  have hln : (c.nodes_.flatMap Node.enc).length = 64 := by rw [nodes_len, hc]
  have HC := hid hc
  have HE := hid (show c.enc = [] ++ c.nodes_.flatMap Node.enc ++ [.int .i64 c.first_] from rfl)
  have H64 := hid (show c.enc[64]? = some (.int .i64 c.first_) by rw [HE.out, List.nil_append, List.getElem?_append_right (by omega), hln]; rfl)
  have HEQ := hid (chainOk_eq c hc)
  generalize hce : c.enc = ce at *
  obtain ⟨W1, hW1⟩ : ∃ X, (w.alloc (.cells ce.toArray 31)).alloc (.cells #[.bool false] 4) = X := ⟨_, rfl⟩
  have hB1 : Below w.heap.size w W1 := by rw [← hW1]; exact ((Below.refl _ _).alloc (Nat.le_refl _) _).alloc (by simp) _
  have hs1 : W1.heap.size = w.heap.size + 2 := by rw [← hW1]; simp
  have b0 : BoxF W1 w.heap.size ce := by
    rw [← hW1]
    exact (BoxF.alloc w ce.toArray 31).below ((Below.refl _ _).alloc (Nat.le_refl _) _)
  have br : Boxed W1 (w.heap.size + 1) 4 (.bool false) := by
    rw [← hW1]
    have z := Boxed.new (w.alloc (.cells ce.toArray 31)) 4 (.bool false)
    rw [World.size_alloc] at z
    exact z
  have k64 : W1.cell? ⟨w.heap.size, 64, none⟩ = some (.int .i64 c.first_) := by
    have z := b0.1.2 64 (by rw [hl]; omega)
    rw [z]; exact H64.out
  have e64 : ce[64]'(by rw [hl]; omega) = .int .i64 c.first_ := by
    have z := H64.out
    rw [List.getElem?_eq_getElem (by rw [hl]; omega)] at z
    exact Option.some.inj z
  have br0 := br.cell
  have br1 := br.frozen
  have B0 := hid b0
  have BR := hid br
  have HW1 := hid hW1
  have HB1 := hid hB1
  have HCE := hid hce
  have HS1 := hid hs1
  clear hW1 b0 br hc hB1 hce hs1
  refine (callsIn_wide (n := 3)).1 ?_
  refine callsIn_of_wp_marks Try.func12 rfl trivial ?_ rfl
  simp only [Try.ntmps12, List.size_toArray, List.length_cons, List.length_nil, Nat.reduceAdd, Nat.reduceSub, Array.replicate_succ, Array.replicate_zero, List.push_toArray, List.append_toArray, List.nil_append, List.cons_append]
  gi_wp2
  rw [HW1.out]
  cases hin : inB c.first_ (-1) 15 with
  | false =>
    have Hr := hid (show chainOk c = false by rw [HEQ.out, hin]; rfl)
    have BR2 := BR.out.set (.bool false)
    have c9 := BR2.cell
    gi_wp2_with (refine ⟨trivial, ?_⟩; gi_at_call 32; refine (callsIn_wide.2 (impl_isLinkIs _ _ _ hin)).mono ?_; rintro e w9 ⟨rfl, rfl⟩)
    exact ⟨.bool false, by simp [results, Try.results12, go_sem, c9], by rw [Hr.out], HB1.out.setCell (p := ⟨w.heap.size + 1, 0, none⟩) (Nat.le_succ _) _⟩
  | true =>
    clear br0 br1
    have B2 := hid (show BoxF (W1.alloc (.cells #[.int .i64 0] 3)) w.heap.size ce from B0.out.below ((Below.refl _ _).alloc (Nat.le_refl _) _))
    gi_wp2_with (first | (refine ⟨trivial, ?_⟩; gi_at_call 32; refine (callsIn_wide.2 (impl_isLinkIs _ _ _ hin)).mono ?_; rintro e w9 ⟨rfl, rfl⟩) | refine inL_load_part rfl 29 _ rfl w.heap.size [] (c.nodes_.flatMap Node.enc) [.int .i64 c.first_] ce (by exact B2.out) HE.out rfl _ Try.underlying29 rfl (by rw [hln]; kernel_rfl) ?_)
    have b2 := B2.out
    have hu2 : BoxF (W1.alloc (.cells #[.int .i64 0] 3)) W1.heap.size [.int .i64 0] := BoxF.alloc W1 #[.int .i64 0] 3
    have hr2 : BoxF (W1.alloc (.cells #[.int .i64 0] 3)) (w.heap.size + 1) [.bool false] := (BoxF.ofHeap BR.out).below ((Below.refl _ _).alloc (Nat.le_refl _) _)
    have hB2 : Below w.heap.size w (W1.alloc (.cells #[.int .i64 0] 3)) := HB1.out.alloc (by rw [HS1.out]; omega) _
    have hs2 : (W1.alloc (.cells #[.int .i64 0] 3)).heap.size = w.heap.size + 3 := by simp [HS1.out]
    obtain ⟨W2, hW2⟩ : ∃ X, W1.alloc (.cells #[.int .i64 0] 3) = X := ⟨_, rfl⟩
    rw [hW2] at b2 hu2 hr2 hB2 hs2 ⊢
    rw [HS1.out] at hu2 ⊢
    have HU2 := hid hu2
    have HR2 := hid hr2
    have HB2 := hid hB2
    have HS2 := hid hs2
    have H2 := hid b2
    clear hW2 b2 hu2 hr2 hB2 hs2 B2 k64 e64
    gi_loopw [15] (fun i wr => ∃ k : Nat, k ≤ 16 ∧ i = .int .i64 k ∧ Hid ((c.nodes_.take k).all nodeOkI = true) ∧ Hid (BoxF wr (w.heap.size + 2) [.int .i64 (usedN (c.nodes_.take k))]) ∧ Hid (ChgS (fun b => b = w.heap.size + 2) W2 wr)) (fun i _ => 16 - (intOf i).toNat)
    case atStart => exact ⟨0, by omega, rfl, hid rfl, HU2, hid (ChgS.refl _ _)⟩
    case round =>
      obtain ⟨k, hk, rfl, HA, HU, HCH⟩ := hrel
      have hsr := HCH.out.size
      have hs2 := HS2.out
      have HBX := hid (H2.out.chg HCH.out (by omega))
      have HR := hid (HR2.out.chg HCH.out (by omega))
      have HBr := hid (below_chg HB2.out HCH.out (by omega) (fun b hb => by omega))
      by_cases hlt : k < 16
      · have hkL : k < c.nodes_.length := by rw [HC.out]; exact hlt
        have hix := index_A c.nodes_ HC.out k hkL
        have hk0 : (0 : Int) ≤ (k : Int) := by omega
        have hk16 : (k : Int) < 16 := by omega
        have hus := usedN_take c.nodes_ k hkL
        have hul := usedN_le c.nodes_ k
        have hal : (c.nodes_.take (k+1)).all nodeOkI = nodeOkI c.nodes_[k] := by
          rw [List.take_succ_eq_append_getElem hkL, List.all_append, HA.out]; simp
        have hno : nodeOkI c.nodes_[k] = false → c.nodes_.all nodeOkI = false := fun h => by
          rw [Bool.eq_false_iff]; intro h9; rw [List.all_eq_true] at h9
          rw [h9 _ (List.getElem_mem hkL)] at h; cases h
        obtain ⟨X, hX⟩ : ∃ X, c.nodes_[k] = X := ⟨_, rfl⟩
        rw [hX] at hix hus hal hno
        have HUS := hid hus
        have HAL := hid hal
        have HNO := hid hno
        clear hX hus hal hno
        obtain ⟨xu, xk, xv, xn⟩ := X
        dsimp only at hix
        obtain ⟨W5, hW5⟩ : ∃ X, wr.alloc (.cells #[.bool xu, .int .i64 xk, .int .i64 xv, .int .i64 xn] 28) = X := ⟨_, rfl⟩
        have hb5 : Below wr.heap.size wr W5 := by rw [← hW5]; exact (Below.refl _ _).alloc (Nat.le_refl _) _
        have HBN := hid (show BoxF W5 wr.heap.size [.bool xu, .int .i64 xk, .int .i64 xv, .int .i64 xn] by rw [← hW5]; exact BoxF.alloc wr #[.bool xu, .int .i64 xk, .int .i64 xv, .int .i64 xn] 28)
        have HU5 := hid (HU.out.below hb5)
        have HR5 := hid (HR.out.below hb5)
        have HC5 := hid (HCH.out.trans (ChgS.of_below hb5 _))
        have HB5 := hid (HBr.out.trans (hb5.mono (by omega)))
        have m0 := HBN.out.1.2 0 (by simp)
        have m1 := HBN.out.1.2 1 (by simp)
        have m2 := HBN.out.1.2 2 (by simp)
        have m3 := HBN.out.1.2 3 (by simp)
        simp only [List.getElem?_cons_zero, List.getElem?_cons_succ] at m0 m1 m2 m3
        clear hb5 hsr hs2
        cases hnk : nodeOkI ⟨xu, xk, xv, xn⟩ with
        | false =>
          have Hr := hid (show chainOk c = false by rw [HEQ.out, HNO.out hnk]; simp)
          gi_wp2_with (first | (refine inL_index rfl 29 _ _ rfl _ _ _ rfl rfl hix ?_) | (refine ⟨trivial, ?_⟩; gi_at_call 33; refine (callsIn_wide.2 (impl_nodeOk _ xk xv xn _)).mono ?_; rintro e w5 ⟨rfl, b5⟩; rw [hnk]; have hk5 := HBN.out.below b5; have n0 := hk5.1.2 0 (by simp); have hu5 := HU5.out.below b5; have u0 := hu5.1.2 0 (by simp); have u1 := hu5.2 0 (by simp); have hr5 := HR5.out.below b5; have r0 := hr5.1.2 0 (by simp); have r1 := hr5.2 0 (by simp); simp only [List.getElem?_cons_zero] at n0 u0 r0))
          have c9 := (hr5.set 0 (by simp) (.bool false)).1.2 0 (by simp)
          simp only [List.set_cons_zero, List.getElem?_cons_zero] at c9
          exact ⟨.bool false, by simp [results, Try.results12, go_sem, c9], by rw [Hr.out], (HB5.out.trans (b5.mono HB5.out.size)).setCell (p := ⟨w.heap.size + 1, 0, none⟩) (Nat.le_succ _) _⟩
        | true =>
          have Hy := hid (HAL.out.trans hnk)
          cases xu with
          | true =>
            have Hu := hid (HUS.out.trans (congrArg (usedN (c.nodes_.take k) + ·) (if_pos rfl)))
            gi_wp2_with (first | (refine inL_index rfl 29 _ _ rfl _ _ _ rfl rfl hix ?_) | (refine ⟨trivial, ?_⟩; gi_at_call 33; refine (callsIn_wide.2 (impl_nodeOk _ xk xv xn _)).mono ?_; rintro e w5 ⟨rfl, b5⟩; rw [hnk]; have hk5 := HBN.out.below b5; have n0 := hk5.1.2 0 (by simp); have hu5 := HU5.out.below b5; have u0 := hu5.1.2 0 (by simp); have u1 := hu5.2 0 (by simp); have hr5 := HR5.out.below b5; have r0 := hr5.1.2 0 (by simp); have r1 := hr5.2 0 (by simp); simp only [List.getElem?_cons_zero] at n0 u0 r0))
            go_roundw
            case rel => exact ⟨k+1, by omega, by go_num, Hy, hid (by rw [Hu.out]; have z := hu5.set 0 (by simp) (.int .i64 ((usedN (c.nodes_.take k) : Int) + 1)); simpa using z), hid ((HC5.out.trans (ChgS.of_below b5 _)).set _ _ rfl)⟩
            case measure => simp [intOf]; omega
          | false =>
            have Hu := hid (HUS.out.trans (congrArg (usedN (c.nodes_.take k) + ·) (if_neg Bool.false_ne_true)))
            gi_wp2_with (first | (refine inL_index rfl 29 _ _ rfl _ _ _ rfl rfl hix ?_) | (refine ⟨trivial, ?_⟩; gi_at_call 33; refine (callsIn_wide.2 (impl_nodeOk _ xk xv xn _)).mono ?_; rintro e w5 ⟨rfl, b5⟩; rw [hnk]; have hk5 := HBN.out.below b5; have n0 := hk5.1.2 0 (by simp); have hu5 := HU5.out.below b5; have u0 := hu5.1.2 0 (by simp); have u1 := hu5.2 0 (by simp); have hr5 := HR5.out.below b5; have r0 := hr5.1.2 0 (by simp); have r1 := hr5.2 0 (by simp); simp only [List.getElem?_cons_zero] at n0 u0 r0))
            go_roundw
            case rel => exact ⟨k+1, by omega, by go_num, Hy, hid (by rw [Hu.out, Nat.add_zero]; exact hu5), hid (HC5.out.trans (ChgS.of_below b5 _))⟩
            case measure => simp [intOf]; omega
      · obtain rfl : k = 16 := by omega
        have htk : c.nodes_.take 16 = c.nodes_ := List.take_of_length_le (by rw [HC.out]; exact Nat.le_refl _)
        rw [htk] at HA HU
        clear hk htk
        have hb9 : Below wr.heap.size wr (wr.alloc (.cells #[.int .i64 (-1000000001)] 3)) := (Below.refl _ _).alloc (Nat.le_refl _) _
        have HX9 := hid (HBX.out.below hb9)
        gi_wp2_with (first | (refine inL_load_box rfl 31 _ rfl w.heap.size ce (by exact HX9.out.1) rfl _ Try.underlying31 rfl (by rw [hl]; kernel_rfl) ?_) | (refine ⟨trivial, ?_⟩; gi_at_call 34; refine (callsIn_wide.2 (impl_nodes ce hl _)).mono ?_; rintro e w7 ⟨rfl, rfl⟩))
        have hall : c.nodes_.all nodeOkI = true := HA.out
        have HG := hid (show lkI c.nodes_ (usedN c.nodes_ : Int) c.first_ (-1000000001) = chainOk c by
          rw [HEQ.out, hin, hall, Bool.true_and, Bool.true_and, lk_first HC.out hall]
          unfold lkI
          rw [if_neg (by omega), Int.toNat_natCast])
        have HNX := hid (linksI hall)
        have hrd := nodes1_reads Fence.wide 2 trivial rfl (by omega) c HC.out ((plOk_in _).1 hin) (all_links hall) (wr.heap.size + 1) 2000000001
        have hlast : BoxF (wr.alloc (.cells #[.int .i64 (-1000000001)] 3)) wr.heap.size [.int .i64 (-1000000001)] := BoxF.alloc wr #[.int .i64 (-1000000001)] 3
        have hbc : BoxF ((wr.alloc (.cells #[.int .i64 (-1000000001)] 3)).alloc (.cells ce.toArray 31)) (wr.heap.size + 1) ce := by
          have z := BoxF.alloc (wr.alloc (.cells #[.int .i64 (-1000000001)] 3)) ce.toArray 31
          rw [World.size_alloc] at z
          exact z
        have hb10 : Below wr.heap.size wr ((wr.alloc (.cells #[.int .i64 (-1000000001)] 3)).alloc (.cells ce.toArray 31)) := hb9.alloc (by simp) _
        have hl10 := hlast.below (Below.alloc (o := .cells ce.toArray 31) (Below.refl _ _) (Nat.le_refl _))
        have hs10 : ((wr.alloc (.cells #[.int .i64 (-1000000001)] 3)).alloc (.cells ce.toArray 31)).heap.size = wr.heap.size + 2 := by simp
        obtain ⟨W0, hW0⟩ : ∃ X, (wr.alloc (.cells #[.int .i64 (-1000000001)] 3)).alloc (.cells ce.toArray 31) = X := ⟨_, rfl⟩
        rw [hW0] at hbc hb10 hl10 hs10 ⊢
        have hr10 := HR.out.below hb10
        have hu10 := HU.out.below hb10
        have hB10 := HBr.out.trans (hb10.mono (by omega))
        clear hW0 hlast hb9 hb10
        rw [HCE.out] at hrd
        refine wpIn_over rfl (by omega) (gf := 42) (lb := #[.pointer (some ⟨wr.heap.size + 1, 0, none⟩)]) rfl trivial (enters_of Try.func42 (by kernel_rfl) rfl) hrd (fun _ => rfl)
          (ckI c ce w wr.heap.size)
          (fun cd _ W => cd = .ret ∧ BoxF W (w.heap.size + 1) [.bool false] ∧ Below w.heap.size w W ∧ Hid (chainOk c = false))
          ?hI ?hIx ?hP ?h0
          (fun x a' W => ∃ Bx, wr.heap.size + 2 ≤ Bx ∧ BoxF W Bx [.bool (nd c.nodes_ x).used_, .int .i64 (nd c.nodes_ x).key_, .int .i64 (nd c.nodes_ x).value_, .int .i64 (nd c.nodes_ x).next_] ∧ a' = { tmps := #[.agg ce.toArray, .pointer (some ⟨w.heap.size, 0, none⟩), .pointer (some ⟨w.heap.size + 1, 0, none⟩), .pointer (some ⟨w.heap.size + 2, 0, none⟩), undef, u5, .pointer (some ⟨wr.heap.size, 0, none⟩), undef, .pointer (some ⟨Bx, 0, none⟩), .pointer (some ⟨w.heap.size, 64, none⟩), .int .i64 c.first_, .bool true, .bool false, .pointer (some ⟨w.heap.size, 0, none⟩), .agg (c.nodes_.flatMap Node.enc).toArray, .int .i64 16, .bool false, u17, u18, u19, u20, u21, u22, u23, u24, u25, .agg ce.toArray, .func (.func 42) #[] #[.pointer (some ⟨wr.heap.size + 1, 0, none⟩)], .int .i64 x, .agg #[.bool (nd c.nodes_ x).used_, .int .i64 (nd c.nodes_ x).key_, .int .i64 (nd c.nodes_ x).value_, .int .i64 (nd c.nodes_ x).next_], undef, undef, undef, undef, undef, undef, undef, undef, undef, undef, undef, undef, undef, undef, undef], defers := [] })
          ?hAx ?assign ?body ?done ?stop
        case hI =>
          rintro pre X Y row ⟨t, h1, h2, h3, h4, h5, h6⟩ hg hr
          rw [hs10] at hr
          unfold ckI
          exact ⟨t, boxF_ng h1 (by simp) hg hr, boxF_ng h2 (by simp) hg hr, boxF_ng h3 (by simp) hg hr, boxF_ng h4 (by omega) hg hr, below_ng h5 (Nat.le_refl _) (by omega) hg hr, h6⟩
        case hIx =>
          rintro cd pre X Y row ⟨h0, h1, h5, h6⟩ hg hr
          rw [hs10] at hr
          exact ⟨h0, boxF_ng h1 (by simp) hg hr, below_ng h5 (Nat.le_refl _) (by omega) hg hr, h6⟩
        case hP =>
          rintro pre V ⟨t, h1, h2, h3, h4, h5, h6, h7, h8⟩
          exact ⟨h4, by omega⟩
        case h0 => unfold ckI; exact ⟨-1000000001, hr10, by simpa using hu10, hl10, hbc, hB10, hid (by simpa [nextOf_nil] using HG.out), by simp, .inl rfl⟩
        case hAx =>
          rintro x a' _ X Y row ⟨Bx, h1, h2, h3⟩ hg hr
          exact ⟨Bx, h1, boxF_ng h2 (by simp) hg hr, h3⟩
        case assign =>
          rintro l pre x W K ⟨t, h1, h2, h3, h4, h5, h6, h7, h8⟩ hx hK
          have hsW := h4.1.1
          have hbn : Below W.heap.size W (W.alloc (.cells #[.bool (nd c.nodes_ x).used_, .int .i64 (nd c.nodes_ x).key_, .int .i64 (nd c.nodes_ x).value_, .int .i64 (nd c.nodes_ x).next_] 28)) := (Below.refl _ _).alloc (Nat.le_refl _) _
          have hxn : BoxF (W.alloc (.cells #[.bool (nd c.nodes_ x).used_, .int .i64 (nd c.nodes_ x).key_, .int .i64 (nd c.nodes_ x).value_, .int .i64 (nd c.nodes_ x).next_] 28)) W.heap.size [.bool (nd c.nodes_ x).used_, .int .i64 (nd c.nodes_ x).key_, .int .i64 (nd c.nodes_ x).value_, .int .i64 (nd c.nodes_ x).next_] := BoxF.alloc W #[.bool (nd c.nodes_ x).used_, .int .i64 (nd c.nodes_ x).key_, .int .i64 (nd c.nodes_ x).value_, .int .i64 (nd c.nodes_ x).next_] 28
          have hK2 := hK _ _ ((KeepsOthers.alloc W (.cells #[.bool (nd c.nodes_ x).used_, .int .i64 (nd c.nodes_ x).key_, .int .i64 (nd c.nodes_ x).value_, .int .i64 (nd c.nodes_ x).next_] 28)).from _) (by unfold ckI; exact ⟨t, h1.below hbn, h2.below hbn, h3.below hbn, h4.below hbn, h5.trans (hbn.mono (h5.size)), h6, h7, h8⟩) ⟨W.heap.size, by omega, hxn, rfl⟩
          have HK2 := hid hK2
          clear hK hK2 h1 h2 h3 h4 h5 h6 h7 h8 hbn hxn
          unfold encP
          gi_wp2
          exact HK2.out
        case body =>
          rintro l pre x a' W ⟨t, h1, h2, h3, h4, h5, h6, h7, h8⟩ ⟨Bx, hBx, hbx, rfl⟩ ⟨hx1, hx2⟩
          have l0 := h3.1.2 0 (by simp)
          have l1 := h3.2 0 (by simp)
          have u0 := h2.1.2 0 (by simp)
          have u1 := h2.2 0 (by simp)
          have r0 := h1.1.2 0 (by simp)
          have r1 := h1.2 0 (by simp)
          have n0 := hbx.1.2 0 (by simp)
          have n1 := hbx.1.2 1 (by simp)
          simp only [List.getElem?_cons_zero, List.getElem?_cons_succ] at l0 u0 r0 n0 n1
          have hv := (HNX.out x (by rw [HC.out]; exact hx2)).2
          have HN := hid (nextOf_snoc c.nodes_ c.first_ pre x)
          have hno := lkI_no c.nodes_ ((usedN c.nodes_ : Int) - pre.length) x t (by omega)
          have hon := lkI_on c.nodes_ ((usedN c.nodes_ : Int) - pre.length) x t (by omega)
          rw [← hx1, h6.out, hx1] at hno hon
          obtain ⟨z, hz⟩ : ∃ z : Int, (usedN c.nodes_ : Int) - (pre.length : Int) = z := ⟨_, rfl⟩
          rw [hz] at u0 hon
          have HZ := hid hz
          have HV := hid hv
          have HNO := hid hno
          have HON := hid hon
          have hun : usedN c.nodes_ ≤ 16 := by have z := usedN_le c.nodes_ 16; rwa [List.take_of_length_le (by rw [HC.out]; exact Nat.le_refl _)] at z
          have hz1 : z ≤ 16 ∧ -2000000002 ≤ z := by omega
          have h1 := hid h1
          have h2 := hid h2
          have h3 := hid h3
          have h4 := hid h4
          have h5 := hid h5
          have H7 := hid h7
          clear hno hon hz hv hx1 h6 h7 h8
          cases hu : (nd c.nodes_ x).used_ with
          | false =>
            rw [hu] at n0
            gi_wp2
            exact ⟨(KeepsOthers.setCell _ _ _).from _, rfl, by simpa using h1.out.set 0 (by simp) (.bool false), h5.out.setCell (p := ⟨w.heap.size + 1, 0, none⟩) (Nat.le_succ _) _, hid (HNO.out (.inl hu))⟩
          | true =>
            rw [hu] at n0
            by_cases hk : (nd c.nodes_ x).key_ ≤ t
            · gi_wp2
              exact ⟨(KeepsOthers.setCell _ _ _).from _, rfl, by simpa using h1.out.set 0 (by simp) (.bool false), h5.out.setCell (p := ⟨w.heap.size + 1, 0, none⟩) (Nat.le_succ _) _, hid (HNO.out (.inr hk))⟩
            · have HU9 := hid hu
              have HK9 := hid hk
              gi_wp2
              have hvv := isVal_iff (HV.out HU9.out).1
              have HL9 := HON.out HU9.out HK9.out
              have hz9 := HZ.out
              have h79 := H7.out
              have hk9 := HK9.out
              refine ⟨((KeepsOthers.setCell _ _ _).trans (KeepsOthers.setCell _ _ _)).from _, trivial, ?_⟩
              unfold ckI
              refine ⟨(nd c.nodes_ x).key_, (h1.out.other _ _ (by show ¬ wr.heap.size = w.heap.size + 1; omega)).other _ _ (by show ¬ w.heap.size + 2 = w.heap.size + 1; omega), ?_, ?_, (h4.out.other _ _ (by show ¬ wr.heap.size = wr.heap.size + 1; omega)).other _ _ (by show ¬ w.heap.size + 2 = wr.heap.size + 1; omega), (h5.out.setCell (p := ⟨wr.heap.size, 0, none⟩) (by show w.heap.size ≤ wr.heap.size; omega) _).setCell (p := ⟨w.heap.size + 2, 0, none⟩) (by show w.heap.size ≤ w.heap.size + 2; omega) _, hid ?_, ?_, .inr hvv.2⟩
              · have y := (h2.out.other ⟨wr.heap.size, 0, none⟩ (.int .i64 (nd c.nodes_ x).key_) (by show ¬ wr.heap.size = w.heap.size + 2; omega)).set 0 (by simp) (.int .i64 (z - 1))
                rw [List.length_append, show ((pre.length + [x].length : Nat) : Int) = (pre.length : Int) + 1 by simp, show (usedN c.nodes_ : Int) - ((pre.length : Int) + 1) = z - 1 by omega]
                simpa using y
              · have y := (h3.out.set 0 (by simp) (.int .i64 (nd c.nodes_ x).key_)).other ⟨w.heap.size + 2, 0, none⟩ (.int .i64 (z - 1)) (by show ¬ w.heap.size + 2 = wr.heap.size; omega)
                simpa using y
              · rw [List.length_append, show ((pre.length + [x].length : Nat) : Int) = (pre.length : Int) + 1 by simp, show (usedN c.nodes_ : Int) - ((pre.length : Int) + 1) = z - 1 by omega, HN.out]
                exact HL9.symm
              · rw [List.length_append, show ((pre.length + [x].length : Nat) : Int) = (pre.length : Int) + 1 by simp]
                omega
        case done =>
          rintro D xs W hD hS ⟨t, h1, h2, h3, h4, h5, h6, h7, h8⟩ hK
          rw [hs10] at hD
          have h6' := h6.out
          rw [hS, lkI_end] at h6'
          have H6 := hid h6'
          have hun : usedN c.nodes_ ≤ 16 := by have z := usedN_le c.nodes_ 16; rwa [List.take_of_length_le (by rw [HC.out]; exact Nat.le_refl _)] at z
          clear h6 h6' hS
          have u0 := h2.1.2 0 (by simp)
          have r0 := h1.1.2 0 (by simp)
          have r1 := h1.2 0 (by simp)
          simp only [List.getElem?_cons_zero] at u0 r0
          obtain ⟨z, hz⟩ : ∃ z : Int, (usedN c.nodes_ : Int) - (xs.length : Int) = z := ⟨_, rfl⟩
          rw [hz] at u0 H6
          clear h2 h3 h4
          cases hz0 : (z == 0) with
          | false =>
            have h1s := h1.set 0 (by simp) (.bool false)
            gi_wp2
            have h9 := (h1s.grown (grownBy_putObj' _ D (.deferred none)) (fun e => by have := Option.some.inj e; omega)).1.2 0 (by simp)
            simp only [List.set_cons_zero, List.getElem?_cons_zero] at h9
            refine ⟨by simp, .inl ⟨_, _, rfl, run_takeDeferred ((KeepsOthers.setCell W ⟨w.heap.size + 1, 0, none⟩ (.bool false)).same D _ hK rfl), ?_⟩⟩
            exact ⟨.bool false, by simp [results, Try.results12, go_sem, h9], by rw [← H6.out]; simpa using hz0, (h5.setCell (p := ⟨w.heap.size + 1, 0, none⟩) (Nat.le_succ _) _).trans (belowK_b (w := w) (Nat.le_refl _) _ D _ _ (by omega) ((KeepsOthers.setCell W ⟨w.heap.size + 1, 0, none⟩ (.bool false)).same D _ hK rfl) rfl rfl)⟩
          | true =>
            have h1s := h1.set 0 (by simp) (.bool true)
            gi_wp2
            have h9 := (h1s.grown (grownBy_putObj' _ D (.deferred none)) (fun e => by have := Option.some.inj e; omega)).1.2 0 (by simp)
            simp only [List.set_cons_zero, List.getElem?_cons_zero] at h9
            refine ⟨by simp, .inl ⟨_, _, rfl, run_takeDeferred ((KeepsOthers.setCell W ⟨w.heap.size + 1, 0, none⟩ (.bool true)).same D _ hK rfl), ?_⟩⟩
            exact ⟨.bool true, by simp [results, Try.results12, go_sem, h9], by rw [← H6.out]; simpa using hz0, (h5.setCell (p := ⟨w.heap.size + 1, 0, none⟩) (Nat.le_succ _) _).trans (belowK_b (w := w) (Nat.le_refl _) _ D _ _ (by omega) ((KeepsOthers.setCell W ⟨w.heap.size + 1, 0, none⟩ (.bool true)).same D _ hK rfl) rfl rfl)⟩
        case stop =>
          rintro D cd pre W hD ⟨rfl, h1, h5, h6⟩ hK
          rw [hs10] at hD
          gi_wp2
          have h9 := (h1.grown (grownBy_putObj' W D (.deferred none)) (fun e => by have := Option.some.inj e; omega)).1.2 0 (by simp)
          simp only [List.getElem?_cons_zero] at h9
          refine ⟨by simp, .inl ⟨_, _, rfl, run_takeDeferred hK, ?_⟩⟩
          exact ⟨.bool false, by simp [results, Try.results12, go_sem, h9], by rw [h6.out], h5.trans (belowK_b (w := w) (Nat.le_refl _) W D _ _ (by omega) hK rfl rfl)⟩
end Go.Proofs.Ytadbgfaboafkeaa
