/- Chapter 13's program: MapRange. (printed by tools/mk_i13r.py) -/
import Derived.Test.YtadbgfaboafkeaaI13c
import Derived.Test.YtadbgfaboafkeaaS13r
namespace Go.Proofs.Ytadbgfaboafkeaa
set_option maxRecDepth 100000
open Go.RowKit Go.Proofs Go.Own Go.Shelf
open Go Go.BigFrame
set_option linter.unusedVariables false
set_option linter.unusedSimpArgs false
attribute [local go_sem] Oper.semAt_some
theorem owns_lo {X Y : World} {row : Option Nat} {base e sz n : Nat} {v : Value} {xs : List Value} (h : X.ownsRow base e sz v n xs) (hg : X.grownBy Y row) (hr : ∀ r, row = some r → r < base) : Y.ownsRow base e sz v n xs := by
  refine h.kept hg ?_
  cases hv : v.ownBlock with
  | none => exact .inl rfl
  | some k =>
    refine .inr fun e => ?_
    have h1 := World.ownsRow.lt h k hv
    have h2 := hr k e.symm
    omega
theorem owns_ng {X Y : World} {row : Option Nat} {base e sz n B : Nat} {v : Value} {xs : List Value} (h : X.ownsRow base e sz v n xs) (hg : X.grownBy Y row) (hr : ∀ r, row = some r → B ≤ r ∧ ∃ o : Obj, X.heap[r]? = some o ∧ o.isCells = false) : Y.ownsRow base e sz v n xs := by
  refine h.kept hg ?_
  rcases h.2 with ⟨rfl, _⟩ | ⟨g, cap, cur, rfl, _, hgb, _⟩
  · exact .inl rfl
  · refine .inr fun e' => ?_
    obtain ⟨_, o, ho, hc⟩ := hr g (by simpa [Value.ownBlock] using e'.symm)
    rw [hgb] at ho; cases ho; cases hc
/-- What the boxes hold between two rounds, and when one has left. -/
def rgI (c : ChainD) (ce : List Value) (lo hi : Int) (w : World) (K1 : Nat) (pre : List Nat) (W : World) : Prop :=
  BoxF W (w.heap.size + 1) [.int .i64 lo] ∧ BoxF W (w.heap.size + 2) [.int .i64 hi] ∧ BoxF W (w.heap.size + 3) [.slice none 0 0] ∧ BoxF W (w.heap.size + 4) [.int .i64 0] ∧ BoxF W (K1 + 1) [.int .i64 pre.length] ∧ BoxF W (K1 + 2) ce ∧ Below w.heap.size w W ∧ pre.length ≤ 10 ∧
  ∃ (ua : Option Addr) (um uc : Nat) (X : List Int), BoxF W K1 [.slice ua um uc] ∧ W.ownsRow (K1 + 3) 3 1 (.slice ua um uc) X.length (X.flatMap encI) ∧ X.length ≤ pre.length ∧ Hid (rangeTo c.nodes_ lo hi (10 - pre.length) (nextOf c.nodes_ c.first_ pre) X = rangeC c lo hi)
def rgX (c : ChainD) (lo hi : Int) (w : World) (K1 : Nat) (cd : Code) (_ : List Nat) (W : World) : Prop :=
  BoxF W (w.heap.size + 3) [.slice none 0 0] ∧ Below w.heap.size w W ∧
  ((cd = .ret ∧ BoxF W (w.heap.size + 4) [.int .i64 2] ∧ Hid (rangeC c lo hi = ([], 2))) ∨ (cd = .exit 0 ∧ BoxF W (w.heap.size + 4) [.int .i64 0] ∧ ∃ (ua : Option Addr) (um uc : Nat) (X : List Int), BoxF W K1 [.slice ua um uc] ∧ W.ownsRow (K1 + 3) 3 1 (.slice ua um uc) X.length (X.flatMap encI) ∧ Hid (rangeC c lo hi = (X, 0))))
set_option maxHeartbeats 8000000 in
theorem impl_MapRange0 (c : ChainD) (hc : c.nodes_.length = 16) (lo hi : Int) (w : World) :
    Calls Try.prog 28 #[.agg c.enc.toArray, .int .i64 lo, .int .i64 hi] w fun e w' => ∃ u : Value, e = .returned (.tuple #[u, .int .i64 (rangeC c lo hi).2]) ∧ w'.ownsRow w.heap.size 3 1 u (rangeC c lo hi).1.length ((rangeC c lo hi).1.flatMap encI) ∧ Below w.heap.size w w' := by
  obtain ⟨j0, hj, hy0, hy1, hy2⟩ := info_parts infoIntC
  have hl := chain_len hc
  have hl2 : c.enc.toArray.size = 65 := by rw [List.size_toArray, hl]
  have HC := hid hc
  have HCK0 := hid (fun (W : World) => impl_ChainOk0 c hc W)
  generalize hce : c.enc = ce at *
  obtain ⟨W1, hW1⟩ : ∃ X, ((((w.alloc (.cells ce.toArray 31)).alloc (.cells #[.int .i64 lo] 3)).alloc (.cells #[.int .i64 hi] 3)).alloc (.cells #[.slice none 0 0] 44)).alloc (.cells #[.int .i64 0] 3) = X := ⟨_, rfl⟩
  have hB1 : Below w.heap.size w W1 := by rw [← hW1]; exact (((((Below.refl _ _).alloc (Nat.le_refl _) _).alloc (by simp) _).alloc (by simp; omega) _).alloc (by simp; omega) _).alloc (by simp; omega) _
  have hs1 : W1.heap.size = w.heap.size + 5 := by rw [← hW1]; simp
  have hh : W1.heap = ((((w.heap.push (.cells ce.toArray 31)).push (.cells #[.int .i64 lo] 3)).push (.cells #[.int .i64 hi] 3)).push (.cells #[.slice none 0 0] 44)).push (.cells #[.int .i64 0] 3) := by rw [← hW1]; rfl
  have B1 := hid (BoxF.ofHeap (w := W1) (b := w.heap.size) (cs := ce.toArray) (t := 31) (by rw [hh]; repeat (first | (refine push_hit _ _ _ ?_; (try simp only [Array.size_push]) <;> omega) | (refine (push_miss _ _ _ ?_).trans ?_; (first | omega | (simp only [Array.size_push]; omega))))))
  have HL := hid (BoxF.ofHeap (w := W1) (b := w.heap.size + 1) (cs := #[.int .i64 lo]) (t := 3) (by rw [hh]; repeat (first | (refine push_hit _ _ _ ?_; (try simp only [Array.size_push]) <;> omega) | (refine (push_miss _ _ _ ?_).trans ?_; (first | omega | (simp only [Array.size_push]; omega))))))
  have HH := hid (BoxF.ofHeap (w := W1) (b := w.heap.size + 2) (cs := #[.int .i64 hi]) (t := 3) (by rw [hh]; repeat (first | (refine push_hit _ _ _ ?_; (try simp only [Array.size_push]) <;> omega) | (refine (push_miss _ _ _ ?_).trans ?_; (first | omega | (simp only [Array.size_push]; omega))))))
  have HR := hid (BoxF.ofHeap (w := W1) (b := w.heap.size + 3) (cs := #[.slice none 0 0]) (t := 44) (by rw [hh]; repeat (first | (refine push_hit _ _ _ ?_; (try simp only [Array.size_push]) <;> omega) | (refine (push_miss _ _ _ ?_).trans ?_; (first | omega | (simp only [Array.size_push]; omega))))))
  have HQ := hid (BoxF.ofHeap (w := W1) (b := w.heap.size + 4) (cs := #[.int .i64 0]) (t := 3) (by rw [hh]; repeat (first | (refine push_hit _ _ _ ?_; (try simp only [Array.size_push]) <;> omega) | (refine (push_miss _ _ _ ?_).trans ?_; (first | omega | (simp only [Array.size_push]; omega))))))
  have HCK := hid (HCK0.out W1)
  have HB1 := hid hB1
  have HCE := hid hce
  have HS1 := hid hs1
  clear hc hB1 hce hs1 hh
  refine (callsIn_wide (n := 3)).1 ?_
  refine callsIn_of_wp_marks Try.func28 rfl trivial ?_ rfl
  simp only [Try.ntmps28, List.size_toArray, List.length_cons, List.length_nil, Nat.reduceAdd, Nat.reduceSub, Array.replicate_succ, Array.replicate_zero, List.push_toArray, List.append_toArray, List.nil_append, List.cons_append]
  cases hok : chainOk c with
  | false =>
    have Hr := hid (show rangeC c lo hi = ([], 1) by simp [rangeC, hok])
    gi_wp2_with (first | (refine ⟨trivial, ?_⟩; gi_at_call 12; refine (callsIn_wide.2 HCK.out).mono ?_; rintro e w2 ⟨rfl, b2⟩; rw [hok]; have B2 := B1.out.below b2; have l2 := HL.out.below b2; have h2 := HH.out.below b2; have r2 := HR.out.below b2; have q2 := HQ.out.below b2; have r20 := r2.1.2 0 (by simp); have r21 := r2.2 0 (by simp); have q20 := q2.1.2 0 (by simp); have q21 := q2.2 0 (by simp); have HB2 := hid (HB1.out.trans (b2.mono HB1.out.size)); simp only [List.getElem?_cons_zero] at r20 q20; have B3 := hid (show BoxF ((w2.alloc (.cells #[.slice none 0 0] 44)).alloc (.cells #[.int .i64 0] 3)) w.heap.size ce from (B2.below ((Below.refl _ _).alloc (Nat.le_refl _) _)).below ((Below.refl _ _).alloc (Nat.le_refl _) _))) | (refine inL_load_box rfl 31 _ rfl w.heap.size ce (by first | exact B1.out.1 | exact B3.out.1) rfl _ Try.underlying31 rfl (by rw [hl]; kernel_rfl) ?_))
    have z := (((r2.set 0 (by simp) (.slice none 0 0)).other ⟨w.heap.size + 4, 0, none⟩ (.int .i64 1) (by show ¬ w.heap.size + 4 = w.heap.size + 3; omega))).1.2 0 (by simp)
    have y := (((q2.other ⟨w.heap.size + 3, 0, none⟩ (.slice none 0 0) (by show ¬ w.heap.size + 3 = w.heap.size + 4; omega)).set 0 (by simp) (.int .i64 1))).1.2 0 (by simp)
    simp only [List.set_cons_zero, List.getElem?_cons_zero] at z y
    exact ⟨.tuple #[.slice none 0 0, .int .i64 1], by simp [results, Try.results28, go_sem, z, y], ⟨_, by rw [Hr.out], by rw [Hr.out]; exact World.ownsRow_nil _ _ _ _, ((HB2.out.setCell (p := ⟨w.heap.size + 3, 0, none⟩) (by show w.heap.size ≤ w.heap.size + 3; omega) _).setCell (p := ⟨w.heap.size + 4, 0, none⟩) (by show w.heap.size ≤ w.heap.size + 4; omega) _)⟩⟩
  | true =>
    gi_wp2_with (first | (refine ⟨trivial, ?_⟩; gi_at_call 12; refine (callsIn_wide.2 HCK.out).mono ?_; rintro e w2 ⟨rfl, b2⟩; rw [hok]; have B2 := B1.out.below b2; have l2 := HL.out.below b2; have h2 := HH.out.below b2; have r2 := HR.out.below b2; have q2 := HQ.out.below b2; have r20 := r2.1.2 0 (by simp); have r21 := r2.2 0 (by simp); have q20 := q2.1.2 0 (by simp); have q21 := q2.2 0 (by simp); have HB2 := hid (HB1.out.trans (b2.mono HB1.out.size)); simp only [List.getElem?_cons_zero] at r20 q20; have B3 := hid (show BoxF ((w2.alloc (.cells #[.slice none 0 0] 44)).alloc (.cells #[.int .i64 0] 3)) w.heap.size ce from (B2.below ((Below.refl _ _).alloc (Nat.le_refl _) _)).below ((Below.refl _ _).alloc (Nat.le_refl _) _))) | (refine inL_load_box rfl 31 _ rfl w.heap.size ce (by first | exact B1.out.1 | exact B3.out.1) rfl _ Try.underlying31 rfl (by rw [hl]; kernel_rfl) ?_) | (refine ⟨trivial, ?_⟩; gi_at_call 34; refine (callsIn_wide.2 (impl_nodes ce hl _)).mono ?_; rintro e w7 ⟨rfl, rfl⟩))
    clear hW1
    have hok2 := chainOk_eq c HC.out
    rw [hok] at hok2
    have hok3 : inB c.first_ (-1) 15 = true ∧ c.nodes_.all nodeOkI = true := by
      have z := hok2.symm; simp only [Bool.and_eq_true] at z; exact z.1
    have hrd := nodes1_reads Fence.wide 2 trivial rfl (by omega) c HC.out ((plOk_in _).1 hok3.1) (all_links hok3.2) (w2.heap.size + 2) 10
    have hsw : w.heap.size + 5 ≤ w2.heap.size := by have := b2.size; rw [HS1.out] at this; exact this
    have HWC := hid (show rangeTo c.nodes_ lo hi 10 c.first_ [] = rangeC c lo hi by unfold rangeC; rw [if_pos hok])
    obtain ⟨W0, hW0⟩ : ∃ X, ((w2.alloc (.cells #[.slice none 0 0] 44)).alloc (.cells #[.int .i64 0] 3)).alloc (.cells ce.toArray 31) = X := ⟨_, rfl⟩
    have hs0 : W0.heap.size = w2.heap.size + 3 := by rw [← hW0]; simp
    have hh : W0.heap = ((w2.heap.push (.cells #[.slice none 0 0] 44)).push (.cells #[.int .i64 0] 3)).push (.cells ce.toArray 31) := by rw [← hW0]; rfl
    have hb3 : Below w2.heap.size w2 W0 := by rw [← hW0]; exact (((Below.refl _ _).alloc (Nat.le_refl _) _).alloc (by simp) _).alloc (by simp; omega) _
    have hk0 := BoxF.ofHeap (w := W0) (b := w2.heap.size) (cs := #[.slice none 0 0]) (t := 44) (by rw [hh]; repeat (first | (refine push_hit _ _ _ ?_; (try simp only [Array.size_push]) <;> omega) | (refine (push_miss _ _ _ ?_).trans ?_; (first | omega | (simp only [Array.size_push]; omega)))))
    have ho0 := BoxF.ofHeap (w := W0) (b := w2.heap.size + 1) (cs := #[.int .i64 0]) (t := 3) (by rw [hh]; repeat (first | (refine push_hit _ _ _ ?_; (try simp only [Array.size_push]) <;> omega) | (refine (push_miss _ _ _ ?_).trans ?_; (first | omega | (simp only [Array.size_push]; omega)))))
    have hbc := BoxF.ofHeap (w := W0) (b := w2.heap.size + 2) (cs := ce.toArray) (t := 31) (by rw [hh]; repeat (first | (refine push_hit _ _ _ ?_; (try simp only [Array.size_push]) <;> omega) | (refine (push_miss _ _ _ ?_).trans ?_; (first | omega | (simp only [Array.size_push]; omega)))))
    rw [hW0]
    have hl3 := l2.below hb3
    have hh3 := h2.below hb3
    have hr3 := r2.below hb3
    have hq3 := q2.below hb3
    have hB3 := HB2.out.trans (hb3.mono HB2.out.size)
    rw [HCE.out] at hrd
    clear hW0 hb3 hh hok2 hok3 b2 l2 h2 r2 q2 r20 r21 q20 q21 B2 B3
    refine wpIn_over rfl (by omega) (gf := 42) (lb := #[.pointer (some ⟨w2.heap.size + 2, 0, none⟩)]) rfl trivial (enters_of Try.func42 (by kernel_rfl) rfl) hrd (fun _ => rfl)
      (rgI c ce lo hi w w2.heap.size) (rgX c lo hi w w2.heap.size) ?hI ?hIx ?hP ?h0
      (fun x a' W => ∃ Bx, w2.heap.size + 3 ≤ Bx ∧ BoxF W Bx [.bool (nd c.nodes_ x).used_, .int .i64 (nd c.nodes_ x).key_, .int .i64 (nd c.nodes_ x).value_, .int .i64 (nd c.nodes_ x).next_] ∧ a' = { tmps := #[.agg ce.toArray, .int .i64 lo, .int .i64 hi, .pointer (some ⟨w.heap.size, 0, none⟩), .pointer (some ⟨w.heap.size + 1, 0, none⟩), .pointer (some ⟨w.heap.size + 2, 0, none⟩), .pointer (some ⟨w.heap.size + 3, 0, none⟩), .pointer (some ⟨w.heap.size + 4, 0, none⟩), .pointer (some ⟨w2.heap.size, 0, none⟩), .pointer (some ⟨w2.heap.size + 1, 0, none⟩), undef, .pointer (some ⟨Bx, 0, none⟩), .agg ce.toArray, .bool true, .bool false, .agg ce.toArray, .func (.func 42) #[] #[.pointer (some ⟨w2.heap.size + 2, 0, none⟩)], .int .i64 x, .agg #[.bool (nd c.nodes_ x).used_, .int .i64 (nd c.nodes_ x).key_, .int .i64 (nd c.nodes_ x).value_, .int .i64 (nd c.nodes_ x).next_], undef, undef, undef, undef, undef, undef, undef, undef, undef, undef, undef, undef, undef, undef, undef, undef, undef, undef], defers := [] })
      ?hAx ?assign ?body ?done ?stop
    case hI =>
      rintro pre X Y row ⟨h1, h2, h3, h4, h5, h6, h7, h8, ua, um, uc, Z, h9, h10, h11, h12⟩ hg hr
      rw [hs0] at hr
      unfold rgI
      exact ⟨boxF_ng h1 (by simp) hg hr, boxF_ng h2 (by simp) hg hr, boxF_ng h3 (by simp) hg hr, boxF_ng h4 (by simp) hg hr, boxF_ng h5 (by simp) hg hr, boxF_ng h6 (by omega) hg hr, below_ng h7 (Nat.le_refl _) (by omega) hg hr, h8, ua, um, uc, Z, boxF_ng h9 (by simp) hg hr, owns_ng h10 hg hr, h11, h12⟩
    case hIx =>
      rintro cd pre X Y row ⟨h2, h3, h4⟩ hg hr
      rw [hs0] at hr
      refine ⟨boxF_ng h2 (by simp) hg hr, below_ng h3 (Nat.le_refl _) (by omega) hg hr, ?_⟩
      rcases h4 with ⟨h4, h1, h5⟩ | ⟨h4, h1, ua, um, uc, Z, h5, h6, h7⟩
      · exact .inl ⟨h4, boxF_ng h1 (by simp) hg hr, h5⟩
      · exact .inr ⟨h4, boxF_ng h1 (by simp) hg hr, ua, um, uc, Z, boxF_ng h5 (by simp) hg hr, owns_ng h6 hg hr, h7⟩
    case hP =>
      rintro pre W ⟨h1, h2, h3, h4, h5, h6, h7, h8, h9⟩
      exact ⟨h6, h8⟩
    case h0 =>
      unfold rgI
      exact ⟨hl3, hh3, hr3, hq3, ho0, hbc, hB3, by simp, none, 0, 0, [], hk0, World.ownsRow_nil _ _ _ _, by simp, hid HWC.out⟩
    case hAx =>
      rintro x a' _ X Y row ⟨Bx, h1, h2, h3⟩ hg hr
      exact ⟨Bx, h1, boxF_ng h2 (by simp) hg hr, h3⟩
    case assign =>
      rintro l pre x W K hi hx hK
      have hsW := ((show BoxF W (w2.heap.size + 2) ce from hi.2.2.2.2.2.1)).1.1
      have hbn : Below W.heap.size W (W.alloc (.cells #[.bool (nd c.nodes_ x).used_, .int .i64 (nd c.nodes_ x).key_, .int .i64 (nd c.nodes_ x).value_, .int .i64 (nd c.nodes_ x).next_] 28)) := (Below.refl _ _).alloc (Nat.le_refl _) _
      have hxn : BoxF (W.alloc (.cells #[.bool (nd c.nodes_ x).used_, .int .i64 (nd c.nodes_ x).key_, .int .i64 (nd c.nodes_ x).value_, .int .i64 (nd c.nodes_ x).next_] 28)) W.heap.size [.bool (nd c.nodes_ x).used_, .int .i64 (nd c.nodes_ x).key_, .int .i64 (nd c.nodes_ x).value_, .int .i64 (nd c.nodes_ x).next_] := BoxF.alloc W #[.bool (nd c.nodes_ x).used_, .int .i64 (nd c.nodes_ x).key_, .int .i64 (nd c.nodes_ x).value_, .int .i64 (nd c.nodes_ x).next_] 28
      have hK2 := hK _ _ ((KeepsOthers.alloc W (.cells #[.bool (nd c.nodes_ x).used_, .int .i64 (nd c.nodes_ x).key_, .int .i64 (nd c.nodes_ x).value_, .int .i64 (nd c.nodes_ x).next_] 28)).from _) (by obtain ⟨h1, h2, h3, h4, h5, h6, h7, h8, ua, um, uc, Z, h9, h10, h11, h12⟩ := hi; unfold rgI; exact ⟨h1.below hbn, h2.below hbn, h3.below hbn, h4.below hbn, h5.below hbn, h6.below hbn, h7.trans (hbn.mono h7.size), h8, ua, um, uc, Z, h9.below hbn, owns_lo h10 (World.grownBy_alloc W _ none) (fun r e => by cases e), h11, h12⟩) ⟨W.heap.size, by omega, hxn, rfl⟩
      have HK2 := hid hK2
      clear hK hK2 hi hbn hxn
      unfold encP
      gi_wp2
      exact HK2.out
    case body =>
      rintro l pre x a' W ⟨h1, h2, h3, h4, h5, h6, h7, h8, ua, um, uc, X, h9, h10, h11, h12⟩ ⟨Bx, hBx, hbx, rfl⟩ ⟨hx1, hx2⟩
      have lo0 := h1.1.2 0 (by simp)
      have hi0 := h2.1.2 0 (by simp)
      have r0 := h3.1.2 0 (by simp)
      have r1 := h3.2 0 (by simp)
      have q0 := h4.1.2 0 (by simp)
      have q1 := h4.2 0 (by simp)
      have o0 := h5.1.2 0 (by simp)
      have o1 := h5.2 0 (by simp)
      have k0 := h9.1.2 0 (by simp)
      have k1 := h9.2 0 (by simp)
      have n1 := hbx.1.2 1 (by simp)
      simp only [List.getElem?_cons_zero, List.getElem?_cons_succ] at lo0 hi0 r0 q0 o0 k0 n1
      have HN := hid (nextOf_snoc c.nodes_ c.first_ pre x)
      have h12' := h12.out
      rw [hx1] at h12'
      obtain ⟨m, hm⟩ : ∃ m, pre.length = m := ⟨_, rfl⟩
      rw [hm] at o0 h8 h11 h12' h5
      have HM := hid hm
      have HBN := hid hbx
      have H12 := hid h12'
      have h1 := hid h1
      have h2 := hid h2
      have h3 := hid h3
      have h4 := hid h4
      have h5 := hid h5
      have h6 := hid h6
      have h7 := hid h7
      have h9 := hid h9
      have h10 := hid h10
      have HXN1 := hid (show ¬ (x : Int) = -1 by omega)
      clear h12 h12' hx1 hm hbx
      by_cases hm10 : m = 10
      · subst hm10
        have HRR := hid (show rangeC c lo hi = ([], 2) by rw [← H12.out]; simp [rangeTo, HXN1.out])
        gi_wp2
        exact ⟨((KeepsOthers.setCell _ _ _).trans (KeepsOthers.setCell _ _ _)).from _, by simpa using ((h3.out.set 0 (by simp) (.slice none 0 0)).other ⟨w.heap.size + 4, 0, none⟩ (.int .i64 2) (by show ¬ w.heap.size + 4 = w.heap.size + 3; omega)), ((h7.out.setCell (p := ⟨w.heap.size + 3, 0, none⟩) (by show w.heap.size ≤ w.heap.size + 3; omega) _).setCell (p := ⟨w.heap.size + 4, 0, none⟩) (by show w.heap.size ≤ w.heap.size + 4; omega) _), .inl ⟨rfl, by simpa using ((h4.out.other ⟨w.heap.size + 3, 0, none⟩ (.slice none 0 0) (by show ¬ w.heap.size + 3 = w.heap.size + 4; omega)).set 0 (by simp) (.int .i64 2)), HRR⟩⟩
      · have hm2 : ¬ (m : Int) = 10 := by omega
        have H12' := H12.out
        rw [show 10 - m = (10 - (m+1)) + 1 by omega, rangeTo, if_neg HXN1.out] at H12'
        by_cases hgt : hi < (nd c.nodes_ x).key_
        · rw [if_pos hgt] at H12'
          have HRR := hid H12'.symm
          clear H12 H12'
          gi_wp2
          exact ⟨(KeepsOthers.setCell _ _ _).from _, (h3.out.other ⟨w2.heap.size + 1, 0, none⟩ (.int .i64 ((m : Int) + 1)) (by show ¬ w2.heap.size + 1 = w.heap.size + 3; omega)), (h7.out.setCell (p := ⟨w2.heap.size + 1, 0, none⟩) (by show w.heap.size ≤ w2.heap.size + 1; omega) _), .inr ⟨rfl, (h4.out.other ⟨w2.heap.size + 1, 0, none⟩ (.int .i64 ((m : Int) + 1)) (by show ¬ w2.heap.size + 1 = w.heap.size + 4; omega)), ua, um, uc, X, (h9.out.other ⟨w2.heap.size + 1, 0, none⟩ (.int .i64 ((m : Int) + 1)) (by show ¬ w2.heap.size + 1 = w2.heap.size; omega)), (owns_lo h10.out (grownBy_setCell _ ⟨w2.heap.size + 1, 0, none⟩ (.int .i64 ((m : Int) + 1))) (fun r e => by have := Option.some.inj e; have e2 : w2.heap.size + 1 = r := this; omega)), HRR⟩⟩
        · rw [if_neg hgt] at H12'
          by_cases hlo : lo ≤ (nd c.nodes_ x).key_
          · rw [if_pos hlo] at H12'
            have HW8 := hid H12'
            have HLT := hid hgt
            clear H12 H12'
            have hbx := HBN.out
            obtain ⟨W7, hW7⟩ : ∃ Y, W.setCell ⟨w2.heap.size + 1, 0, none⟩ (.int .i64 ((m : Int) + 1)) = Y := ⟨_, rfl⟩
            have g1 := hid (show BoxF W7 (w.heap.size + 1) [.int .i64 lo] by rw [← hW7]; exact (h1.out.other ⟨w2.heap.size + 1, 0, none⟩ (.int .i64 ((m : Int) + 1)) (by show ¬ w2.heap.size + 1 = w.heap.size + 1; omega)))
            have g2 := hid (show BoxF W7 (w.heap.size + 2) [.int .i64 hi] by rw [← hW7]; exact (h2.out.other ⟨w2.heap.size + 1, 0, none⟩ (.int .i64 ((m : Int) + 1)) (by show ¬ w2.heap.size + 1 = w.heap.size + 2; omega)))
            have g3 := hid (show BoxF W7 (w.heap.size + 3) [.slice none 0 0] by rw [← hW7]; exact (h3.out.other ⟨w2.heap.size + 1, 0, none⟩ (.int .i64 ((m : Int) + 1)) (by show ¬ w2.heap.size + 1 = w.heap.size + 3; omega)))
            have g4 := hid (show BoxF W7 (w.heap.size + 4) [.int .i64 0] by rw [← hW7]; exact (h4.out.other ⟨w2.heap.size + 1, 0, none⟩ (.int .i64 ((m : Int) + 1)) (by show ¬ w2.heap.size + 1 = w.heap.size + 4; omega)))
            have g5 := hid (show BoxF W7 (w2.heap.size + 1) [.int .i64 ((m : Int) + 1)] by rw [← hW7]; simpa using (h5.out.set 0 (by simp) (.int .i64 ((m : Int) + 1))))
            have g6 := hid (show BoxF W7 (w2.heap.size + 2) ce by rw [← hW7]; exact (h6.out.other ⟨w2.heap.size + 1, 0, none⟩ (.int .i64 ((m : Int) + 1)) (by show ¬ w2.heap.size + 1 = w2.heap.size + 2; omega)))
            have g7 := hid (show Below w.heap.size w W7 by rw [← hW7]; exact (h7.out.setCell (p := ⟨w2.heap.size + 1, 0, none⟩) (by show w.heap.size ≤ w2.heap.size + 1; omega) _))
            have g9 := hid (show BoxF W7 w2.heap.size [.slice ua um uc] by rw [← hW7]; exact (h9.out.other ⟨w2.heap.size + 1, 0, none⟩ (.int .i64 ((m : Int) + 1)) (by show ¬ w2.heap.size + 1 = w2.heap.size; omega)))
            have g10 : W7.ownsRow (w2.heap.size + 3) 3 1 (.slice ua um uc) X.length (X.flatMap encI) := by rw [← hW7]; exact (owns_lo h10.out (grownBy_setCell _ ⟨w2.heap.size + 1, 0, none⟩ (.int .i64 ((m : Int) + 1))) (fun r e => by have := Option.some.inj e; have e2 : w2.heap.size + 1 = r := this; omega))
            have gn := (show BoxF W7 Bx [.bool (nd c.nodes_ x).used_, .int .i64 (nd c.nodes_ x).key_, .int .i64 (nd c.nodes_ x).value_, .int .i64 (nd c.nodes_ x).next_] by rw [← hW7]; exact (hbx.other ⟨w2.heap.size + 1, 0, none⟩ (.int .i64 ((m : Int) + 1)) (by show ¬ w2.heap.size + 1 = Bx; omega))).1.2 1 (by simp)
            have gk0 := g9.out.1.2 0 (by simp)
            have gl := g1.out.1.2 0 (by simp)
            have gh := g2.out.1.2 0 (by simp)
            have gkk := (show KeepsFrom W0.heap.size W W7 by rw [← hW7]; exact (KeepsOthers.setCell _ _ _).from _)
            simp only [List.getElem?_cons_zero, List.getElem?_cons_succ] at gn gk0 gl gh
            have hsz := g6.out.1.1
            clear h1 h2 h3 h4 h5 h6 h7 h9 h10 hbx
            gi_wp2_with (gi_at_builtin; refine wpListIn_append_own _ rfl _ _ 44 rfl (w2.heap.size + 3) 3 j0 (.int .i64 0) 1 8 Try.underlying44 hj hy0 hy1 hy2 rfl (by decide) _ _ _ rfl (g10.alloc _) ⟨W7.heap.size, 0, none⟩ 1 1 [.int .i64 (nd c.nodes_ x).key_] rfl rfl (cell_one_new _ _ _) (by simp [Value.oneCell']) (by unfold maxLen; omega) (by omega) (by simp; omega) ?_)
            intro v' w4 hown' hgrow _
            obtain ⟨g', cap', rfl⟩ := ownsRow_succ hown'
            have hba : Below W7.heap.size W7 (W7.alloc (.cells #[.int .i64 (nd c.nodes_ x).key_] 3)) := (Below.refl _ _).alloc (Nat.le_refl _) _
            have hlow : ∀ b, b < w2.heap.size + 3 → ¬ (Value.slice ua um uc).ownBlock = some b := fun b hb e => by have := World.ownsRow.lt g10 b e; omega
            have a1 := hid ((g1.out.below hba).grown hgrow (hlow _ (by omega)))
            have a2 := hid ((g2.out.below hba).grown hgrow (hlow _ (by omega)))
            have a3 := hid ((g3.out.below hba).grown hgrow (hlow _ (by omega)))
            have a4 := hid ((g4.out.below hba).grown hgrow (hlow _ (by omega)))
            have a5 := hid ((g5.out.below hba).grown hgrow (hlow _ (by omega)))
            have a6 := hid ((g6.out.below hba).grown hgrow (hlow _ (by omega)))
            have a9 := (g9.out.below hba).grown hgrow (hlow _ (by omega))
            have a90 := a9.1.2 0 (by simp)
            have a91 := a9.2 0 (by simp)
            have a7 := hid ((g7.out.trans (hba.mono g7.out.size)).grown hgrow (by have := g7.out.size; simp; omega) (fun b e => by have := World.ownsRow.lt g10 b e; omega))
            have akk := hid (gkk.trans (((KeepsOthers.alloc W7 _).trans (KeepsOthers.of_grownBy hgrow fun jj oo ej hjj => by
              rcases (owns_lo g10 (World.grownBy_alloc W7 (.cells #[.int .i64 (nd c.nodes_ x).key_] 3) none) (fun r e => by cases e)).2 with ⟨e9, _⟩ | ⟨g, cap, cur, e9, _, hgb, _⟩
              · rw [e9] at ej; simp [Value.ownBlock] at ej
              · rw [e9] at ej
                obtain rfl : g = jj := by simpa [Value.ownBlock] using ej
                rw [hgb] at hjj; cases hjj; rfl)).from _))
            simp only [List.getElem?_cons_zero] at a90
            have HO := hid hown'
            clear hgrow hba hlow gkk g10 gn gk0 gl gh hown' hW7
            gi_wp2
            refine ⟨akk.out.trans ((KeepsOthers.setCell _ _ _).from _), trivial, ?_⟩
            unfold rgI
            exact ⟨a1.out.other _ _ (by show ¬ w2.heap.size = w.heap.size + 1; omega), a2.out.other _ _ (by show ¬ w2.heap.size = w.heap.size + 2; omega), a3.out.other _ _ (by show ¬ w2.heap.size = w.heap.size + 3; omega), a4.out.other _ _ (by show ¬ w2.heap.size = w.heap.size + 4; omega), by rw [show ((pre ++ [x]).length : Nat) = m + 1 by rw [List.length_append, HM.out]; rfl]; simpa using a5.out.other ⟨w2.heap.size, 0, none⟩ _ (by show ¬ w2.heap.size = w2.heap.size + 1; omega), a6.out.other _ _ (by show ¬ w2.heap.size = w2.heap.size + 2; omega), a7.out.setCell (p := ⟨w2.heap.size, 0, none⟩) (by show w.heap.size ≤ w2.heap.size; omega) _, by rw [show ((pre ++ [x]).length : Nat) = m + 1 by rw [List.length_append, HM.out]; rfl]; omega, _, _, _, X ++ [(nd c.nodes_ x).key_], by simpa using a9.set 0 (by simp) _, by rw [encI_snocC, List.length_append]; exact owns_lo HO.out (grownBy_setCell _ ⟨w2.heap.size, 0, none⟩ _) (fun r e => by have := Option.some.inj e; have e2 : w2.heap.size = r := this; omega), by rw [show ((pre ++ [x]).length : Nat) = m + 1 by rw [List.length_append, HM.out]; rfl, List.length_append]; simp; omega, hid (by rw [show ((pre ++ [x]).length : Nat) = m + 1 by rw [List.length_append, HM.out]; rfl, HN.out]; exact HW8.out)⟩
          · rw [if_neg hlo] at H12'
            have HW8 := hid H12'
            have HLT := hid hgt
            have HLO := hid hlo
            clear H12 H12'
            gi_wp2
            refine ⟨(KeepsOthers.setCell _ _ _).from _, trivial, ?_⟩
            unfold rgI
            exact ⟨(h1.out.other ⟨w2.heap.size + 1, 0, none⟩ (.int .i64 ((m : Int) + 1)) (by show ¬ w2.heap.size + 1 = w.heap.size + 1; omega)), (h2.out.other ⟨w2.heap.size + 1, 0, none⟩ (.int .i64 ((m : Int) + 1)) (by show ¬ w2.heap.size + 1 = w.heap.size + 2; omega)), (h3.out.other ⟨w2.heap.size + 1, 0, none⟩ (.int .i64 ((m : Int) + 1)) (by show ¬ w2.heap.size + 1 = w.heap.size + 3; omega)), (h4.out.other ⟨w2.heap.size + 1, 0, none⟩ (.int .i64 ((m : Int) + 1)) (by show ¬ w2.heap.size + 1 = w.heap.size + 4; omega)), by rw [show ((pre ++ [x]).length : Nat) = m + 1 by rw [List.length_append, HM.out]; rfl]; simpa using (h5.out.set 0 (by simp) (.int .i64 ((m : Int) + 1))), (h6.out.other ⟨w2.heap.size + 1, 0, none⟩ (.int .i64 ((m : Int) + 1)) (by show ¬ w2.heap.size + 1 = w2.heap.size + 2; omega)), (h7.out.setCell (p := ⟨w2.heap.size + 1, 0, none⟩) (by show w.heap.size ≤ w2.heap.size + 1; omega) _), by rw [show ((pre ++ [x]).length : Nat) = m + 1 by rw [List.length_append, HM.out]; rfl]; omega, ua, um, uc, X, (h9.out.other ⟨w2.heap.size + 1, 0, none⟩ (.int .i64 ((m : Int) + 1)) (by show ¬ w2.heap.size + 1 = w2.heap.size; omega)), (owns_lo h10.out (grownBy_setCell _ ⟨w2.heap.size + 1, 0, none⟩ (.int .i64 ((m : Int) + 1))) (fun r e => by have := Option.some.inj e; have e2 : w2.heap.size + 1 = r := this; omega)), by rw [show ((pre ++ [x]).length : Nat) = m + 1 by rw [List.length_append, HM.out]; rfl]; omega, hid (by rw [show ((pre ++ [x]).length : Nat) = m + 1 by rw [List.length_append, HM.out]; rfl, HN.out]; exact HW8.out)⟩
    case done =>
      rintro D xs W hD hS ⟨h1, h2, h3, h4, h5, h6, h7, h8, ua, um, uc, X, h9, h10, h11, h12⟩ hK
      rw [hs0] at hD
      have h12' := h12.out
      have HRR := hid (show rangeC c lo hi = (X, 0) by rw [← h12', hS]; cases 10 - xs.length <;> simp [rangeTo])
      have r0 := h3.1.2 0 (by simp)
      have r1 := h3.2 0 (by simp)
      have q0 := h4.1.2 0 (by simp)
      have q1 := h4.2 0 (by simp)
      have k0 := h9.1.2 0 (by simp)
      simp only [List.getElem?_cons_zero] at r0 q0 k0
      clear h12 h12' hS h1 h2 h5 h6 h11
      gi_wp2
      have z := ((((h3.set 0 (by simp) (.slice ua um uc)).other ⟨w.heap.size + 4, 0, none⟩ (.int .i64 0) (by show ¬ w.heap.size + 4 = w.heap.size + 3; omega))).grown (grownBy_putObj' _ D (.deferred none)) (fun e => by have := Option.some.inj e; omega)).1.2 0 (by simp)
      have y := ((((h4.other ⟨w.heap.size + 3, 0, none⟩ (.slice ua um uc) (by show ¬ w.heap.size + 3 = w.heap.size + 4; omega)).set 0 (by simp) (.int .i64 0))).grown (grownBy_putObj' _ D (.deferred none)) (fun e => by have := Option.some.inj e; omega)).1.2 0 (by simp)
      simp only [List.set_cons_zero, List.getElem?_cons_zero] at z y
      refine ⟨by simp, .inl ⟨_, _, rfl, run_takeDeferred (((KeepsOthers.setCell _ _ _).trans (KeepsOthers.setCell _ _ _)).same D _ hK rfl), ?_⟩⟩
      exact ⟨.tuple #[.slice ua um uc, .int .i64 0], by simp [results, Try.results28, go_sem, z, y], ⟨_, by rw [HRR.out], by rw [HRR.out]; exact owns_mono (ownsRow_putObj (owns_lo (owns_lo h10 (grownBy_setCell _ ⟨w.heap.size + 3, 0, none⟩ (.slice ua um uc)) (fun r e => by have := Option.some.inj e; have e2 : w.heap.size + 3 = r := this; omega)) (grownBy_setCell _ ⟨w.heap.size + 4, 0, none⟩ (.int .i64 0)) (fun r e => by have := Option.some.inj e; have e2 : w.heap.size + 4 = r := this; omega)) _ (by exact (((KeepsOthers.setCell _ _ _).trans (KeepsOthers.setCell _ _ _)).same D _ hK rfl)) rfl) (by omega), ((h7.setCell (p := ⟨w.heap.size + 3, 0, none⟩) (by show w.heap.size ≤ w.heap.size + 3; omega) _).setCell (p := ⟨w.heap.size + 4, 0, none⟩) (by show w.heap.size ≤ w.heap.size + 4; omega) _).trans (belowK_b (w := w) (Nat.le_refl _) _ D _ _ (by omega) (((KeepsOthers.setCell _ _ _).trans (KeepsOthers.setCell _ _ _)).same D _ hK rfl) rfl rfl)⟩⟩
    case stop =>
      rintro D cd pre W hD ⟨h3, h7, h8⟩ hK
      rw [hs0] at hD
      rcases h8 with ⟨rfl, h4, h8⟩ | ⟨rfl, h4, ua, um, uc, X, h9, h10, h8⟩
      · have HRR := h8
        gi_wp2
        have z := ((h3).grown (grownBy_putObj' _ D (.deferred none)) (fun e => by have := Option.some.inj e; omega)).1.2 0 (by simp)
        have y := ((h4).grown (grownBy_putObj' _ D (.deferred none)) (fun e => by have := Option.some.inj e; omega)).1.2 0 (by simp)
        simp only [List.set_cons_zero, List.getElem?_cons_zero] at z y
        refine ⟨by simp, .inl ⟨_, _, rfl, run_takeDeferred hK, ?_⟩⟩
        exact ⟨.tuple #[.slice none 0 0, .int .i64 2], by simp [results, Try.results28, go_sem, z, y], ⟨_, by rw [HRR.out], by rw [HRR.out]; exact World.ownsRow_nil _ _ _ _, h7.trans (belowK_b (w := w) (Nat.le_refl _) _ D _ _ (by omega) hK rfl rfl)⟩⟩
      · have HRR := h8
        have r0 := h3.1.2 0 (by simp)
        have r1 := h3.2 0 (by simp)
        have q0 := h4.1.2 0 (by simp)
        have q1 := h4.2 0 (by simp)
        have k0 := h9.1.2 0 (by simp)
        simp only [List.getElem?_cons_zero] at r0 q0 k0
        gi_wp2
        have z := ((((h3.set 0 (by simp) (.slice ua um uc)).other ⟨w.heap.size + 4, 0, none⟩ (.int .i64 0) (by show ¬ w.heap.size + 4 = w.heap.size + 3; omega))).grown (grownBy_putObj' _ D (.deferred none)) (fun e => by have := Option.some.inj e; omega)).1.2 0 (by simp)
        have y := ((((h4.other ⟨w.heap.size + 3, 0, none⟩ (.slice ua um uc) (by show ¬ w.heap.size + 3 = w.heap.size + 4; omega)).set 0 (by simp) (.int .i64 0))).grown (grownBy_putObj' _ D (.deferred none)) (fun e => by have := Option.some.inj e; omega)).1.2 0 (by simp)
        simp only [List.set_cons_zero, List.getElem?_cons_zero] at z y
        refine ⟨by simp, .inl ⟨_, _, rfl, run_takeDeferred (((KeepsOthers.setCell _ _ _).trans (KeepsOthers.setCell _ _ _)).same D _ hK rfl), ?_⟩⟩
        exact ⟨.tuple #[.slice ua um uc, .int .i64 0], by simp [results, Try.results28, go_sem, z, y], ⟨_, by rw [HRR.out], by rw [HRR.out]; exact owns_mono (ownsRow_putObj (owns_lo (owns_lo h10 (grownBy_setCell _ ⟨w.heap.size + 3, 0, none⟩ (.slice ua um uc)) (fun r e => by have := Option.some.inj e; have e2 : w.heap.size + 3 = r := this; omega)) (grownBy_setCell _ ⟨w.heap.size + 4, 0, none⟩ (.int .i64 0)) (fun r e => by have := Option.some.inj e; have e2 : w.heap.size + 4 = r := this; omega)) _ (by exact (((KeepsOthers.setCell _ _ _).trans (KeepsOthers.setCell _ _ _)).same D _ hK rfl)) rfl) (by omega), ((h7.setCell (p := ⟨w.heap.size + 3, 0, none⟩) (by show w.heap.size ≤ w.heap.size + 3; omega) _).setCell (p := ⟨w.heap.size + 4, 0, none⟩) (by show w.heap.size ≤ w.heap.size + 4; omega) _).trans (belowK_b (w := w) (Nat.le_refl _) _ D _ _ (by omega) (((KeepsOthers.setCell _ _ _).trans (KeepsOthers.setCell _ _ _)).same D _ hK rfl) rfl rfl)⟩⟩
end Go.Proofs.Ytadbgfaboafkeaa
