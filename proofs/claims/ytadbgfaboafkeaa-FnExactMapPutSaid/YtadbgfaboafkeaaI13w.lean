/- Chapter 13's program: walkTo. -/
import Derived.Test.YtadbgfaboafkeaaI13c
import Derived.Test.YtadbgfaboafkeaaS13a
namespace Go.Proofs.Ytadbgfaboafkeaa
set_option maxRecDepth 100000
open Go.RowKit Go.Proofs Go.Own Go.Shelf
open Go Go.BigFrame
set_option linter.unusedVariables false
set_option linter.unusedSimpArgs false
attribute [local go_sem] Oper.semAt_some
/-- What the program's walk tells. -/
def codeR (L : List Node) (key : Int) (R : Int × Int × Nat × Bool) : Int := if R.2.2.2 = true then (if R.1 < 0 ∨ ¬ (nd L R.1).key_ = key then 4 else 0) else 2
def lastP (pre : List Nat) : Int := match pre.getLast? with | none => -1 | some k => (k : Int)
theorem lastP_snoc (pre : List Nat) (k : Nat) : lastP (pre ++ [k]) = k := by simp [lastP]
/-- What is told: how many were opened, the place ahead, the place, the code. -/
def kwP (c : ChainD) (key n a p r : Int) : Prop :=
  ((chainOk c && isVal key) = false ∧ r = 1 ∧ n = 0) ∨ ((chainOk c && isVal key) = true ∧ r = codeR c.nodes_ key (walkC c key) ∧ n = (walkC c key).2.2.1 ∧ ((walkC c key).2.2.2 = true → a = (walkC c key).2.1 ∧ p = (walkC c key).1))
def kwA (c : ChainD) (key : Int) (v : Value) (r : Int) : Prop := ∃ n a p : Int, v = .agg #[.int .i64 n, .int .i64 a, .int .i64 p] ∧ kwP c key n a p r
/-- What the boxes hold between two rounds, and when one has left. -/
def wkI (c : ChainD) (ce : List Value) (key : Int) (w : World) (Bc : Nat) (pre : List Nat) (W : World) : Prop :=
  BoxF W (w.heap.size + 1) [.int .i64 key] ∧ BoxF W (w.heap.size + 2) [.int .i64 0, .int .i64 0, .int .i64 0] ∧ BoxF W (w.heap.size + 3) [.int .i64 0] ∧ BoxF W (w.heap.size + 4) [.int .i64 pre.length, .int .i64 (lastP pre), .int .i64 (-1)] ∧ BoxF W Bc ce ∧ Below w.heap.size w W ∧ pre.length ≤ 10 ∧ Hid (walkTo c.nodes_ key (10 - pre.length) (nextOf c.nodes_ c.first_ pre) (lastP pre) pre.length = walkC c key)
def wkX (c : ChainD) (key : Int) (w : World) (cd : Code) (_ : List Nat) (W : World) : Prop := ∃ n a p r : Int, cd = .ret ∧ BoxF W (w.heap.size + 2) [.int .i64 n, .int .i64 a, .int .i64 p] ∧ BoxF W (w.heap.size + 3) [.int .i64 r] ∧ Below w.heap.size w W ∧ Hid (kwP c key n a p r)
set_option maxHeartbeats 8000000 in
theorem impl_walkTo0 (c : ChainD) (hc : c.nodes_.length = 16) (key : Int) (w : World) :
    Calls Try.prog 38 #[.agg c.enc.toArray, .int .i64 key] w fun e w' => (∃ v r, e = .returned (.tuple #[v, .int .i64 r]) ∧ kwA c key v r) ∧ Below w.heap.size w w' := by
  have hl := chain_len hc
  have hl2 : c.enc.toArray.size = 65 := by rw [List.size_toArray, hl]
  have HC := hid hc
  have HCK0 := hid (fun (W : World) => impl_ChainOk0 c hc W)
  generalize hce : c.enc = ce at *
  obtain ⟨W1, hW1⟩ : ∃ X, ((((w.alloc (.cells ce.toArray 31)).alloc (.cells #[.int .i64 key] 3)).alloc (.cells #[.int .i64 0, .int .i64 0, .int .i64 0] 62)).alloc (.cells #[.int .i64 0] 3)).alloc (.cells #[.int .i64 0, .int .i64 (-1), .int .i64 (-1)] 62) = X := ⟨_, rfl⟩
  have hB1 : Below w.heap.size w W1 := by rw [← hW1]; exact (((((Below.refl _ _).alloc (Nat.le_refl _) _).alloc (by simp) _).alloc (by simp; omega) _).alloc (by simp; omega) _).alloc (by simp; omega) _
  have hs1 : W1.heap.size = w.heap.size + 5 := by rw [← hW1]; simp
  have hh : W1.heap = ((((w.heap.push (.cells ce.toArray 31)).push (.cells #[.int .i64 key] 3)).push (.cells #[.int .i64 0, .int .i64 0, .int .i64 0] 62)).push (.cells #[.int .i64 0] 3)).push (.cells #[.int .i64 0, .int .i64 (-1), .int .i64 (-1)] 62) := by rw [← hW1]; rfl
  have B1 := hid (BoxF.ofHeap (w := W1) (b := w.heap.size) (cs := ce.toArray) (t := 31) (by rw [hh]; repeat (first | exact push_hit _ _ _ (by (try simp only [Array.size_push]) <;> omega) | refine (push_miss _ _ _ (by (try simp only [Array.size_push]) <;> omega)).trans ?_)))
  have HK := hid (BoxF.ofHeap (w := W1) (b := w.heap.size + 1) (cs := #[.int .i64 key]) (t := 3) (by rw [hh]; repeat (first | exact push_hit _ _ _ (by (try simp only [Array.size_push]) <;> omega) | refine (push_miss _ _ _ (by (try simp only [Array.size_push]) <;> omega)).trans ?_)))
  have HR := hid (BoxF.ofHeap (w := W1) (b := w.heap.size + 2) (cs := #[.int .i64 0, .int .i64 0, .int .i64 0]) (t := 62) (by rw [hh]; repeat (first | exact push_hit _ _ _ (by (try simp only [Array.size_push]) <;> omega) | refine (push_miss _ _ _ (by (try simp only [Array.size_push]) <;> omega)).trans ?_)))
  have HQ := hid (BoxF.ofHeap (w := W1) (b := w.heap.size + 3) (cs := #[.int .i64 0]) (t := 3) (by rw [hh]; repeat (first | exact push_hit _ _ _ (by (try simp only [Array.size_push]) <;> omega) | refine (push_miss _ _ _ (by (try simp only [Array.size_push]) <;> omega)).trans ?_)))
  have HV := hid (BoxF.ofHeap (w := W1) (b := w.heap.size + 4) (cs := #[.int .i64 0, .int .i64 (-1), .int .i64 (-1)]) (t := 62) (by rw [hh]; repeat (first | exact push_hit _ _ _ (by (try simp only [Array.size_push]) <;> omega) | refine (push_miss _ _ _ (by (try simp only [Array.size_push]) <;> omega)).trans ?_)))
  have HCK := hid (HCK0.out W1)
  have HB1 := hid hB1
  have HCE := hid hce
  have HS1 := hid hs1
  clear hc hB1 hce hs1 hh
  refine (callsIn_wide (n := 3)).1 ?_
  refine callsIn_of_wp_marks Try.func38 rfl trivial ?_ rfl
  simp only [Try.ntmps38, List.size_toArray, List.length_cons, List.length_nil, Nat.reduceAdd, Nat.reduceSub, Array.replicate_succ, Array.replicate_zero, List.push_toArray, List.append_toArray, List.nil_append, List.cons_append]
  cases hok : chainOk c with
  | false =>
    gi_wp2_with (first | (refine ⟨trivial, ?_⟩; gi_at_call 12; refine (callsIn_wide.2 HCK.out).mono ?_; rintro e w2 ⟨rfl, b2⟩; rw [hok]; have B2 := hid (B1.out.below b2); have k2 := HK.out.below b2; have k20 := k2.1.2 0 (by simp); have r2 := HR.out.below b2; have r20 := r2.1.2 0 (by simp); have r21 := r2.1.2 1 (by simp); have r22 := r2.1.2 2 (by simp); have r23 := r2.2 0 (by simp); have r24 := r2.2 1 (by simp); have r25 := r2.2 2 (by simp); have q2 := HQ.out.below b2; have q20 := q2.1.2 0 (by simp); have q21 := q2.2 0 (by simp); have v2 := HV.out.below b2; have v20 := v2.1.2 0 (by simp); have v21 := v2.1.2 1 (by simp); have v22 := v2.1.2 2 (by simp); have HB2 := hid (HB1.out.trans (b2.mono HB1.out.size)); simp only [List.getElem?_cons_zero, List.getElem?_cons_succ] at k20 r20 r21 r22 q20 v20 v21 v22) | (refine inL_load_box rfl 31 _ rfl w.heap.size ce (by first | exact B1.out.1 | exact B2.out.1) rfl _ Try.underlying31 rfl (by rw [hl]; kernel_rfl) ?_))
    refine ⟨trivial, ?_⟩
    gi_wp2
    have z := ((((r2.set 0 (by simp) (.int .i64 0)).set 1 (by simp) (.int .i64 (-1))).set 2 (by simp) (.int .i64 (-1))).other ⟨w.heap.size + 1 + 1 + 1, 0, none⟩ (.int .i64 1) (by show ¬ w.heap.size + 1 + 1 + 1 = w.heap.size + 2; omega))
    have y := ((((q2.other ⟨w.heap.size + 1 + 1, 0, none⟩ (.int .i64 0) (by show ¬ w.heap.size + 1 + 1 = w.heap.size + 3; omega)).other ⟨w.heap.size + 1 + 1, 1, none⟩ (.int .i64 (-1)) (by show ¬ w.heap.size + 1 + 1 = w.heap.size + 3; omega)).other ⟨w.heap.size + 1 + 1, 2, none⟩ (.int .i64 (-1)) (by show ¬ w.heap.size + 1 + 1 = w.heap.size + 3; omega)).set 0 (by simp) (.int .i64 1)).1.2 0 (by simp)
    have z0 := z.1.2 0 (by simp)
    have z1 := z.1.2 1 (by simp)
    have z2 := z.1.2 2 (by simp)
    simp only [List.set_cons_zero, List.set_cons_succ, List.getElem?_cons_zero, List.getElem?_cons_succ] at z0 z1 z2 y
    exact ⟨.tuple #[.agg #[.int .i64 0, .int .i64 (-1), .int .i64 (-1)], .int .i64 1], by simp [results, Try.results38, go_sem, z0, z1, z2, y], ⟨_, _, rfl, _, _, _, rfl, .inl ⟨by rw [hok]; rfl, rfl, rfl⟩⟩, (((HB2.out.setCell (p := ⟨w.heap.size + 1 + 1, 0, none⟩) (by show w.heap.size ≤ w.heap.size + 1 + 1; omega) _).setCell (p := ⟨w.heap.size + 1 + 1, 1, none⟩) (by show w.heap.size ≤ w.heap.size + 1 + 1; omega) _).setCell (p := ⟨w.heap.size + 1 + 1, 2, none⟩) (by show w.heap.size ≤ w.heap.size + 1 + 1; omega) _).setCell (p := ⟨w.heap.size + 1 + 1 + 1, 0, none⟩) (by show w.heap.size ≤ w.heap.size + 1 + 1 + 1; omega) _⟩
  | true =>
  cases hkv : isVal key with
  | false =>
    gi_wp2_with (first | (refine ⟨trivial, ?_⟩; gi_at_call 12; refine (callsIn_wide.2 HCK.out).mono ?_; rintro e w2 ⟨rfl, b2⟩; rw [hok]; have B2 := hid (B1.out.below b2); have k2 := HK.out.below b2; have k20 := k2.1.2 0 (by simp); have r2 := HR.out.below b2; have r20 := r2.1.2 0 (by simp); have r21 := r2.1.2 1 (by simp); have r22 := r2.1.2 2 (by simp); have r23 := r2.2 0 (by simp); have r24 := r2.2 1 (by simp); have r25 := r2.2 2 (by simp); have q2 := HQ.out.below b2; have q20 := q2.1.2 0 (by simp); have q21 := q2.2 0 (by simp); have v2 := HV.out.below b2; have v20 := v2.1.2 0 (by simp); have v21 := v2.1.2 1 (by simp); have v22 := v2.1.2 2 (by simp); have HB2 := hid (HB1.out.trans (b2.mono HB1.out.size)); simp only [List.getElem?_cons_zero, List.getElem?_cons_succ] at k20 r20 r21 r22 q20 v20 v21 v22) | (refine ⟨trivial, ?_⟩; gi_at_call 37; refine (callsIn_wide.2 (impl_isValueIs key _ _ hkv)).mono ?_; rintro e w9 ⟨rfl, rfl⟩) | (refine inL_load_box rfl 31 _ rfl w.heap.size ce (by first | exact B1.out.1 | exact B2.out.1) rfl _ Try.underlying31 rfl (by rw [hl]; kernel_rfl) ?_))
    have z := ((((r2.set 0 (by simp) (.int .i64 0)).set 1 (by simp) (.int .i64 (-1))).set 2 (by simp) (.int .i64 (-1))).other ⟨w.heap.size + 1 + 1 + 1, 0, none⟩ (.int .i64 1) (by show ¬ w.heap.size + 1 + 1 + 1 = w.heap.size + 2; omega))
    have y := ((((q2.other ⟨w.heap.size + 1 + 1, 0, none⟩ (.int .i64 0) (by show ¬ w.heap.size + 1 + 1 = w.heap.size + 3; omega)).other ⟨w.heap.size + 1 + 1, 1, none⟩ (.int .i64 (-1)) (by show ¬ w.heap.size + 1 + 1 = w.heap.size + 3; omega)).other ⟨w.heap.size + 1 + 1, 2, none⟩ (.int .i64 (-1)) (by show ¬ w.heap.size + 1 + 1 = w.heap.size + 3; omega)).set 0 (by simp) (.int .i64 1)).1.2 0 (by simp)
    have z0 := z.1.2 0 (by simp)
    have z1 := z.1.2 1 (by simp)
    have z2 := z.1.2 2 (by simp)
    simp only [List.set_cons_zero, List.set_cons_succ, List.getElem?_cons_zero, List.getElem?_cons_succ] at z0 z1 z2 y
    exact ⟨.tuple #[.agg #[.int .i64 0, .int .i64 (-1), .int .i64 (-1)], .int .i64 1], by simp [results, Try.results38, go_sem, z0, z1, z2, y], ⟨_, _, rfl, _, _, _, rfl, .inl ⟨by rw [hok, hkv]; rfl, rfl, rfl⟩⟩, (((HB2.out.setCell (p := ⟨w.heap.size + 1 + 1, 0, none⟩) (by show w.heap.size ≤ w.heap.size + 1 + 1; omega) _).setCell (p := ⟨w.heap.size + 1 + 1, 1, none⟩) (by show w.heap.size ≤ w.heap.size + 1 + 1; omega) _).setCell (p := ⟨w.heap.size + 1 + 1, 2, none⟩) (by show w.heap.size ≤ w.heap.size + 1 + 1; omega) _).setCell (p := ⟨w.heap.size + 1 + 1 + 1, 0, none⟩) (by show w.heap.size ≤ w.heap.size + 1 + 1 + 1; omega) _⟩
  | true =>
    gi_wp2_with (first | (refine ⟨trivial, ?_⟩; gi_at_call 12; refine (callsIn_wide.2 HCK.out).mono ?_; rintro e w2 ⟨rfl, b2⟩; rw [hok]; have B2 := hid (B1.out.below b2); have k2 := HK.out.below b2; have k20 := k2.1.2 0 (by simp); have r2 := HR.out.below b2; have r20 := r2.1.2 0 (by simp); have r21 := r2.1.2 1 (by simp); have r22 := r2.1.2 2 (by simp); have r23 := r2.2 0 (by simp); have r24 := r2.2 1 (by simp); have r25 := r2.2 2 (by simp); have q2 := HQ.out.below b2; have q20 := q2.1.2 0 (by simp); have q21 := q2.2 0 (by simp); have v2 := HV.out.below b2; have v20 := v2.1.2 0 (by simp); have v21 := v2.1.2 1 (by simp); have v22 := v2.1.2 2 (by simp); have HB2 := hid (HB1.out.trans (b2.mono HB1.out.size)); simp only [List.getElem?_cons_zero, List.getElem?_cons_succ] at k20 r20 r21 r22 q20 v20 v21 v22) | (refine ⟨trivial, ?_⟩; gi_at_call 37; refine (callsIn_wide.2 (impl_isValueIs key _ _ hkv)).mono ?_; rintro e w9 ⟨rfl, rfl⟩) | (refine inL_load_box rfl 31 _ rfl w.heap.size ce (by first | exact B1.out.1 | exact B2.out.1) rfl _ Try.underlying31 rfl (by rw [hl]; kernel_rfl) ?_) | (refine ⟨trivial, ?_⟩; gi_at_call 34; refine (callsIn_wide.2 (impl_nodes ce hl _)).mono ?_; rintro e w7 ⟨rfl, rfl⟩))
    have hok2 := chainOk_eq c HC.out
    rw [hok] at hok2
    have hok3 : inB c.first_ (-1) 15 = true ∧ c.nodes_.all nodeOkI = true := by
      have z := hok2.symm; simp only [Bool.and_eq_true] at z; exact z.1
    have hrd := nodes1_reads Fence.wide 2 trivial rfl (by omega) c HC.out ((plOk_in _).1 hok3.1) (all_links hok3.2) w2.heap.size 10
    have hbc : BoxF (w2.alloc (.cells ce.toArray 31)) w2.heap.size ce := BoxF.alloc w2 ce.toArray 31
    have hb3 : Below w2.heap.size w2 (w2.alloc (.cells ce.toArray 31)) := (Below.refl _ _).alloc (Nat.le_refl _) _
    have hs0 : (w2.alloc (.cells ce.toArray 31)).heap.size = w2.heap.size + 1 := by simp
    have hsw : w.heap.size + 5 ≤ w2.heap.size := by have := b2.size; rw [HS1.out] at this; exact this
    have HAV := hid (show (chainOk c && isVal key) = true by rw [hok, hkv]; rfl)
    have HWC := hid (show walkTo c.nodes_ key 10 c.first_ (-1) 0 = walkC c key from rfl)
    obtain ⟨W0, hW0⟩ : ∃ X, w2.alloc (.cells ce.toArray 31) = X := ⟨_, rfl⟩
    rw [hW0] at hbc hb3 hs0 ⊢
    have hk3 := k2.below hb3
    have hr3 := r2.below hb3
    have hq3 := q2.below hb3
    have hv3 := v2.below hb3
    have hB3 := HB2.out.trans (hb3.mono HB2.out.size)
    rw [HCE.out] at hrd
    clear hW0 hb3 hok2 hok3 b2 k2 k20 r2 r20 r21 r22 r23 r24 r25 q2 q20 q21 v2 v20 v21 v22
    refine wpIn_over rfl (by omega) (gf := 42) (lb := #[.pointer (some ⟨w2.heap.size, 0, none⟩)]) rfl trivial (enters_of Try.func42 (by kernel_rfl) rfl) hrd (fun _ => rfl)
      (wkI c ce key w w2.heap.size) (wkX c key w) ?hI ?hIx ?hP ?h0
      (fun x a' W => ∃ Bx, w2.heap.size + 1 ≤ Bx ∧ BoxF W Bx [.bool (nd c.nodes_ x).used_, .int .i64 (nd c.nodes_ x).key_, .int .i64 (nd c.nodes_ x).value_, .int .i64 (nd c.nodes_ x).next_] ∧ a' = { tmps := #[.agg ce.toArray, .int .i64 key, .pointer (some ⟨w.heap.size, 0, none⟩), .pointer (some ⟨w.heap.size + 1, 0, none⟩), .pointer (some ⟨w.heap.size + 2, 0, none⟩), .pointer (some ⟨w.heap.size + 3, 0, none⟩), .pointer (some ⟨w.heap.size + 4, 0, none⟩), .int .i64 x, .pointer (some ⟨Bx, 0, none⟩), .agg #[.int .i64 0, .int .i64 (-1), .int .i64 (-1)], .agg ce.toArray, .bool true, .bool false, .bool false, .int .i64 key, .bool true, .bool false, .bool false, undef, .agg ce.toArray, .func (.func 42) #[] #[.pointer (some ⟨w2.heap.size, 0, none⟩)], .int .i64 x, .agg #[.bool (nd c.nodes_ x).used_, .int .i64 (nd c.nodes_ x).key_, .int .i64 (nd c.nodes_ x).value_, .int .i64 (nd c.nodes_ x).next_], undef, undef, undef, undef, undef, undef, undef, undef, undef, undef, undef, undef, undef, undef, undef, undef, undef, undef, undef, undef, undef, undef, undef], defers := [] })
      ?hAx ?assign ?body ?done ?stop
    case hI =>
      rintro pre X Y row ⟨h1, h2, h3, h4, h5, h6, h7, h8⟩ hg hr
      rw [hs0] at hr
      exact ⟨boxF_ng h1 (by simp) hg hr, boxF_ng h2 (by simp) hg hr, boxF_ng h3 (by simp) hg hr, boxF_ng h4 (by simp) hg hr, boxF_ng h5 (by omega) hg hr, below_ng h6 (Nat.le_refl _) (by omega) hg hr, h7, h8⟩
    case hIx =>
      rintro cd pre X Y row ⟨n, a, p, r, h0, h1, h2, h3, h4⟩ hg hr
      rw [hs0] at hr
      exact ⟨n, a, p, r, h0, boxF_ng h1 (by simp) hg hr, boxF_ng h2 (by simp) hg hr, below_ng h3 (Nat.le_refl _) (by omega) hg hr, h4⟩
    case hP =>
      rintro pre W ⟨h1, h2, h3, h4, h5, h6, h7, h8⟩
      exact ⟨h5, h7⟩
    case h0 => exact ⟨hk3, hr3, hq3, hv3, hbc, hB3, by simp, hid HWC.out⟩
    case hAx =>
      rintro x a' _ X Y row ⟨Bx, h1, h2, h3⟩ hg hr
      exact ⟨Bx, h1, boxF_ng h2 (by simp) hg hr, h3⟩
    case assign =>
      rintro l pre x W K ⟨h1, h2, h3, h4, h5, h6, h7, h8⟩ hx hK
      have hsW := h5.1.1
      have hbn : Below W.heap.size W (W.alloc (.cells #[.bool (nd c.nodes_ x).used_, .int .i64 (nd c.nodes_ x).key_, .int .i64 (nd c.nodes_ x).value_, .int .i64 (nd c.nodes_ x).next_] 28)) := (Below.refl _ _).alloc (Nat.le_refl _) _
      have hxn : BoxF (W.alloc (.cells #[.bool (nd c.nodes_ x).used_, .int .i64 (nd c.nodes_ x).key_, .int .i64 (nd c.nodes_ x).value_, .int .i64 (nd c.nodes_ x).next_] 28)) W.heap.size [.bool (nd c.nodes_ x).used_, .int .i64 (nd c.nodes_ x).key_, .int .i64 (nd c.nodes_ x).value_, .int .i64 (nd c.nodes_ x).next_] := BoxF.alloc W #[.bool (nd c.nodes_ x).used_, .int .i64 (nd c.nodes_ x).key_, .int .i64 (nd c.nodes_ x).value_, .int .i64 (nd c.nodes_ x).next_] 28
      have hK2 := hK _ _ ((KeepsOthers.alloc W (.cells #[.bool (nd c.nodes_ x).used_, .int .i64 (nd c.nodes_ x).key_, .int .i64 (nd c.nodes_ x).value_, .int .i64 (nd c.nodes_ x).next_] 28)).from _) ⟨h1.below hbn, h2.below hbn, h3.below hbn, h4.below hbn, h5.below hbn, h6.trans (hbn.mono h6.size), h7, h8⟩ ⟨W.heap.size, by omega, hxn, rfl⟩
      have HK2 := hid hK2
      clear hK hK2 h1 h2 h3 h4 h5 h6 h7 h8 hbn hxn
      unfold encP
      gi_wp2
      exact HK2.out
    case body =>
      rintro l pre x a' W ⟨h1, h2, h3, h4, h5, h6, h7, h8⟩ ⟨Bx, hBx, hbx, rfl⟩ ⟨hx1, hx2⟩
      have k0 := h1.1.2 0 (by simp)
      have r0 := h2.1.2 0 (by simp)
      have r1 := h2.1.2 1 (by simp)
      have r2 := h2.1.2 2 (by simp)
      have r3 := h2.2 0 (by simp)
      have r4 := h2.2 1 (by simp)
      have r5 := h2.2 2 (by simp)
      have q0 := h3.1.2 0 (by simp)
      have q1 := h3.2 0 (by simp)
      have v0 := h4.1.2 0 (by simp)
      have v1 := h4.1.2 1 (by simp)
      have v2 := h4.1.2 2 (by simp)
      have v3 := h4.2 0 (by simp)
      have v4 := h4.2 1 (by simp)
      have v5 := h4.2 2 (by simp)
      have n1 := hbx.1.2 1 (by simp)
      simp only [List.getElem?_cons_zero, List.getElem?_cons_succ] at k0 r0 r1 r2 q0 v0 v1 v2 n1
      have HN := hid (nextOf_snoc c.nodes_ c.first_ pre x)
      have HLS := hid (lastP_snoc pre x)
      have HX1 := hid hx1
      have h8' := h8.out
      rw [hx1] at h8'
      obtain ⟨m, hm⟩ : ∃ m, pre.length = m := ⟨_, rfl⟩
      obtain ⟨ah, hah⟩ : ∃ a : Int, lastP pre = a := ⟨_, rfl⟩
      rw [hm] at v0 h8' h7
      rw [hah] at v1 h8'
      have HM := hid hm
      have HAH := hid hah
      have H8 := hid h8'
      have h1 := hid h1
      have h2 := hid h2
      have h3 := hid h3
      have h4 := hid h4
      rw [hm, hah] at h4
      have h5 := hid h5
      have h6 := hid h6
      have hxn0 : ¬ (x : Int) < 0 := by omega
      have hxn1 : ¬ (x : Int) = -1 := by omega
      have HXN0 := hid hxn0
      have HXN1 := hid hxn1
      clear h8 h8' hx1 hm hah hxn0 hxn1
      by_cases hm10 : m = 10
      · subst hm10
        have HRR := hid (show walkC c key = (0, 0, 10, false) by rw [← H8.out]; simp [walkTo, HXN1.out])
        gi_wp2
        exact ⟨((((KeepsOthers.setCell _ _ _).trans (KeepsOthers.setCell _ _ _)).trans (KeepsOthers.setCell _ _ _)).trans (KeepsOthers.setCell _ _ _)).from _, 10, ah, -1, 2, rfl, by simpa using ((((h2.out.set 0 (by simp) (.int .i64 10)).set 1 (by simp) (.int .i64 ah)).set 2 (by simp) (.int .i64 (-1))).other ⟨w.heap.size + 3, 0, none⟩ (.int .i64 2) (by show ¬ w.heap.size + 3 = w.heap.size + 2; omega)), by simpa using ((((h3.out.other ⟨w.heap.size + 2, 0, none⟩ (.int .i64 10) (by show ¬ w.heap.size + 2 = w.heap.size + 3; omega)).other ⟨w.heap.size + 2, 1, none⟩ (.int .i64 ah) (by show ¬ w.heap.size + 2 = w.heap.size + 3; omega)).other ⟨w.heap.size + 2, 2, none⟩ (.int .i64 (-1)) (by show ¬ w.heap.size + 2 = w.heap.size + 3; omega)).set 0 (by simp) (.int .i64 2)), ((((h6.out.setCell (p := ⟨w.heap.size + 2, 0, none⟩) (by show w.heap.size ≤ w.heap.size + 2; omega) _).setCell (p := ⟨w.heap.size + 2, 1, none⟩) (by show w.heap.size ≤ w.heap.size + 2; omega) _).setCell (p := ⟨w.heap.size + 2, 2, none⟩) (by show w.heap.size ≤ w.heap.size + 2; omega) _).setCell (p := ⟨w.heap.size + 3, 0, none⟩) (by show w.heap.size ≤ w.heap.size + 3; omega) _), hid (.inr ⟨HAV.out, by rw [HRR.out]; rfl, by rw [HRR.out]; rfl, by rw [HRR.out]; intro h; cases h⟩)⟩
      · have hm2 : ¬ (m : Int) = 10 := by omega
        have H8' := H8.out
        rw [show 10 - m = (10 - (m+1)) + 1 by omega, walkTo, if_neg HXN1.out] at H8'
        by_cases hlt : key ≤ (nd c.nodes_ x).key_
        · rw [if_pos hlt] at H8'
          have HRR := hid H8'.symm
          clear H8 H8'
          by_cases hgt : key < (nd c.nodes_ x).key_
          · have HKN := hid (show ¬ (nd c.nodes_ x).key_ = key by omega)
            gi_wp2
            exact ⟨((((((KeepsOthers.setCell _ _ _).trans (KeepsOthers.setCell _ _ _)).trans (KeepsOthers.setCell _ _ _)).trans (KeepsOthers.setCell _ _ _)).trans (KeepsOthers.setCell _ _ _)).trans (KeepsOthers.setCell _ _ _)).from _, (m : Int) + 1, ah, (x : Int), 4, rfl, by simpa using ((((((h2.out.other ⟨w.heap.size + 4, 0, none⟩ (.int .i64 ((m : Int) + 1)) (by show ¬ w.heap.size + 4 = w.heap.size + 2; omega)).other ⟨w.heap.size + 4, 2, none⟩ (.int .i64 x) (by show ¬ w.heap.size + 4 = w.heap.size + 2; omega)).set 0 (by simp) (.int .i64 ((m : Int) + 1))).set 1 (by simp) (.int .i64 ah)).set 2 (by simp) (.int .i64 x)).other ⟨w.heap.size + 3, 0, none⟩ (.int .i64 4) (by show ¬ w.heap.size + 3 = w.heap.size + 2; omega)), by simpa using ((((((h3.out.other ⟨w.heap.size + 4, 0, none⟩ (.int .i64 ((m : Int) + 1)) (by show ¬ w.heap.size + 4 = w.heap.size + 3; omega)).other ⟨w.heap.size + 4, 2, none⟩ (.int .i64 x) (by show ¬ w.heap.size + 4 = w.heap.size + 3; omega)).other ⟨w.heap.size + 2, 0, none⟩ (.int .i64 ((m : Int) + 1)) (by show ¬ w.heap.size + 2 = w.heap.size + 3; omega)).other ⟨w.heap.size + 2, 1, none⟩ (.int .i64 ah) (by show ¬ w.heap.size + 2 = w.heap.size + 3; omega)).other ⟨w.heap.size + 2, 2, none⟩ (.int .i64 x) (by show ¬ w.heap.size + 2 = w.heap.size + 3; omega)).set 0 (by simp) (.int .i64 4)), ((((((h6.out.setCell (p := ⟨w.heap.size + 4, 0, none⟩) (by show w.heap.size ≤ w.heap.size + 4; omega) _).setCell (p := ⟨w.heap.size + 4, 2, none⟩) (by show w.heap.size ≤ w.heap.size + 4; omega) _).setCell (p := ⟨w.heap.size + 2, 0, none⟩) (by show w.heap.size ≤ w.heap.size + 2; omega) _).setCell (p := ⟨w.heap.size + 2, 1, none⟩) (by show w.heap.size ≤ w.heap.size + 2; omega) _).setCell (p := ⟨w.heap.size + 2, 2, none⟩) (by show w.heap.size ≤ w.heap.size + 2; omega) _).setCell (p := ⟨w.heap.size + 3, 0, none⟩) (by show w.heap.size ≤ w.heap.size + 3; omega) _), hid (.inr ⟨HAV.out, by rw [HRR.out]; unfold codeR; rw [if_pos rfl, if_pos (.inr HKN.out)], by rw [HRR.out]; simp, fun _ => by rw [HRR.out]; exact ⟨rfl, rfl⟩⟩)⟩
          · have HKN := hid (show (nd c.nodes_ x).key_ = key by omega)
            gi_wp2
            exact ⟨((((((KeepsOthers.setCell _ _ _).trans (KeepsOthers.setCell _ _ _)).trans (KeepsOthers.setCell _ _ _)).trans (KeepsOthers.setCell _ _ _)).trans (KeepsOthers.setCell _ _ _)).trans (KeepsOthers.setCell _ _ _)).from _, (m : Int) + 1, ah, (x : Int), 0, rfl, by simpa using ((((((h2.out.other ⟨w.heap.size + 4, 0, none⟩ (.int .i64 ((m : Int) + 1)) (by show ¬ w.heap.size + 4 = w.heap.size + 2; omega)).other ⟨w.heap.size + 4, 2, none⟩ (.int .i64 x) (by show ¬ w.heap.size + 4 = w.heap.size + 2; omega)).set 0 (by simp) (.int .i64 ((m : Int) + 1))).set 1 (by simp) (.int .i64 ah)).set 2 (by simp) (.int .i64 x)).other ⟨w.heap.size + 3, 0, none⟩ (.int .i64 0) (by show ¬ w.heap.size + 3 = w.heap.size + 2; omega)), by simpa using ((((((h3.out.other ⟨w.heap.size + 4, 0, none⟩ (.int .i64 ((m : Int) + 1)) (by show ¬ w.heap.size + 4 = w.heap.size + 3; omega)).other ⟨w.heap.size + 4, 2, none⟩ (.int .i64 x) (by show ¬ w.heap.size + 4 = w.heap.size + 3; omega)).other ⟨w.heap.size + 2, 0, none⟩ (.int .i64 ((m : Int) + 1)) (by show ¬ w.heap.size + 2 = w.heap.size + 3; omega)).other ⟨w.heap.size + 2, 1, none⟩ (.int .i64 ah) (by show ¬ w.heap.size + 2 = w.heap.size + 3; omega)).other ⟨w.heap.size + 2, 2, none⟩ (.int .i64 x) (by show ¬ w.heap.size + 2 = w.heap.size + 3; omega)).set 0 (by simp) (.int .i64 0)), ((((((h6.out.setCell (p := ⟨w.heap.size + 4, 0, none⟩) (by show w.heap.size ≤ w.heap.size + 4; omega) _).setCell (p := ⟨w.heap.size + 4, 2, none⟩) (by show w.heap.size ≤ w.heap.size + 4; omega) _).setCell (p := ⟨w.heap.size + 2, 0, none⟩) (by show w.heap.size ≤ w.heap.size + 2; omega) _).setCell (p := ⟨w.heap.size + 2, 1, none⟩) (by show w.heap.size ≤ w.heap.size + 2; omega) _).setCell (p := ⟨w.heap.size + 2, 2, none⟩) (by show w.heap.size ≤ w.heap.size + 2; omega) _).setCell (p := ⟨w.heap.size + 3, 0, none⟩) (by show w.heap.size ≤ w.heap.size + 3; omega) _), hid (.inr ⟨HAV.out, by rw [HRR.out]; unfold codeR; rw [if_pos rfl, if_neg (by rintro (h | h); (have := HXN0.out; simp at h; omega); exact h HKN.out)], by rw [HRR.out]; simp, fun _ => by rw [HRR.out]; exact ⟨rfl, rfl⟩⟩)⟩
        · rw [if_neg hlt] at H8'
          have HW8 := hid H8'
          clear H8 H8'
          have HLT := hid hlt
          gi_wp2
          refine ⟨((KeepsOthers.setCell _ _ _).trans (KeepsOthers.setCell _ _ _)).from _, trivial, ((h1.out.other ⟨w.heap.size + 4, 0, none⟩ (.int .i64 ((m : Int) + 1)) (by show ¬ w.heap.size + 4 = w.heap.size + 1; omega)).other ⟨w.heap.size + 4, 1, none⟩ (.int .i64 x) (by show ¬ w.heap.size + 4 = w.heap.size + 1; omega)), ((h2.out.other ⟨w.heap.size + 4, 0, none⟩ (.int .i64 ((m : Int) + 1)) (by show ¬ w.heap.size + 4 = w.heap.size + 2; omega)).other ⟨w.heap.size + 4, 1, none⟩ (.int .i64 x) (by show ¬ w.heap.size + 4 = w.heap.size + 2; omega)), ((h3.out.other ⟨w.heap.size + 4, 0, none⟩ (.int .i64 ((m : Int) + 1)) (by show ¬ w.heap.size + 4 = w.heap.size + 3; omega)).other ⟨w.heap.size + 4, 1, none⟩ (.int .i64 x) (by show ¬ w.heap.size + 4 = w.heap.size + 3; omega)), ?_, ((h5.out.other ⟨w.heap.size + 4, 0, none⟩ (.int .i64 ((m : Int) + 1)) (by show ¬ w.heap.size + 4 = w2.heap.size; omega)).other ⟨w.heap.size + 4, 1, none⟩ (.int .i64 x) (by show ¬ w.heap.size + 4 = w2.heap.size; omega)), ((h6.out.setCell (p := ⟨w.heap.size + 4, 0, none⟩) (by show w.heap.size ≤ w.heap.size + 4; omega) _).setCell (p := ⟨w.heap.size + 4, 1, none⟩) (by show w.heap.size ≤ w.heap.size + 4; omega) _), by rw [show ((pre ++ [x]).length : Nat) = m + 1 by rw [List.length_append, HM.out]; rfl]; omega, hid ?_⟩
          · rw [show ((pre ++ [x]).length : Nat) = m + 1 by rw [List.length_append, HM.out]; rfl, HLS.out]
            simpa using ((h4.out.set 0 (by simp) (.int .i64 ((m : Int) + 1))).set 1 (by simp) (.int .i64 x))
          · rw [show ((pre ++ [x]).length : Nat) = m + 1 by rw [List.length_append, HM.out]; rfl, HLS.out, HN.out]
            exact HW8.out
    case done =>
      rintro D xs W hD hS ⟨h1, h2, h3, h4, h5, h6, h7, h8⟩ hK
      rw [hs0] at hD
      have h8' := h8.out
      have HRR := hid (show walkC c key = (-1, lastP xs, xs.length, true) by rw [← h8', hS]; cases 10 - xs.length <;> simp [walkTo])
      clear h8 h8' hS
      obtain ⟨m, hm⟩ : ∃ m, xs.length = m := ⟨_, rfl⟩
      obtain ⟨ah, hah⟩ : ∃ a : Int, lastP xs = a := ⟨_, rfl⟩
      rw [hm] at h4 h7 HRR
      rw [hah] at h4 HRR
      have r0 := h2.1.2 0 (by simp)
      have r1 := h2.1.2 1 (by simp)
      have r2 := h2.1.2 2 (by simp)
      have r3 := h2.2 0 (by simp)
      have r4 := h2.2 1 (by simp)
      have r5 := h2.2 2 (by simp)
      have q0 := h3.1.2 0 (by simp)
      have q1 := h3.2 0 (by simp)
      have v0 := h4.1.2 0 (by simp)
      have v1 := h4.1.2 1 (by simp)
      have v2 := h4.1.2 2 (by simp)
      simp only [List.getElem?_cons_zero, List.getElem?_cons_succ] at r0 r1 r2 q0 v0 v1 v2
      clear hm hah
      gi_wp2
      have z := ((((h2.set 0 (by simp) (.int .i64 m)).set 1 (by simp) (.int .i64 ah)).set 2 (by simp) (.int .i64 (-1))).other ⟨w.heap.size + 3, 0, none⟩ (.int .i64 4) (by show ¬ w.heap.size + 3 = w.heap.size + 2; omega)).grown (grownBy_putObj' _ D (.deferred none)) (fun e => by have := Option.some.inj e; omega)
      have y := (((((h3.other ⟨w.heap.size + 2, 0, none⟩ (.int .i64 m) (by show ¬ w.heap.size + 2 = w.heap.size + 3; omega)).other ⟨w.heap.size + 2, 1, none⟩ (.int .i64 ah) (by show ¬ w.heap.size + 2 = w.heap.size + 3; omega)).other ⟨w.heap.size + 2, 2, none⟩ (.int .i64 (-1)) (by show ¬ w.heap.size + 2 = w.heap.size + 3; omega)).set 0 (by simp) (.int .i64 4)).grown (grownBy_putObj' _ D (.deferred none)) (fun e => by have := Option.some.inj e; omega)).1.2 0 (by simp)
      have z0 := z.1.2 0 (by simp)
      have z1 := z.1.2 1 (by simp)
      have z2 := z.1.2 2 (by simp)
      simp only [List.set_cons_zero, List.set_cons_succ, List.getElem?_cons_zero, List.getElem?_cons_succ] at z0 z1 z2 y
      refine ⟨by simp, .inl ⟨_, _, rfl, run_takeDeferred (((((KeepsOthers.setCell _ _ _).trans (KeepsOthers.setCell _ _ _)).trans (KeepsOthers.setCell _ _ _)).trans (KeepsOthers.setCell _ _ _)).same D _ hK rfl), ?_⟩⟩
      exact ⟨.tuple #[.agg #[.int .i64 m, .int .i64 ah, .int .i64 (-1)], .int .i64 4], by simp [results, Try.results38, go_sem, z0, z1, z2, y], ⟨_, _, rfl, _, _, _, rfl, .inr ⟨HAV.out, by rw [HRR.out]; unfold codeR; rw [if_pos rfl, if_pos (.inl (by simp))], by rw [HRR.out], fun _ => by rw [HRR.out]; exact ⟨rfl, rfl⟩⟩⟩, ((((h6.setCell (p := ⟨w.heap.size + 2, 0, none⟩) (by show w.heap.size ≤ w.heap.size + 2; omega) _).setCell (p := ⟨w.heap.size + 2, 1, none⟩) (by show w.heap.size ≤ w.heap.size + 2; omega) _).setCell (p := ⟨w.heap.size + 2, 2, none⟩) (by show w.heap.size ≤ w.heap.size + 2; omega) _).setCell (p := ⟨w.heap.size + 3, 0, none⟩) (by show w.heap.size ≤ w.heap.size + 3; omega) _).trans (belowK_b (w := w) (Nat.le_refl _) _ D _ _ (by omega) (((((KeepsOthers.setCell _ _ _).trans (KeepsOthers.setCell _ _ _)).trans (KeepsOthers.setCell _ _ _)).trans (KeepsOthers.setCell _ _ _)).same D _ hK rfl) rfl rfl)⟩

    case stop =>
      rintro D cd pre W hD ⟨n, a, p, r, rfl, h1, h2, h3, h4⟩ hK
      rw [hs0] at hD
      gi_wp2
      have z := h1.grown (grownBy_putObj' W D (.deferred none)) (fun e => by have := Option.some.inj e; omega)
      have y := (h2.grown (grownBy_putObj' W D (.deferred none)) (fun e => by have := Option.some.inj e; omega)).1.2 0 (by simp)
      have z0 := z.1.2 0 (by simp)
      have z1 := z.1.2 1 (by simp)
      have z2 := z.1.2 2 (by simp)
      simp only [List.getElem?_cons_zero, List.getElem?_cons_succ] at z0 z1 z2 y
      refine ⟨by simp, .inl ⟨_, _, rfl, run_takeDeferred hK, ?_⟩⟩
      exact ⟨.tuple #[.agg #[.int .i64 n, .int .i64 a, .int .i64 p], .int .i64 r], by simp [results, Try.results38, go_sem, z0, z1, z2, y], ⟨_, _, rfl, _, _, _, rfl, h4.out⟩, h3.trans (belowK_b (w := w) (Nat.le_refl _) W D _ _ (by omega) hK rfl rfl)⟩

end Go.Proofs.Ytadbgfaboafkeaa
