/- Chapter 1's program functions: many words swapped at once. -/
import Derived.Test.YtfhkngmankmehaaF1b
import Derived.Test.YtfhkngmankmehaaI1
namespace Go.Proofs.Ytfhkngmankmehaa
open Go.RowKit Go.Proofs Go.Own

/-- The table of places seen: cell p tells whether p stands among the first k. -/
def Seen (w : World) (B : Nat) (at_ : List Int) (k : Nat) : Prop :=
  ∃ cur t, w.heap[B]? = some (.cells cur t (0, 0)) ∧ cur.size = 40 ∧ ∀ p : Nat, p < 40 → cur[p]? = some (.bool (hasFrom (at_.take k) p 0))
theorem Seen.cell {w : World} {B k p : Nat} {at_ : List Int} (h : Seen w B at_ k) (hp : p < 40) : w.cell? ⟨B, p, none⟩ = some (.bool (hasFrom (at_.take k) p 0)) ∧ w.frozen? ⟨B, p, none⟩ = false := by
  obtain ⟨cur, t, hh, hs, hc⟩ := h
  exact ⟨by rw [cell_of_row w B p cur t (0, 0) hh]; exact hc p hp, frozen_of_row w B p cur t hh⟩
theorem Seen.below {w w' : World} {B k : Nat} {at_ : List Int} (h : Seen w B at_ k) (hb : Below w.heap.size w w') : Seen w' B at_ k := by
  obtain ⟨cur, t, hh, hs, hc⟩ := h
  exact ⟨cur, t, by rw [hb.block B (Array.getElem?_eq_some_iff.1 hh).1]; exact hh, hs, hc⟩
theorem hasFrom_snoc (at_ : List Int) (k : Nat) (x : Int) (h : k < at_.length) : hasFrom (at_.take (k+1)) x 0 = (hasFrom (at_.take k) x 0 || (at_[k] == x)) := by
  simp only [hasFrom, List.drop_zero]
  rw [List.take_add_one, List.getElem?_eq_getElem h, Option.toList_some, Bool.eq_iff_iff]
  simp only [List.mem_append, List.mem_singleton, decide_eq_true_eq, Bool.or_eq_true, beq_iff_eq]
  constructor
  · rintro (e | e)
    · exact .inl e
    · exact .inr e.symm
  · rintro (e | e)
    · exact .inl e
    · exact .inr e.symm
theorem Seen.set {w : World} {B k j : Nat} {at_ : List Int} (h : Seen w B at_ k) (hk : k < at_.length) (hj : at_[k] = j) (hj40 : j < 40) : Seen (w.setCell ⟨B, j, none⟩ (.bool true)) B at_ (k+1) := by
  obtain ⟨cur, t, hh, hs, hc⟩ := h
  refine ⟨cur.setIfInBounds j (.bool true), t, heap_setCell_same w B j cur t (.bool true) hh, by simpa using hs, fun p hp => ?_⟩
  rw [Array.getElem?_setIfInBounds, hasFrom_snoc _ _ _ hk, hj]
  by_cases e : j = p
  · subst e; simp [hs, hj40]
  · rw [if_neg e, hc p hp]
    have : ((j : Int) == (p : Int)) = false := by simp; omega
    rw [this, Bool.or_false]

theorem impl_arePlaces (a : Option Addr) (n cap : Nat) (u : Value) (at_ : List Int) (w : World) (hn : n ≤ 40) (h : Ints w u at_) :
    Calls Try.prog 44 #[.slice a n cap, u] w fun e w' => e = .returned (.bool (allUpto (placeOk n at_) at_.length)) ∧ Below w.heap.size w w' := by
  obtain ⟨ad, cap', rfl, hl, hm, hc⟩ := h.open
  have hlen : at_.length ≤ 9223372036854775807 := by omega
  obtain ⟨W, hW⟩ : ∃ X, w.alloc (.cells #[Value.bool false, Value.bool false, Value.bool false, Value.bool false, Value.bool false, Value.bool false, Value.bool false, Value.bool false, Value.bool false, Value.bool false, Value.bool false, Value.bool false, Value.bool false, Value.bool false, Value.bool false, Value.bool false, Value.bool false, Value.bool false, Value.bool false, Value.bool false, Value.bool false, Value.bool false, Value.bool false, Value.bool false, Value.bool false, Value.bool false, Value.bool false, Value.bool false, Value.bool false, Value.bool false, Value.bool false, Value.bool false, Value.bool false, Value.bool false, Value.bool false, Value.bool false, Value.bool false, Value.bool false, Value.bool false, Value.bool false] 72) = X := ⟨_, rfl⟩
  have hB0 : Below w.heap.size w W := by rw [← hW]; exact (Below.refl _ _).alloc (Nat.le_refl _) _
  have hS0 : Seen W w.heap.size at_ 0 := ⟨#[Value.bool false, Value.bool false, Value.bool false, Value.bool false, Value.bool false, Value.bool false, Value.bool false, Value.bool false, Value.bool false, Value.bool false, Value.bool false, Value.bool false, Value.bool false, Value.bool false, Value.bool false, Value.bool false, Value.bool false, Value.bool false, Value.bool false, Value.bool false, Value.bool false, Value.bool false, Value.bool false, Value.bool false, Value.bool false, Value.bool false, Value.bool false, Value.bool false, Value.bool false, Value.bool false, Value.bool false, Value.bool false, Value.bool false, Value.bool false, Value.bool false, Value.bool false, Value.bool false, Value.bool false, Value.bool false, Value.bool false], 72, by rw [← hW]; exact heap_alloc_new w _, rfl, fun p hp => by
    have hf : hasFrom (at_.take 0) p 0 = false := by simp [hasFrom]
    rw [hf]
    have hl : (#[Value.bool false, Value.bool false, Value.bool false, Value.bool false, Value.bool false, Value.bool false, Value.bool false, Value.bool false, Value.bool false, Value.bool false, Value.bool false, Value.bool false, Value.bool false, Value.bool false, Value.bool false, Value.bool false, Value.bool false, Value.bool false, Value.bool false, Value.bool false, Value.bool false, Value.bool false, Value.bool false, Value.bool false, Value.bool false, Value.bool false, Value.bool false, Value.bool false, Value.bool false, Value.bool false, Value.bool false, Value.bool false, Value.bool false, Value.bool false, Value.bool false, Value.bool false, Value.bool false, Value.bool false, Value.bool false, Value.bool false] : Array Value) = (List.replicate 40 (Value.bool false)).toArray := rfl
    rw [hl, List.getElem?_toArray, List.getElem?_replicate, if_pos hp]⟩
  go_enter Try.func44, Try.ntmps44
  go_wp2
  clear hW
  go_loopw [10] (fun i wr => ∃ k : Nat, k ≤ at_.length ∧ i = .int .i64 k ∧ Hid (∀ j, j < k → placeOk n at_ j = true) ∧ Seen wr w.heap.size at_ k ∧ Below w.heap.size w wr) (fun i _ => at_.length - (intOf i).toNat)
  case atStart => exact ⟨0, by omega, rfl, fun j hj => by omega, hS0, hB0⟩
  case round =>
    clear hS0 hB0
    obtain ⟨k, hk, rfl, hgood, hS, hB⟩ := hrel
    by_cases hlt : k < at_.length
    case neg =>
      obtain rfl : k = at_.length := by omega
      go_wp2
      go_ret
      exact ⟨ret_bool (by symm; rw [allUpto_iff]; exact hgood.out), hB⟩
    obtain ⟨bb, off, rfl, hbs, q1⟩ := hc k hlt
    rw [← hB.cell (p := ⟨bb, off + k, none⟩) hbs] at q1
    clear hc
    have hp1 := hid (show at_.getD k 0 = at_[k] by simp [List.getD, hlt])
    have hno : placeOk n at_ k = false → Hid (allUpto (placeOk n at_) at_.length = false) := fun h => by
      cases hs : allUpto (placeOk n at_) at_.length with
      | false => exact rfl
      | true =>
        rw [allUpto_iff] at hs
        have := hs k hlt
        rw [h] at this
        cases this
    have Hno := hid hno
    clear hno
    by_cases hA : inB at_[k] 0 (n - 1) = true
    case neg =>
      have hA : inB at_[k] 0 (n - 1) = false := by simpa using hA
      have Hn := Hno.out (by unfold placeOk; rw [hp1.out, hA]; rfl)
      go_wp2_with (go_at_call 48; refine (impl_isPlace _ _ _ _ _ (by omega)).mono ?_; rintro e w' ⟨rfl, rfl⟩)
      go_ret
      exact ⟨ret_bool Hn.out.symm, hB⟩
    obtain ⟨j, hjk, hj⟩ : ∃ j : Nat, at_[k] = j ∧ j < n := ⟨at_[k].toNat, by simp [inB] at hA; omega, by simp [inB] at hA; omega⟩
    rw [hjk] at q1 hA
    have Hjk := hid hjk
    obtain ⟨hcell, hfr⟩ := hS.cell (p := j) (by omega)
    have hset := hS.set hlt hjk (by omega)
    have hendB := hB.setCell (p := ⟨w.heap.size, j, none⟩) (Nat.le_refl _) (.bool true)
    clear hjk
    cases hH : hasFrom (at_.take k) j 0 with
    | true =>
      rw [hH] at hcell
      have Hn := Hno.out (by unfold placeOk; rw [hp1.out, Hjk.out, hA, hH]; rfl)
      go_wp2_with (go_at_call 48; refine (impl_isPlace _ _ _ _ _ (by omega)).mono ?_; rintro e w' ⟨rfl, rfl⟩)
      go_ret
      exact ⟨ret_bool Hn.out.symm, hB⟩
    | false =>
      rw [hH] at hcell
      have Hg := hid (show placeOk n at_ k = true by unfold placeOk; rw [hp1.out, Hjk.out, hA, hH]; rfl)
      have Hset := hid hset
      clear hset
      go_wp2_with (go_at_call 48; refine (impl_isPlace _ _ _ _ _ (by omega)).mono ?_; rintro e w' ⟨rfl, rfl⟩)
      go_roundw
      case rel => exact ⟨k+1, by omega, by go_num, fun i hi => by
        by_cases e : i = k
        · subst e; exact Hg.out
        · exact hgood.out i (by omega), Hset.out, hendB⟩
      case measure => simp [intOf]; omega

set_option maxHeartbeats 1000000 in
theorem impl_SwapAll (v : Value) (m : List Int) (u1 : Value) (at_ : List Int) (u2 : Value) (old : List Int) (u3 : Value) (new : List Int) (w : World) (h : Ints w v m) (hx : m.length ≤ 1048576) (h1 : Ints w u1 at_) (_hx1 : at_.length ≤ 1048576) (h2 : Ints w u2 old) (_hx2 : old.length ≤ 1048576) (h3 : Ints w u3 new) (_hx3 : new.length ≤ 1048576) :
    Calls Try.prog 25 #[v, u1, u2, u3] w fun e w' => ∃ v', e = .returned (.tuple #[v', .bool (swapF m at_ old new).2]) ∧ w'.ownsRow w.heap.size 3 1 v' (swapF m at_ old new).1.length ((swapF m at_ old new).1.flatMap encI) ∧ (swapF m at_ old new).1.length ≤ 1099511627776 ∧ Below w.heap.size w w' := by
  rw [swapF_len]
  obtain ⟨ad, cap, rfl, hl, hm⟩ := Flat.form h
  obtain ⟨ad1, cap1, rfl, hl1, hm1⟩ := Flat.form h1
  obtain ⟨ad2, cap2, rfl, hl2, hm2⟩ := Flat.form h2
  obtain ⟨ad3, cap3, rfl, hl3, hm3⟩ := Flat.form h3
  go_enter Try.func25, Try.ntmps25
  go_wp2_with fail
  refine (impl_copyCells _ m _ h hx).mono ?_
  rintro e w1 ⟨v1, rfl, o1, b1⟩
  have g1 := Ints.below h1 b1
  have g2 := Ints.below h2 b1
  have g3 := Ints.below h3 b1
  have r1 : Ints w1 v1 m := Flat.of_owns o1
  obtain ⟨a1, c1, rfl, hl4, hm4⟩ := owns_form o1
  have hno : (memOk m && decide (old.length = at_.length) && decide (new.length = at_.length) && allUpto (placeOk m.length at_) at_.length && allIn old (-1000000000) 1000000000 0 && allIn new (-1000000000) 1000000000 0) = false → Hid (swapF m at_ old new = (m, false)) := fun h =>
    swapF_no _ _ _ _ (by rw [swapOk_iff, h]; rfl)
  have Hno := hid hno
  clear hno
  by_cases hhead : memOk m = true ∧ old.length = at_.length ∧ new.length = at_.length
  case neg =>
    have hcase : memOk m = false ∨ (memOk m = true ∧ ((old.length : Int) != at_.length) = true) ∨ (memOk m = true ∧ ((old.length : Int) != at_.length) = false ∧ ((new.length : Int) != at_.length) = true) := by
      by_cases e1 : old.length = at_.length <;> by_cases e2 : new.length = at_.length <;> cases e3 : memOk m <;> simp_all <;> omega
    have Hn := Hno.out (by
      cases e3 : memOk m with
      | false => simp
      | true =>
        by_cases e1 : old.length = at_.length
        · by_cases e2 : new.length = at_.length
          · exact absurd ⟨e3, e1, e2⟩ hhead
          · simp [e2]
        · simp [e1])
    clear hhead
    rcases hcase with e1 | ⟨e1, e2⟩ | ⟨e1, e2, e3⟩
    all_goals
      go_wp2_with (go_at_call 11; refine (impl_MemoryOk0 _ m _ r1).mono ?_; rintro e w' ⟨rfl, rfl⟩)
      go_ret2
      rw [Hn.out]
      exact ⟨_, rfl, o1, by omega, b1⟩
  obtain ⟨e1, e2, e3⟩ := hhead
  have hm40 : m.length ≤ 40 := by
    simp only [memOk, Bool.and_eq_true, decide_eq_true_eq] at e1
    exact e1.1
  have d2 : ((old.length : Int) != at_.length) = false := by simp; omega
  have d3 : ((new.length : Int) != at_.length) = false := by simp; omega
  have He2 := hid e2
  have He3 := hid e3
  clear e2 e3
  go_wp2_with (go_at_call 11; refine (impl_MemoryOk0 _ m _ r1).mono ?_; rintro e w' ⟨rfl, rfl⟩)
  refine (impl_arePlaces _ _ _ _ at_ _ hm40 g1).mono ?_
  rintro e w2 ⟨rfl, b2⟩
  have k2 := Ints.below g2 b2
  have k3 := Ints.below g3 b2
  have o2 := owns_below o1 b2
  have hB2 := b1.trans (b2.mono b1.size)
  by_cases hgo : allUpto (placeOk m.length at_) at_.length = true ∧ allIn old (-1000000000) 1000000000 0 = true ∧ allIn new (-1000000000) 1000000000 0 = true
  case neg =>
    have hcase : allUpto (placeOk m.length at_) at_.length = false ∨ (allUpto (placeOk m.length at_) at_.length = true ∧ allIn old (-1000000000) 1000000000 0 = false) ∨ (allUpto (placeOk m.length at_) at_.length = true ∧ allIn old (-1000000000) 1000000000 0 = true ∧ allIn new (-1000000000) 1000000000 0 = false) := by
      cases e4 : allUpto (placeOk m.length at_) at_.length <;> cases e5 : allIn old (-1000000000) 1000000000 0 <;> cases e6 : allIn new (-1000000000) 1000000000 0 <;> simp_all
    have Hn := Hno.out (by
      rcases hcase with h | ⟨_, h⟩ | ⟨_, _, h⟩ <;> simp [h])
    clear hgo
    rcases hcase with e4 | ⟨e4, e5⟩ | ⟨e4, e5, e6⟩
    all_goals
      go_wp2_with (go_at_call 35; first | ((with_reducible refine (impl_allValues _ old _ k2).mono ?_); rintro e w' ⟨rfl, rfl⟩) | ((with_reducible refine (impl_allValues _ new _ k3).mono ?_); rintro e w' ⟨rfl, rfl⟩))
      go_ret2
      rw [Hn.out]
      exact ⟨_, rfl, o2, by omega, hB2⟩
  obtain ⟨e4, e5, e6⟩ := hgo
  have hpl := hid ((allUpto_iff _ _).1 e4)
  go_wp2_with (go_at_call 35; first | ((with_reducible refine (impl_allValues _ old _ k2).mono ?_); rintro e w' ⟨rfl, rfl⟩) | ((with_reducible refine (impl_allValues _ new _ k3).mono ?_); rintro e w' ⟨rfl, rfl⟩))
  obtain ⟨ad', cap', hv', _, _, hc1⟩ := Ints.open h1
  obtain ⟨rfl, rfl⟩ : ad1 = ad' ∧ cap1 = cap' := by simpa using hv'
  obtain ⟨ad'', cap'', hv'', _, _, hc2⟩ := Ints.open h2
  obtain ⟨rfl, rfl⟩ : ad2 = ad'' ∧ cap2 = cap'' := by simpa using hv''
  obtain ⟨ad3', cap3', hv3', _, _, hc3⟩ := Ints.open h3
  obtain ⟨rfl, rfl⟩ : ad3 = ad3' ∧ cap3 = cap3' := by simpa using hv3'
  clear hv' hv'' hv3' g1 g2 g3 r1 k2 k3 d2 d3 b2 b1 o1
  have hp1 : ∀ k, (hk : k < at_.length) → Hid (at_.getD k 0 = at_[k]) := fun k hk => show _ = _ by simp [List.getD, hk]
  have hp2 : ∀ k, (hk : k < old.length) → Hid (old.getD k 0 = old[k]) := fun k hk => show _ = _ by simp [List.getD, hk]
  have hp3 : ∀ k, (hk : k < new.length) → Hid (new.getD k 0 = new[k]) := fun k hk => show _ = _ by simp [List.getD, hk]
  have hplace : ∀ k, (hk : k < at_.length) → ∃ j : Nat, Hid (at_[k] = j) ∧ j < m.length := fun k hk => by
    have h1 := hpl.out k hk
    unfold placeOk at h1
    rw [(hp1 k hk).out, Bool.and_eq_true] at h1
    have h2 := h1.1
    simp [inB] at h2
    exact ⟨at_[k].toNat, show _ = _ by omega, by omega⟩
  go_loopw [52] (fun i wr => ∃ k : Nat, k ≤ at_.length ∧ i = .int .i64 k ∧ Hid (∀ j, j < k → oldOk m at_ old j = true) ∧ wr.ownsRow w.heap.size 3 1 (.slice a1 m.length c1) m.length (m.flatMap encI) ∧ Below w.heap.size w wr) (fun i _ => at_.length - (intOf i).toNat)
  case atStart => exact ⟨0, by omega, rfl, fun j hj => by omega, o2, hB2⟩
  case round =>
    clear o2 hB2
    obtain ⟨k, hk, rfl, hgood, ho, hB⟩ := hrel
    by_cases hlt : k < at_.length
    case pos =>
      obtain ⟨bb, off, rfl, hbs, q1⟩ := hc1 k hlt
      obtain ⟨bb2, off2, rfl, hbs2, q2⟩ := hc2 k (by have := He2.out; omega)
      have hlo : k < old.length := by have := He2.out; omega
      rw [← hB.cell (p := ⟨bb, off + k, none⟩) hbs] at q1
      rw [← hB.cell (p := ⟨bb2, off2 + k, none⟩) hbs2] at q2
      obtain ⟨j, Hjk, hj⟩ := hplace k hlt
      rw [Hjk.out] at q1
      obtain ⟨g, gcap, hgv, hgl, hgm, hgb, hgs, hgc, hgf⟩ := owns_at ho (by omega)
      obtain ⟨rfl, rfl⟩ : a1 = some ⟨g, 0, none⟩ ∧ c1 = gcap := by simpa using hgv
      have hgj := hgc j (by omega)
      rw [encI_get _ _ hj] at hgj
      have hq1 := hp1 k hlt
      have hq2 := hp2 k hlo
      clear hc1 hc2 hc3 hgc hgf hgv hplace hp1 hp2 hp3
      by_cases hV : m[j] = old[k]
      case neg =>
        have hV' : (m[j] != old[k]) = true := by simpa using hV
        have hbad : oldOk m at_ old k = false := by unfold oldOk; rw [hq1.out, hq2.out, Hjk.out]; simp [List.getD, hj, hV]
        have Hn := hid (swapF_no m at_ old new (by
          rw [swapOk_iff]
          cases ha : allUpto (oldOk m at_ old) at_.length with
          | false => rw [Bool.and_false]
          | true =>
            rw [allUpto_iff] at ha
            have := ha k hlt
            rw [hbad] at this
            cases this))
        clear hV hbad
        go_wp2
        go_quiet (fail)
        go_wp2
        go_ret2
        rw [Hn.out]
        exact ⟨_, rfl, ho, by omega, below_drewN hB nq⟩
      have hV' : (m[j] != old[k]) = false := by simpa using hV
      have Hgk := hid (show oldOk m at_ old k = true by unfold oldOk; rw [hq1.out, hq2.out, Hjk.out]; simp [List.getD, hj, hV])
      clear hV
      go_wp2
      go_quiet (fail)
      go_wp2
      go_roundw
      case rel => exact ⟨k+1, by omega, by go_num, fun i hi => by
        by_cases e : i = k
        · subst e; exact Hgk.out
        · exact hgood.out i (by omega), ho, below_drewN hB nq⟩
      case measure => simp [intOf]; omega
    obtain rfl : k = at_.length := by omega
    have hok : swapOk m at_ old new = true := by
      rw [swapOk_iff, e1, e4, e5, e6, (allUpto_iff _ _).2 hgood.out]
      simp [He2.out, He3.out]
    have hF := hid (swapF_yes _ _ _ _ hok)
    clear hok
    obtain ⟨wo, rfl⟩ : ∃ wo : World, wo = wr := ⟨_, rfl⟩
    go_wp2
    go_loopw [70] (fun i wr => ∃ k : Nat, k ≤ at_.length ∧ i = .int .i64 k ∧ wr.ownsRow w.heap.size 3 1 (.slice a1 m.length c1) m.length ((swapAt m at_ new k).flatMap encI) ∧ Below w.heap.size w wr) (fun i _ => at_.length - (intOf i).toNat)
    case atStart => exact ⟨0, by omega, rfl, ho, hB⟩
    case round =>
      clear ho hB
      obtain ⟨k, hk, rfl, ho, hB⟩ := hrel
      by_cases hlt : k < at_.length
      case neg =>
        obtain rfl : k = at_.length := by omega
        go_wp2
        go_ret2
        rw [hF.out]
        exact ⟨_, rfl, ho, by omega, hB⟩
      obtain ⟨bb, off, rfl, hbs, q1⟩ := hc1 k hlt
      obtain ⟨bb3, off3, rfl, hbs3, q3⟩ := hc3 k (by have := He3.out; omega)
      have hln : k < new.length := by have := He3.out; omega
      rw [← hB.cell (p := ⟨bb, off + k, none⟩) hbs] at q1
      rw [← hB.cell (p := ⟨bb3, off3 + k, none⟩) hbs3] at q3
      obtain ⟨j, Hjk, hj⟩ := hplace k hlt
      rw [Hjk.out] at q1
      obtain ⟨g, gcap, hgv, hgl, hgm, hgb, hgs, hgc, hgf⟩ := owns_at ho (by omega)
      obtain ⟨rfl, rfl⟩ : a1 = some ⟨g, 0, none⟩ ∧ c1 = gcap := by simpa using hgv
      have hgj := hgc j (by omega)
      rw [encI_get _ _ (by rw [swapAt_len]; exact hj)] at hgj
      have hgfj := hgf j
      have hst := World.ownsRow.stored ho j (.int .i64 new[k])
      have hendB := hB.setCell (p := ⟨g, j, none⟩) hgb (.int .i64 new[k])
      rw [encI_set] at hst
      have hq1 := hp1 k hlt
      have hq3 := hp3 k hln
      have Hsw := hid (show swapAt m at_ new (k+1) = (swapAt m at_ new k).set j new[k] by rw [swapAt, hq1.out, hq3.out, Hjk.out, Int.toNat_natCast])
      have hst1 := hid hst.1
      clear hst hgc hgf hgv hplace hp1 hp2 hp3 hc1 hc2 hc3
      generalize (swapAt m at_ new k)[j]'(by rw [swapAt_len]; exact hj) = x at hgj
      go_wp2
      go_roundw
      case rel => exact ⟨k+1, by omega, by go_num, by rw [Hsw.out]; exact hst1.out, hendB⟩
      case measure => simp [intOf]; omega
end Go.Proofs.Ytfhkngmankmehaa
