/- Chapter 7's program: NewStore, Held. -/
import Derived.Test.YtbbdchlabdilcaaI7c
import Derived.Test.YtbbdchlabdilcaaN7o
namespace Go.Proofs.Ytbbdchlabdilcaa
set_option maxRecDepth 100000
open Go.RowKit Go.Proofs Go.Own
set_option linter.unusedVariables false
set_option linter.unusedSimpArgs false
theorem impl_allValues (v : Value) (xs : List Int) (w : World) (h : Ints w v xs) :
    Calls Try.prog 43 #[v] w fun e w' => e = .returned (.bool (allIn xs (-1000000000) 1000000000 0)) ∧ w = w' := by
  obtain ⟨ad, cap, rfl, hl, hm, hc⟩ := h.open
  have hlen : xs.length ≤ 9223372036854775807 := by omega
  go_enter Try.func43, Try.ntmps43
  go_wp2
  go_loop [7] (fun i => ∃ k : Nat, k ≤ xs.length ∧ i = .int .i64 k ∧ Same (allIn xs (-1000000000) 1000000000 0) (allIn xs (-1000000000) 1000000000 k)) (fun i => xs.length - (intOf i).toNat)
  case atStart => exact ⟨0, by omega, rfl, .rfl⟩
  case round =>
    obtain ⟨k, hk, rfl, hall⟩ := hrel
    by_cases hlt : k < xs.length
    · obtain ⟨bb, off, rfl, hbs, hcell⟩ := hc k hlt
      have hst := hid (allIn_step xs (-1000000000) 1000000000 k hlt)
      clear hc
      go_wp2_with ((go_at_call 46; refine (impl_isValue _ _).mono ?_; rintro e w' ⟨rfl, rfl⟩))
      · have hf : (!isVal xs[k]) = true := by assumption
        go_ret
        exact ⟨ret_bool (by rw [hall.out, hst.out]; simp [isVal] at hf; simp [hf]), rfl⟩
      · have hf : (!isVal xs[k]) = false := by assumption
        go_round
        case rel => exact ⟨k+1, by omega, by go_num, .mk (by rw [hall.out, hst.out]; simp [isVal] at hf; simp [hf])⟩
        case measure => simp [intOf]; omega
    · have hst := hid (allIn_end xs (-1000000000) 1000000000 k hlt)
      go_wp2
      go_ret
      exact ⟨ret_bool (by rw [hall.out, hst.out]), rfl⟩
set_option maxHeartbeats 4000000 in
theorem impl_NewStore0 (xs : List Int) (v : Value) (w : World) (h : Ints w v xs) (hx : xs.length ≤ 1048576) :
    Calls Try.prog 36 #[v] w fun e w' => ∃ u0 : Value, ∃ S0 : Nat → Prop, e = .returned (.tuple #[.agg #[u0, .slice none 0 0], .bool (newOk xs)]) ∧ ownL S0 w' u0 (newH xs) ∧ (∀ k, S0 k → Rg w.heap.size w'.heap.size k) ∧ Below w.heap.size w w' := by
  obtain ⟨i0, hi, hz0, hz1, hz2⟩ := info_parts infoHead
  have H0 := hid h
  obtain ⟨a0, cap0, rfl, hl0, hm0, hc0⟩ := h.open
  clear h
  have hlen0 : xs.length ≤ 9223372036854775807 := by omega
  have HC := hid hc0
  clear hc0
  obtain ⟨W1, hW1⟩ : ∃ X, w.alloc (.cells #[Value.slice none 0 0, Value.slice none 0 0] 67) = X := ⟨_, rfl⟩
  have hB1 : Below w.heap.size w W1 := by rw [← hW1]; exact (Below.refl _ _).alloc (Nat.le_refl _) _
  have hN : W1.heap.size = w.heap.size + 1 := by rw [← hW1]; simp
  have br : BoxF W1 w.heap.size [Value.slice none 0 0, Value.slice none 0 0] := by
    rw [← hW1]
    exact BoxF.alloc w #[Value.slice none 0 0, Value.slice none 0 0] 67
  have h2v := Ints.below H0.out hB1
  go_enter Try.func36, Try.ntmps36
  have n0 : W1.cell? ⟨w.heap.size, 0, none⟩ = some (Value.slice none 0 0) := br.1.2 0 (by simp)
  have n1 : W1.cell? ⟨w.heap.size, 1, none⟩ = some (Value.slice none 0 0) := br.1.2 1 (by simp)
  have n2 : W1.frozen? ⟨w.heap.size, 0, none⟩ = false := br.2 0 (by simp)
  have n3 : W1.frozen? ⟨w.heap.size, 1, none⟩ = false := br.2 1 (by simp)
  have BR := hid br
  have hB9 : ∀ x y : Value, Below w.heap.size w ((W1.setCell ⟨w.heap.size, 0, none⟩ x).setCell ⟨w.heap.size, 1, none⟩ y) := fun x y => (hB1.setCell (Nat.le_refl _) _).setCell (Nat.le_refl _) _
  have HB9 := hid hB9
  clear br hB9
  have Hu := hid (show newOk xs = (inB (xs.length : Int) 1 8 && allIn xs (-1000000000) 1000000000 0) from rfl)
  have Hfl := hid (show newOk xs = false → newH xs = [] from fun e => by unfold newH; rw [e]; rfl)
  have HW1 := hid hW1
  clear hW1
  by_cases hA : (xs.length : Int) < 1
  · have Hn := hid (show newOk xs = false by rw [Hu.out, inB_no (by omega)]; rfl)
    go_wp2_with (first | (rw [HW1.out]; (go_at_call 43; refine (impl_allValues _ _ _ h2v).mono ?_; rintro e w' ⟨rfl, rfl⟩)))
    try rw [HW1.out]
    refine bodyPost_ret (v := .tuple #[.agg #[Value.slice none 0 0, Value.slice none 0 0], .bool false]) ?_ rfl ?_
    · simp [results, Try.results36, go_sem, n0, n1, n2, n3]
    · first | refine ⟨Value.slice none 0 0, fun _ => False, by rw [Hn.out], by rw [Hfl.out Hn.out]; exact ownL_nil _ _, fun _ h => h.elim, ?_⟩ | refine ⟨Value.slice none 0 0, by rw [Hn.out], fun _ => False, by rw [Hfl.out Hn.out]; exact ownL_nil _ _, fun _ h => h.elim, ?_⟩
      first | exact hB1 | exact HB9.out _ _
  by_cases hA1 : (8 : Int) < (xs.length : Int)
  · have Hn := hid (show newOk xs = false by rw [Hu.out, inB_no (by omega)]; rfl)
    go_wp2_with (first | (rw [HW1.out]; (go_at_call 43; refine (impl_allValues _ _ _ h2v).mono ?_; rintro e w' ⟨rfl, rfl⟩)))
    try rw [HW1.out]
    refine bodyPost_ret (v := .tuple #[.agg #[Value.slice none 0 0, Value.slice none 0 0], .bool false]) ?_ rfl ?_
    · simp [results, Try.results36, go_sem, n0, n1, n2, n3]
    · first | refine ⟨Value.slice none 0 0, fun _ => False, by rw [Hn.out], by rw [Hfl.out Hn.out]; exact ownL_nil _ _, fun _ h => h.elim, ?_⟩ | refine ⟨Value.slice none 0 0, by rw [Hn.out], fun _ => False, by rw [Hfl.out Hn.out]; exact ownL_nil _ _, fun _ h => h.elim, ?_⟩
      first | exact hB1 | exact HB9.out _ _
  cases hA2 : allIn xs (-1000000000) 1000000000 0 with
  | false =>
    have Hn := hid (show newOk xs = false by rw [Hu.out, hA2, Bool.and_false])
    go_wp2_with (first | (rw [HW1.out]; (go_at_call 43; refine (impl_allValues _ _ _ h2v).mono ?_; rintro e w' ⟨rfl, rfl⟩)))
    try rw [HW1.out]
    refine bodyPost_ret (v := .tuple #[.agg #[Value.slice none 0 0, Value.slice none 0 0], .bool false]) ?_ rfl ?_
    · simp [results, Try.results36, go_sem, n0, n1, n2, n3]
    · first | refine ⟨Value.slice none 0 0, fun _ => False, by rw [Hn.out], by rw [Hfl.out Hn.out]; exact ownL_nil _ _, fun _ h => h.elim, ?_⟩ | refine ⟨Value.slice none 0 0, by rw [Hn.out], fun _ => False, by rw [Hfl.out Hn.out]; exact ownL_nil _ _, fun _ h => h.elim, ?_⟩
      first | exact hB1 | exact HB9.out _ _
  | true =>
  have Hy := hid (show newOk xs = true by rw [Hu.out, hA2, inB_yes (by omega)]; rfl)
  have Hl := hid (show newH xs = xs.map mkHd by unfold newH; rw [Hy.out]; rfl)
  have hln : (xs.map mkHd).length = xs.length := List.length_map _
  have Hln := hid hln
  go_wp2_with (first | (rw [HW1.out]; (go_at_call 43; refine (impl_allValues _ _ _ h2v).mono ?_; rintro e w' ⟨rfl, rfl⟩)) | (at_make; refine wpList_make_full _ rfl _ _ 65 rfl (w.heap.size + 1) 77 i0 (.agg #[.int .i64 0, .int .i64 0, .int .i64 0]) 3 Try.underlying65 hi hz0 hz1 _ _ _ _ xs.length rfl rfl rfl rfl (by rw [hz2]; omega) (by unfold maxLen; omega) (by omega) ?_))
  all_goals try rw [HW1.out]
  clear n0 n1 n2 n3 HB9 h2v Hu hA hA1 hA2 hln
  intro w1 hown hgrow
  try rw [hN] at hown
  try rw [hN]
  have hB := hB1.trans ((Below.refl W1.heap.size W1).grown hgrow (Nat.le_refl _) (by simp) |>.mono (by omega))
  have br1 := hid (BR.out.below ((Below.refl W1.heap.size W1).grown hgrow (Nat.le_refl _) (by simp)))
  have hown2 : w1.ownsRow (w.heap.size + 1) 77 3 (.slice (some ⟨w.heap.size + 1, 0, none⟩) xs.length xs.length) (xs.map mkHd).length (madeCells #[Value.int .i64 0, .int .i64 0, .int .i64 0] (xs.length * 3)).toList := by rw [Hln.out]; exact hown
  obtain ⟨css, hF⟩ := FillL.begin (A := encHead.toEnc) (base := w.heap.size + 1) (lo := w.heap.size + 2) (mid := w1.heap.size) (xs := xs.map mkHd) hown2 (fun b hb => by have e : w.heap.size + 1 = b := Option.some.inj hb; omega) (Nat.le_refl _)
  have hmid : w.heap.size + 2 ≤ w1.heap.size := (owns_lt hown).2
  have HF := hid hF
  clear hown hgrow hown2 hF HW1 BR hB1 hN
  clear W1
  go_wp2
  go_loopw [26] (fun i wr => ∃ (k mid : Nat) (css : List (List Value)), k ≤ xs.length ∧ i = .int .i64 k ∧ Hid (FillL (A := encHead.toEnc) (w.heap.size + 1) (w.heap.size + 2) mid wr (.slice (some ⟨w.heap.size + 1, 0, none⟩) xs.length xs.length) (xs.map mkHd) css k) ∧ w.heap.size + 2 ≤ mid ∧ mid ≤ wr.heap.size ∧ Hid (BoxF wr w.heap.size [Value.slice none 0 0, Value.slice none 0 0]) ∧ Below w.heap.size w wr) (fun i _ => xs.length - (intOf i).toNat)
  case atStart => exact ⟨0, w1.heap.size, css, by omega, rfl, HF, hmid, Nat.le_refl _, br1, hB⟩
  case round =>
    clear HF hB hmid br1
    clear w1
    obtain ⟨k, mid, css, hk, rfl, HF, hmid, hmr, BR, hB⟩ := hrel
    by_cases hlt : k < xs.length
    · obtain ⟨bb, off, rfl, hbs, c0⟩ := HC.out k hlt
      have e0 := (hB.cell (p := ⟨bb, off + k, none⟩) hbs).trans c0
      have hltm : k < (xs.map mkHd).length := by rw [Hln.out]; exact hlt
      obtain ⟨⟨y0, d0⟩, f0⟩ := HF.out.cell k 0 hltm (show 0 < 3 by omega)
      obtain ⟨⟨y1, d1⟩, f1⟩ := HF.out.cell k 1 hltm (show 1 < 3 by omega)
      obtain ⟨⟨y2, d2⟩, f2⟩ := HF.out.cell k 2 hltm (show 2 < 3 by omega)
      change wr.cell? ⟨w.heap.size + 1, k * 3, none⟩ = some y0 at d0
      change wr.cell? ⟨w.heap.size + 1, k * 3 + 1, none⟩ = some y1 at d1
      change wr.cell? ⟨w.heap.size + 1, k * 3 + 2, none⟩ = some y2 at d2
      change wr.frozen? ⟨w.heap.size + 1, k * 3, none⟩ = false at f0
      change wr.frozen? ⟨w.heap.size + 1, k * 3 + 1, none⟩ = false at f1
      change wr.frozen? ⟨w.heap.size + 1, k * 3 + 2, none⟩ = false at f2
      obtain ⟨W9, hW9⟩ : ∃ X, ((wr.setCell ⟨w.heap.size + 1, k * 3, none⟩ (.int .i64 xs[k])).setCell ⟨w.heap.size + 1, k * 3 + 1, none⟩ (.int .i64 0)).setCell ⟨w.heap.size + 1, k * 3 + 2, none⟩ (.int .i64 (-1)) = X := ⟨_, rfl⟩
      have hF3 : FillL (A := encHead.toEnc) (w.heap.size + 1) (w.heap.size + 2) mid W9 (.slice (some ⟨w.heap.size + 1, 0, none⟩) xs.length xs.length) (xs.map mkHd) (css.set k [Value.int .i64 xs[k], Value.int .i64 0, Value.int .i64 (-1)]) k := by
        rw [← hW9]; exact HF.out.putAll k (Nat.le_refl _) hltm [Value.int .i64 xs[k], Value.int .i64 0, Value.int .i64 (-1)] rfl
      have hB9 : Below w.heap.size w W9 := by
        rw [← hW9]; exact ((hB.setCell (by show w.heap.size ≤ w.heap.size + 1; omega) _).setCell (by show w.heap.size ≤ w.heap.size + 1; omega) _).setCell (by show w.heap.size ≤ w.heap.size + 1; omega) _
      have hs9 : W9.heap.size = wr.heap.size := by rw [← hW9]; simp [World.setCell]
      have BR9 : Hid (BoxF W9 w.heap.size [Value.slice none 0 0, Value.slice none 0 0]) := by
        rw [← hW9]
        exact hid (((BR.out.other _ _ (by show w.heap.size + 1 ≠ w.heap.size; omega)).other _ _ (by show w.heap.size + 1 ≠ w.heap.size; omega)).other _ _ (by show w.heap.size + 1 ≠ w.heap.size; omega))
      have hlc : k < (css.set k [Value.int .i64 xs[k], Value.int .i64 0, Value.int .i64 (-1)]).length := by rw [hF3.len]; exact hltm
      have HF4 := hid (hF3.next hlc hltm (a := mid) (b := mid) (Nat.le_refl _) hmid (Nat.le_refl _) (by omega) (by rw [List.getElem_set_self, List.getElem_map]; exact rfl))
      have HW := hid hW9
      have HB9 := hid hB9
      have hm9 : mid ≤ W9.heap.size := by omega
      clear hW9 hF3 hB9 hlc HF c0 HC BR
      go_wp2
      rw [HW.out]
      go_roundw
      case rel => exact ⟨k+1, mid, _, by omega, by go_num, HF4, hmid, hm9, BR9, HB9.out⟩
      case measure => simp [intOf]; omega
    · obtain rfl : k = xs.length := by omega
      have hD : ownL (Rg (w.heap.size + 1) wr.heap.size) wr (.slice (some ⟨w.heap.size + 1, 0, none⟩) xs.length xs.length) (xs.map mkHd) := FillL.done (A := encHead.toEnc) (base := w.heap.size + 1) (lo := w.heap.size + 2) (mid := mid) (css := css) (by have h9 := HF.out; rw [← Hln.out] at h9; rw [← Hln.out]; exact h9) (by omega)
      have HD := hid hD
      have n0 : wr.cell? ⟨w.heap.size, 0, none⟩ = some (Value.slice none 0 0) := BR.out.1.2 0 (by simp)
      have n1 : wr.cell? ⟨w.heap.size, 1, none⟩ = some (Value.slice none 0 0) := BR.out.1.2 1 (by simp)
      have n2 : wr.frozen? ⟨w.heap.size, 0, none⟩ = false := BR.out.2 0 (by simp)
      have n3 : wr.frozen? ⟨w.heap.size, 1, none⟩ = false := BR.out.2 1 (by simp)
      clear HF HC hD
      go_wp2
      refine bodyPost_ret (v := .tuple #[.agg #[.slice (some ⟨w.heap.size + 1, 0, none⟩) xs.length xs.length, Value.slice none 0 0], .bool true]) ?_ rfl ⟨_, Rg (w.heap.size + 1) wr.heap.size, by rw [Hy.out], ?_, ?_, ?_⟩
      · simp [results, Try.results36, go_sem, n0, n1, n2, n3]
      · rw [Hl.out]
        refine HD.out.keep fun b hb => ?_
        have h1 := hb.1
        simp only [heap_setCell_other _ _ b _ (show b ≠ (⟨w.heap.size, 0, none⟩ : Addr).block by show b ≠ w.heap.size; omega), heap_setCell_other _ _ b _ (show b ≠ (⟨w.heap.size, 1, none⟩ : Addr).block by show b ≠ w.heap.size; omega)]
      · rintro b ⟨h1, h2⟩
        exact ⟨by omega, by simpa [World.setCell] using h2⟩
      · exact (hB.setCell (Nat.le_refl _) _).setCell (Nat.le_refl _) _
end Go.Proofs.Ytbbdchlabdilcaa
