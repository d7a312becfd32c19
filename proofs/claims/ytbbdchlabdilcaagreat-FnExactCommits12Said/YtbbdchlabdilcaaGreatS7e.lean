/- Chapter 7's model: NewStore. -/
import Derived.Test.YtbbdchlabdilcaaGreatS7d
namespace Go.Proofs.YtbbdchlabdilcaaGreat
set_option maxRecDepth 100000
open Go.RowKit Go.Proofs Go.Own
open Go Go.BigFrame
set_option linter.unusedVariables false
set_option linter.unusedSimpArgs false
theorem spec_l1All (v : Value) (xs : List Int) (a b : Int) (w : World) (h : Ints w v xs) :
    Calls Tryz.prog 182 #[v, .int .i64 a, .int .i64 b] w fun e w' => e = .returned (.bool (allIn xs a b 0)) ∧ w = w' := by
  obtain ⟨ad, cap, rfl, hl, hm, hc⟩ := h.open
  have hlen : xs.length ≤ 9223372036854775807 := by omega
  go_enter Tryz.func182, Tryz.ntmps182
  go_wp2
  go_loop [7] (fun i => ∃ k : Nat, k ≤ xs.length ∧ i = .int .i64 k ∧ Same (allIn xs a b 0) (allIn xs a b k)) (fun i => xs.length - (intOf i).toNat)
  case atStart => exact ⟨0, by omega, rfl, .rfl⟩
  case round =>
    obtain ⟨k, hk, rfl, hall⟩ := hrel
    by_cases hlt : k < xs.length
    · obtain ⟨bb, off, rfl, hbs, hcell⟩ := hc k hlt
      have hst := hid (allIn_step xs a b k hlt)
      clear hc
      go_wp2_with (go_at_call 128; refine (spec_l1In _ _ _ _).mono ?_; rintro e w' ⟨rfl, rfl⟩)
      · have hf : (!inB xs[k] a b) = true := by assumption
        go_ret
        exact ⟨ret_bool (by rw [hall.out, hst.out]; simp at hf; simp [hf]), rfl⟩
      · have hf : (!inB xs[k] a b) = false := by assumption
        go_round
        case rel => exact ⟨k+1, by omega, by go_num, .mk (by rw [hall.out, hst.out]; simp at hf; simp [hf])⟩
        case measure => simp [intOf]; omega
    · have hst := hid (allIn_end xs a b k hlt)
      go_wp2
      go_ret
      exact ⟨ret_bool (by rw [hall.out, hst.out]), rfl⟩

theorem BoxF.lower {X w : World} {b M : Nat} {cs : List Value} (h : BoxF X b cs) (hb : Below M X w) (hM : b < M) : BoxF w b cs :=
  ⟨⟨Nat.lt_of_lt_of_le h.1.1 hb.size, fun j hj => (hb.cell (p := ⟨b, j, none⟩) hM).trans (h.1.2 j hj)⟩, fun j hj => (hb.frozen (p := ⟨b, j, none⟩) hM).trans (h.2 j hj)⟩
theorem enc_mk (xs : List Int) (k : Nat) (h : k < xs.length) : ((xs.take (k+1)).map mkHd).flatMap Head.enc = ((xs.take k).map mkHd).flatMap Head.enc ++ Head.enc (mkHd xs[k]) := by
  rw [← List.take_append_getElem h, List.map_append, List.flatMap_append]; simp
set_option maxHeartbeats 8000000 in
theorem spec_NewStore0 (xs : List Int) (v : Value) (w : World) (h : Ints w v xs) (hx : xs.length ≤ 1048576) :
    Calls Tryz.prog 189 #[v] w fun e w' => ∃ u0 : Value, ∃ S0 : Nat → Prop, e = .returned (.tuple #[.agg #[u0, .slice none 0 0], .bool (newOk xs)]) ∧ ownL S0 w' u0 (newH xs) ∧ (∀ k, S0 k → Rg w.heap.size w'.heap.size k) ∧ Below w.heap.size w w' := by
  obtain ⟨i0, hi, hz0, hz1, hz2⟩ := info_parts infoHead
  have H0 := hid h
  obtain ⟨a0, cap0, rfl, hl0, hm0, hc0⟩ := h.open
  clear h
  have hlen0 : xs.length ≤ 9223372036854775807 := by omega
  have HC := hid hc0
  clear hc0
  obtain ⟨W1, hW1⟩ : ∃ X, (w.alloc (.cells #[Value.slice none 0 0, Value.slice none 0 0] 28)).alloc (.cells #[Value.slice none 0 0, Value.slice none 0 0] 28) = X := ⟨_, rfl⟩
  have hB1 : Below w.heap.size w W1 := by rw [← hW1]; exact ((Below.refl _ _).alloc (Nat.le_refl _) _).alloc (by simp) _
  have hN : W1.heap.size = w.heap.size + 2 := by rw [← hW1]; simp
  have br : BoxF W1 w.heap.size [Value.slice none 0 0, Value.slice none 0 0] := by
    rw [← hW1]
    exact (BoxF.alloc w #[Value.slice none 0 0, Value.slice none 0 0] 28).below ((Below.refl _ _).alloc (Nat.le_refl _) _)
  have bo : BoxF W1 (w.heap.size + 1) [Value.slice none 0 0, Value.slice none 0 0] := by
    rw [← hW1]
    have h1 := BoxF.alloc (w.alloc (.cells #[Value.slice none 0 0, Value.slice none 0 0] 28)) #[Value.slice none 0 0, Value.slice none 0 0] 28
    rw [show (w.alloc (.cells #[Value.slice none 0 0, Value.slice none 0 0] 28)).heap.size = w.heap.size + 1 by simp] at h1
    exact h1
  have h2v := Ints.below H0.out hB1
  go_enter Tryz.func189, Tryz.ntmps189
  have n0 : W1.cell? ⟨w.heap.size, 0, none⟩ = some (Value.slice none 0 0) := br.1.2 0 (by simp)
  have n1 : W1.cell? ⟨w.heap.size, 1, none⟩ = some (Value.slice none 0 0) := br.1.2 1 (by simp)
  have n2 : W1.frozen? ⟨w.heap.size, 0, none⟩ = false := br.2 0 (by simp)
  have n3 : W1.frozen? ⟨w.heap.size, 1, none⟩ = false := br.2 1 (by simp)
  have m0 : W1.cell? ⟨w.heap.size + 1, 0, none⟩ = some (Value.slice none 0 0) := bo.1.2 0 (by simp)
  have m1 : W1.cell? ⟨w.heap.size + 1, 1, none⟩ = some (Value.slice none 0 0) := bo.1.2 1 (by simp)
  have BR := hid br
  have BO := hid bo
  have hB9 : ∀ x y : Value, Below w.heap.size w ((W1.setCell ⟨w.heap.size, 0, none⟩ x).setCell ⟨w.heap.size, 1, none⟩ y) := fun x y => (hB1.setCell (Nat.le_refl _) _).setCell (Nat.le_refl _) _
  have HB9 := hid hB9
  clear br bo hB9
  have Hu := hid (show newOk xs = (inB (xs.length : Int) 1 8 && allIn xs (-1000000000) 1000000000 0) from rfl)
  cases hA : inB (xs.length : Int) 1 8 with
  | false =>
    have Hn := hid (show newOk xs = false by rw [Hu.out, hA]; rfl)
    have Hl := hid (show newH xs = [] by unfold newH; rw [Hn.out]; rfl)
    have HW1 := hid hW1
    clear hW1
    go_wp2_with (first | (go_at_call 128; refine (spec_l1In _ _ _ _).mono ?_; rintro e w' ⟨rfl, rfl⟩) | (rw [HW1.out]; (go_at_call 182; refine (spec_l1All _ _ _ _ _ h2v).mono ?_; rintro e w' ⟨rfl, rfl⟩)))
    try rw [HW1.out]
    refine bodyPost_ret (v := .tuple #[.agg #[Value.slice none 0 0, Value.slice none 0 0], .bool false]) ?_ rfl ⟨Value.slice none 0 0, fun _ => False, by rw [Hn.out], by rw [Hl.out]; exact ownL_nil _ _, fun _ h => h.elim, ?_⟩
    · simp [results, Tryz.results189, go_sem, n0, n1, n2, n3, m0, m1]
    · first | exact hB1 | exact HB9.out _ _
  | true =>
  cases hA2 : allIn xs (-1000000000) 1000000000 0 with
  | false =>
    have Hn := hid (show newOk xs = false by rw [Hu.out, hA, hA2]; rfl)
    have Hl := hid (show newH xs = [] by unfold newH; rw [Hn.out]; rfl)
    have HW1 := hid hW1
    clear hW1
    go_wp2_with (first | (go_at_call 128; refine (spec_l1In _ _ _ _).mono ?_; rintro e w' ⟨rfl, rfl⟩) | (rw [HW1.out]; (go_at_call 182; refine (spec_l1All _ _ _ _ _ h2v).mono ?_; rintro e w' ⟨rfl, rfl⟩)))
    try rw [HW1.out]
    refine bodyPost_ret (v := .tuple #[.agg #[Value.slice none 0 0, Value.slice none 0 0], .bool false]) ?_ rfl ⟨Value.slice none 0 0, fun _ => False, by rw [Hn.out], by rw [Hl.out]; exact ownL_nil _ _, fun _ h => h.elim, ?_⟩
    · simp [results, Tryz.results189, go_sem, n0, n1, n2, n3, m0, m1]
    · first | exact hB1 | exact HB9.out _ _
  | true =>
    have Hy := hid (show newOk xs = true by rw [Hu.out, hA, hA2]; rfl)
    have Hl := hid (show newH xs = xs.map mkHd by unfold newH; rw [Hy.out]; rfl)
    have hlen8 : xs.length ≤ 8 := by have h9 : (1 : Int) ≤ xs.length ∧ (xs.length : Int) ≤ 8 := by simpa [inB] using hA
                                     omega
    have HW1 := hid hW1
    clear hW1
    go_wp2_with (first | (go_at_call 128; refine (spec_l1In _ _ _ _).mono ?_; rintro e w' ⟨rfl, rfl⟩) | (rw [HW1.out]; (go_at_call 182; refine (spec_l1All _ _ _ _ _ h2v).mono ?_; rintro e w' ⟨rfl, rfl⟩)))
    try rw [HW1.out]
    clear n0 n1 n2 n3 m0 m1 HB9 h2v Hu hA hA2
    go_loopw [5] (fun i wr => ∃ (k : Nat) (ha : Option Addr) (hm hc : Nat), k ≤ xs.length ∧ i = .int .i64 k ∧ Below w.heap.size w wr ∧ w.heap.size + 2 ≤ wr.heap.size ∧ Hid (BoxF wr w.heap.size [Value.slice none 0 0, Value.slice none 0 0]) ∧ Hid (BoxF wr (w.heap.size + 1) [Value.slice ha hm hc, Value.slice none 0 0]) ∧ Hid (wr.ownsRow (w.heap.size + 2) 120 3 (Value.slice ha hm hc) k (((xs.take k).map mkHd).flatMap Head.enc))) (fun i _ => xs.length - (intOf i).toNat)
    case atStart => exact ⟨0, none, 0, 0, by omega, rfl, hB1, by omega, BR, BO, hid (World.ownsRow_nil _ _ _ _)⟩
    case round =>
      clear HW1 BR BO hN hB1
      clear W1
      obtain ⟨k, ha, hm, hc, hk, rfl, hB, hM, BR, BO, OW⟩ := hrel
      have m0 : wr.cell? ⟨w.heap.size + 1, 0, none⟩ = some (Value.slice ha hm hc) := BO.out.1.2 0 (by simp)
      have m1 : wr.cell? ⟨w.heap.size + 1, 1, none⟩ = some (Value.slice none 0 0) := BO.out.1.2 1 (by simp)
      by_cases hlt : k < xs.length
      · obtain ⟨bb, off, rfl, hbs, c0⟩ := HC.out k hlt
        have e0 := (hB.cell (p := ⟨bb, off + k, none⟩) hbs).trans c0
        have HS := hid (enc_mk xs k hlt)
        have m2 : wr.frozen? ⟨w.heap.size + 1, 0, none⟩ = false := BO.out.2 0 (by simp)
        have hone : ∀ c ∈ Head.enc (mkHd xs[k]), c.oneCell' = true := by intro c hc; simp [Head.enc] at hc; rcases hc with rfl | rfl | rfl <;> rfl
        have hone2 := hid hone
        clear c0 HC hone
        have hal : ∀ o, Below wr.heap.size wr (wr.drew.alloc o) := fun o => (Below.refl _ _).drew.alloc (by simp) o
        have hsz : ∀ o, (wr.drew.alloc o).heap.size = wr.heap.size + 1 := fun o => by simp
        have hal2 : ∀ o, Below wr.heap.size wr (wr.alloc o) := fun o => (Below.refl _ _).alloc (Nat.le_refl _) o
        have m0a : (wr.alloc (.cells #[.int .i64 xs[k], .int .i64 0, .int .i64 (-1)] 120)).cell? ⟨w.heap.size + 1, 0, none⟩ = some (Value.slice ha hm hc) := ((hal2 _).cell (p := ⟨w.heap.size + 1, 0, none⟩) (by show w.heap.size + 1 < _; omega)).trans m0
        have hal3 : ∀ o, Below wr.heap.size wr (wr.alloc o).drew := fun o => (hal2 o).drew
        go_wp2_with fail
        go_region_law (refine step_append_flat rfl (.tmp 24) (.tmp 30) 25 rfl (w.heap.size + 2) 120 i0 (.agg #[.int .i64 0, .int .i64 0, .int .i64 0]) 3 24 Tryz.underlying25 hi hz0 hz1 hz2 rfl (by decide) _ k _ rfl (by first | exact OW.out | exact World.ownsRow.alloc (w := wr.drew) OW.out _ | exact World.ownsRow.alloc OW.out _) _ 1 (Head.enc (mkHd xs[k])) rfl (Flat.of_owns (owns_litN wr.drew 120 3 1 _ 0 (Nat.zero_le _) rfl (by decide))) hone2.out (by unfold maxLen; omega) (by omega) (by simp; omega) ?_; intro v6 w6 o6 g6 b6; obtain ⟨pa, pm, pc, rfl⟩ := owns_form3 o6; have x0 := (b6.cell (p := ⟨w.heap.size + 1, 0, none⟩) (by show w.heap.size + 1 < w.heap.size + 2; omega)).trans (((hal _).cell (p := ⟨w.heap.size + 1, 0, none⟩) (by show w.heap.size + 1 < _; omega)).trans m0); have x2 := (b6.frozen (p := ⟨w.heap.size + 1, 0, none⟩) (by show w.heap.size + 1 < w.heap.size + 2; omega)).trans (((hal _).frozen (p := ⟨w.heap.size + 1, 0, none⟩) (by show w.heap.size + 1 < _; omega)).trans m2))
        all_goals have BO6 := BoxF.lower (BO.out.below (hal3 _)) b6 (by omega)
        all_goals have BR6 := BoxF.lower (BR.out.below (hal3 _)) b6 (by omega)
        all_goals have hB6 : Below w.heap.size w w6 := hB.trans (((hal3 _).mono hB.size).trans (b6.mono (by omega)))
        all_goals have hM6 : w.heap.size + 2 ≤ w6.heap.size := Nat.le_trans hM (Nat.le_trans (hal3 _).size b6.size)
        all_goals have hB7 : Below w.heap.size w (w6.setCell ⟨w.heap.size + 1, 0, none⟩ (Value.slice pa pm pc)) := hB6.setCell (by show w.heap.size ≤ w.heap.size + 1; omega) _
        all_goals have BO7 := hid (BO6.set 0 (by simp) (Value.slice pa pm pc))
        all_goals have BR7 := hid (BR6.other ⟨w.heap.size + 1, 0, none⟩ (Value.slice pa pm pc) (by show w.heap.size + 1 ≠ w.heap.size; omega))
        all_goals have O7 := hid (owns_same (w' := w6.setCell ⟨w.heap.size + 1, 0, none⟩ (Value.slice pa pm pc)) o6 fun b hb => heap_setCell_other _ _ b _ (by have := (World.ownsRow.lt o6 b hb).1; show b ≠ w.heap.size + 1; omega))
        all_goals clear o6 g6 b6 BO6 BR6 hB6 x0 x2 hal hal2 hal3 m0 m0a m1 m2 OW BO BR
        all_goals go_wp2
        all_goals go_roundw
        all_goals first | exact ⟨k+1, _, _, _, by omega, by go_num, hB7, by simpa [World.setCell] using hM6, BR7, BO7, hid (by rw [HS.out]; exact O7.out)⟩ | (simp [intOf]; omega)
      · obtain rfl : k = xs.length := by omega
        have O4 : Hid (wr.ownsRow (w.heap.size + 2) 120 3 (Value.slice ha hm hc) (newH xs).length ((newH xs).flatMap Head.enc)) := by
          rw [Hl.out, List.length_map]
          exact hid (by have h9 := OW.out; rw [List.take_length] at h9; exact h9)
        have n0 : wr.cell? ⟨w.heap.size, 0, none⟩ = some (Value.slice none 0 0) := BR.out.1.2 0 (by simp)
        have n1 : wr.cell? ⟨w.heap.size, 1, none⟩ = some (Value.slice none 0 0) := BR.out.1.2 1 (by simp)
        have n2 : wr.frozen? ⟨w.heap.size, 0, none⟩ = false := BR.out.2 0 (by simp)
        have n3 : wr.frozen? ⟨w.heap.size, 1, none⟩ = false := BR.out.2 1 (by simp)
        go_wp2
        refine bodyPost_ret (v := .tuple #[.agg #[Value.slice ha hm hc, Value.slice none 0 0], .bool true]) ?_ rfl ⟨_, Rg (w.heap.size + 2) wr.heap.size, by rw [Hy.out], ?_, ?_, ?_⟩
        · simp [results, Tryz.results189, go_sem, n0, n1, n2, n3, m0, m1]
        · have h9 : ownL (Rg (w.heap.size + 2) wr.heap.size) wr (Value.slice ha hm hc) (newH xs) := ownHeads.2 ⟨owns_base O4.out (fun _ _ => Nat.zero_le _), fun k hk => owns_in O4.out k hk⟩
          refine h9.keep fun b hb => ?_
          have h1 := hb.1
          simp only [heap_setCell_other _ _ b _ (show b ≠ (⟨w.heap.size, 0, none⟩ : Addr).block by show b ≠ w.heap.size; omega), heap_setCell_other _ _ b _ (show b ≠ (⟨w.heap.size, 1, none⟩ : Addr).block by show b ≠ w.heap.size; omega)]
        · rintro b ⟨h1, h2⟩
          exact ⟨by omega, by simpa [World.setCell] using h2⟩
        · first | exact hB | exact (hB.setCell (Nat.le_refl _) _).setCell (Nat.le_refl _) _ | exact hB.setCell (Nat.le_refl _) _
end Go.Proofs.YtbbdchlabdilcaaGreat
