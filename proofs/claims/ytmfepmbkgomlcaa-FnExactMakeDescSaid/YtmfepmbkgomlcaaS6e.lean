/- Chapter 6's model: MakeDesc. -/
import Derived.Test.YtmfepmbkgomlcaaS6d
namespace Go.Proofs.Ytmfepmbkgomlcaa
set_option maxRecDepth 100000
open Go.RowKit Go.Proofs Go.Own
set_option linter.unusedVariables false
set_option linter.unusedSimpArgs false
set_option maxHeartbeats 8000000 in
theorem spec_MakeDesc0 (ow : Int) (v : Value) (xs : List Entry) (w : World) (h : Entrys w v xs) (hx : xs.length ≤ 1048576) :
    Calls Try.prog 28 #[.int .i64 ow, v] w fun e w' => ∃ v' : Value, e = .returned (.tuple #[.agg #[.int .i64 (makeOw ow xs), .int .i64 0, v'], .bool (makeOk ow xs)]) ∧ w'.ownsRow w.heap.size 53 5 v' (makeL ow xs).length ((makeL ow xs).flatMap Entry.enc) ∧ Below w.heap.size w w' := by
  have H0 := hid h
  obtain ⟨i0, hi, hz0, hz1, hz2⟩ := info_parts infoEntry
  obtain ⟨ad, cap, rfl, hl, hm, hc⟩ := h.open
  have HC := hid hc
  clear h hc
  have hlen : xs.length ≤ 9223372036854775807 := by omega
  obtain ⟨W1, hW1⟩ : ∃ X, w.alloc (.cells #[.int .i64 0, .int .i64 0, Value.slice none 0 0] 42) = X := ⟨_, rfl⟩
  have hB1 : Below w.heap.size w W1 := by rw [← hW1]; exact (Below.refl _ _).alloc (Nat.le_refl _) _
  have hN : W1.heap.size = w.heap.size + 1 := by rw [← hW1]; simp
  have bx1 : BoxF W1 w.heap.size [.int .i64 0, .int .i64 0, Value.slice none 0 0] := by rw [← hW1]; exact BoxF.alloc _ _ _
  have r0 : W1.cell? ⟨w.heap.size, 0, none⟩ = some (.int .i64 0) := bx1.1.2 0 (by simp)
  have r1 : W1.cell? ⟨w.heap.size, 1, none⟩ = some (.int .i64 0) := bx1.1.2 1 (by simp)
  have r2 : W1.cell? ⟨w.heap.size, 2, none⟩ = some (Value.slice none 0 0) := bx1.1.2 2 (by simp)
  have s0 : W1.frozen? ⟨w.heap.size, 0, none⟩ = false := bx1.2 0 (by simp)
  have s1 : W1.frozen? ⟨w.heap.size, 1, none⟩ = false := bx1.2 1 (by simp)
  have s2 : W1.frozen? ⟨w.heap.size, 2, none⟩ = false := bx1.2 2 (by simp)
  have h1 := hid (Entrys.below H0.out hB1)
  cases hA : inB ow 0 3 with
  | false =>
    have Hk := hid (show makeOk ow xs = false by unfold makeOk; rw [hA]; rfl)
    have Hw := hid (show makeOw ow xs = 0 by unfold makeOw; rw [Hk.out]; rfl)
    have HL := hid (show makeL ow xs = [] by unfold makeL; rw [Hk.out]; rfl)
    go_enter Try.func28, Try.ntmps28
    go_wp2_with (go_at_call 43; refine (spec_l1In _ _ _ _).mono ?_; rintro e w' ⟨rfl, rfl⟩)
    refine bodyPost_ret (v := .tuple #[.agg #[.int .i64 0, .int .i64 0, Value.slice none 0 0], .bool false]) ?_ rfl ⟨_, by rw [Hk.out, Hw.out], by rw [HL.out]; exact World.ownsRow_nil _ _ _ _, ?_⟩
    · simp [results, Try.results28, go_sem, r0, r1, r2, s0, s1, s2]
    · exact ((hB1.setCell (Nat.le_refl _) _).setCell (Nat.le_refl _) _).setCell (Nat.le_refl _) _
  | true =>
  by_cases h0 : xs.length = 0
  · have h0' : (xs.length : Int) = 0 := by omega
    have Hk := hid (show makeOk ow xs = false by unfold makeOk; rw [decide_eq_false (by omega), Bool.and_false])
    have Hw := hid (show makeOw ow xs = 0 by unfold makeOw; rw [Hk.out]; rfl)
    have HL := hid (show makeL ow xs = [] by unfold makeL; rw [Hk.out]; rfl)
    go_enter Try.func28, Try.ntmps28
    go_wp2_with (go_at_call 43; refine (spec_l1In _ _ _ _).mono ?_; rintro e w' ⟨rfl, rfl⟩)
    refine bodyPost_ret (v := .tuple #[.agg #[.int .i64 0, .int .i64 0, Value.slice none 0 0], .bool false]) ?_ rfl ⟨_, by rw [Hk.out, Hw.out], by rw [HL.out]; exact World.ownsRow_nil _ _ _ _, ?_⟩
    · simp [results, Try.results28, go_sem, r0, r1, r2, s0, s1, s2]
    · exact ((hB1.setCell (Nat.le_refl _) _).setCell (Nat.le_refl _) _).setCell (Nat.le_refl _) _
  have h0' : ((xs.length : Int) == 0) = false := by rw [beq_eq_false_iff_ne]; omega
  go_enter Try.func28, Try.ntmps28
  go_wp2_with (go_at_call 43; refine (spec_l1In _ _ _ _).mono ?_; rintro e w' ⟨rfl, rfl⟩)
  clear hW1
  refine (spec_OpenOk _ xs _ h1.out).mono ?_
  rintro e w2 ⟨rfl, b2⟩
  have bx2 := bx1.below b2
  have hB2 := hB1.trans (b2.mono (by omega))
  have hN2 : w.heap.size < w2.heap.size := by have := b2.size; omega
  have h2 := hid (Entrys.below h1.out b2)
  clear r0 r1 r2 s0 s1 s2 bx1 hB1 hN h1 b2
  cases hO : openOk xs with
  | false =>
    have Hk := hid (show makeOk ow xs = false by unfold makeOk; rw [hO, Bool.and_false]; rfl)
    have Hw := hid (show makeOw ow xs = 0 by unfold makeOw; rw [Hk.out]; rfl)
    have HL := hid (show makeL ow xs = [] by unfold makeL; rw [Hk.out]; rfl)
    have r0 : w2.cell? ⟨w.heap.size, 0, none⟩ = some (.int .i64 0) := bx2.1.2 0 (by simp)
    have r1 : w2.cell? ⟨w.heap.size, 1, none⟩ = some (.int .i64 0) := bx2.1.2 1 (by simp)
    have r2 : w2.cell? ⟨w.heap.size, 2, none⟩ = some (Value.slice none 0 0) := bx2.1.2 2 (by simp)
    have s0 : w2.frozen? ⟨w.heap.size, 0, none⟩ = false := bx2.2 0 (by simp)
    have s1 : w2.frozen? ⟨w.heap.size, 1, none⟩ = false := bx2.2 1 (by simp)
    have s2 : w2.frozen? ⟨w.heap.size, 2, none⟩ = false := bx2.2 2 (by simp)
    go_wp2
    refine bodyPost_ret (v := .tuple #[.agg #[.int .i64 0, .int .i64 0, Value.slice none 0 0], .bool false]) ?_ rfl ⟨_, by rw [Hk.out, Hw.out], by rw [HL.out]; exact World.ownsRow_nil _ _ _ _, ?_⟩
    · simp [results, Try.results28, go_sem, r0, r1, r2, s0, s1, s2]
    · exact ((hB2.setCell (Nat.le_refl _) _).setCell (Nat.le_refl _) _).setCell (Nat.le_refl _) _
  | true =>
  have Hk := hid (show makeOk ow xs = true by unfold makeOk; rw [hO, hA, decide_eq_true (by omega)]; rfl)
  have Hw := hid (show makeOw ow xs = ow by unfold makeOw; rw [Hk.out]; rfl)
  have HL := hid (show makeL ow xs = sortC xs by unfold makeL; rw [Hk.out]; rfl)
  have HP := hid (show ∀ o, openedC xs o = placeC xs o from fun o => by unfold openedC; rw [hO]; rfl)
  obtain ⟨W3, hW3⟩ : ∃ X, w2.alloc (.cells #[.int .i64 ow, .int .i64 0, Value.slice none 0 0] 42) = X := ⟨_, rfl⟩
  have b3 : Below w2.heap.size w2 W3 := by rw [← hW3]; exact (Below.refl _ _).alloc (Nat.le_refl _) _
  have bd3 : BoxF W3 w2.heap.size [.int .i64 ow, .int .i64 0, Value.slice none 0 0] := by rw [← hW3]; exact BoxF.alloc _ _ _
  have bx3 := bx2.below b3
  have hB3 := hB2.trans (b3.mono (by omega))
  have h3 := hid (Entrys.below h2.out b3)
  have hN3 : w2.heap.size < W3.heap.size := bd3.1.1
  have H3 := hid hW3
  have on : W3.ownsRow W3.heap.size 53 5 (Value.slice none 0 0) 0 [] := World.ownsRow_nil _ _ _ _
  clear hW3 bx2
  go_wp2_with fail
  rw [H3.out]
  go_loopw [7] (fun i wr => ∃ (k : Nat) (L : List Entry) (a : Option Addr) (c : Nat), k ≤ 8 ∧ i = .int .i64 k ∧ BoxF wr w2.heap.size [.int .i64 ow, .int .i64 0, Value.slice a L.length c] ∧ BoxF wr w.heap.size [.int .i64 0, .int .i64 0, Value.slice none 0 0] ∧
    wr.ownsRow W3.heap.size 53 5 (Value.slice a L.length c) L.length (L.flatMap Entry.enc) ∧ L.length ≤ k ∧ Same (L ++ sortGo xs (8 - k) k) (sortC xs) ∧ Below w2.heap.size w2 wr ∧ W3.heap.size ≤ wr.heap.size) (fun i _ => 8 - (intOf i).toNat)
  case atStart => exact ⟨0, [], none, 0, by omega, rfl, bd3, bx3, on, by simp, .rfl, b3, Nat.le_refl _⟩
  case round =>
    clear bd3 bx3 on
    obtain ⟨k, L, a, c, hk, rfl, bd, bx, o, hLk, hS, hB, hW⟩ := hrel
    by_cases hlt : k < 8
    · have hlt' : (k : Int) < 8 := by omega
      have h5 := hid (Entrys.below h2.out hB)
      go_wp2_with fail
      refine (spec_Opened0 _ xs _ _ h5.out).mono ?_
      rintro e w5 ⟨rfl, b5⟩
      rw [HP.out]
      have bd5 := bd.below b5
      have bx5 := bx.below b5
      have o5 := owns_below o b5
      have hB5 : Below w2.heap.size w2 w5 := hB.trans (b5.mono hB.size)
      have hW5 : W3.heap.size ≤ w5.heap.size := Nat.le_trans hW b5.size
      have hz5 := hB5.size
      have Hst := hid (show (L ++ ((if 0 ≤ placeC xs (k : Int) then (xs[(placeC xs (k : Int)).toNat]?).toList else []) ++ sortGo xs (8 - (k+1)) (k+1))) = sortC xs by
        have h9 := hS.out
        rw [show 8 - k = (8 - (k+1)) + 1 by omega, sortGo_step] at h9
        exact h9)
      have hpl := hid (placeC_lt xs (k : Int))
      clear bd bx o hB b5 hS h5 hW
      generalize placeC xs (k : Int) = P at *
      by_cases hp : 0 ≤ P
      · obtain ⟨p, rfl⟩ := Int.eq_ofNat_of_zero_le hp
        have hpx : p < xs.length := by have := hpl.out; omega
        have hpx' : (p : Int) < (xs.length : Int) := by omega
        have Hst2 := hid (show (L ++ [xs[p]]) ++ sortGo xs (8 - (k+1)) (k+1) = sortC xs by
          have h9 := Hst.out
          rw [if_pos hp, Int.toNat_natCast, List.getElem?_eq_getElem hpx] at h9
          simpa using h9)
        obtain ⟨bb, off, rfl, hbs, c0, c1, c2, c3, c4⟩ := HC.out p hpx
        have hBw : Below w.heap.size w w5 := hB2.trans (hB5.mono (by omega))
        obtain ⟨e0, e1, e2, e3, e4⟩ := cells5 hBw hbs c0 c1 c2 c3 c4
        have d2 : w5.cell? ⟨w2.heap.size, 2, none⟩ = some (Value.slice a L.length c) := bd5.1.2 2 (by simp)
        have hd2l : w2.heap.size < w5.heap.size := bd5.1.1
        have d2a : (w5.alloc (.cells #[Value.int .i64 xs[p].object_, Value.int .i64 xs[p].version_, Value.int .i64 xs[p].old_, Value.int .i64 xs[p].new_, Value.bool xs[p].write_] 53)).cell? ⟨w2.heap.size, 2, none⟩ = some (Value.slice a L.length c) := (((Below.refl _ _).alloc (Nat.le_refl _) _ : Below w5.heap.size w5 (w5.alloc (.cells #[Value.int .i64 xs[p].object_, Value.int .i64 xs[p].version_, Value.int .i64 xs[p].old_, Value.int .i64 xs[p].new_, Value.bool xs[p].write_] 53))).cell (p := ⟨w2.heap.size, 2, none⟩) hd2l).trans d2
        have hone := hid (oneCell_E xs[p])
        have HB5 := hid hBw
        clear c0 c1 c2 c3 c4 HC hBw
        go_wp2_with fail
        go_region_law (first
          | (refine step_append_flat rfl (.tmp 35) (.tmp 40) 25 rfl W3.heap.size 53 i0 (.agg #[.int .i64 0, .int .i64 0, .int .i64 0, .int .i64 0, .bool false]) 5 40 Try.underlying25 hi hz0 hz1 hz2 rfl (by decide) _ L.length _ rfl (World.ownsRow.alloc (w := w5.drew) o5 _) _ 1 (Entry.enc xs[p]) rfl (Flat.of_owns (owns_litN w5.drew 53 5 1 _ 0 (Nat.zero_le _) rfl (by decide))) hone.out (by unfold maxLen; omega) (by omega) (by simp; omega) ?_; intro v6 w6 o6 g6 b6; have g7 : ((w5.alloc _).drew).grownBy w6 (Value.slice a L.length c).ownBlock := g6; have bd6 := BoxF.grown (BoxF.below bd5 (Below.drew (Below.alloc (Below.refl w5.heap.size w5) (Nat.le_refl _) _))) g7 (fun e => by have := (World.ownsRow.lt o5 _ e).1; omega); have bx6 := BoxF.grown (BoxF.below bx5 (Below.drew (Below.alloc (Below.refl w5.heap.size w5) (Nat.le_refl _) _))) g7 (fun e => by have := (World.ownsRow.lt o5 _ e).1; omega); have d6 : w6.cell? ⟨w2.heap.size, 2, none⟩ = some (Value.slice a L.length c) := bd6.1.2 2 (by simp); have f6 : w6.frozen? ⟨w2.heap.size, 2, none⟩ = false := bd6.2 2 (by simp); have b7 : Below w2.heap.size w2 w6 := Below.trans (Below.drew (Below.alloc hB5 hz5 _)) (b6.mono (by omega)); have hW6 : W3.heap.size ≤ w6.heap.size := Nat.le_trans (by simp; omega) b6.size; obtain ⟨a6, c6, rfl, _, _⟩ := owns_form o6))
        all_goals have bd7 : BoxF (w6.setCell ⟨w2.heap.size, 2, none⟩ (Value.slice a6 (L.length + 1) c6)) w2.heap.size [.int .i64 ow, .int .i64 0, Value.slice a6 (L.length + 1) c6] := bd6.set 2 (by simp) _
        all_goals have bx7 : BoxF (w6.setCell ⟨w2.heap.size, 2, none⟩ (Value.slice a6 (L.length + 1) c6)) w.heap.size [.int .i64 0, .int .i64 0, Value.slice none 0 0] := bx6.other _ _ (by show w2.heap.size ≠ _; omega)
        all_goals have o7 : (w6.setCell ⟨w2.heap.size, 2, none⟩ (Value.slice a6 (L.length + 1) c6)).ownsRow W3.heap.size 53 5 (Value.slice a6 (L.length + 1) c6) (L.length + 1) (L.flatMap Entry.enc ++ Entry.enc xs[p]) := owns_setCell o6 _ _ hN3
        all_goals have b8 : Below w2.heap.size w2 (w6.setCell ⟨w2.heap.size, 2, none⟩ (Value.slice a6 (L.length + 1) c6)) := b7.setCell (Nat.le_refl _) _
        all_goals have hW8 : W3.heap.size ≤ (w6.setCell ⟨w2.heap.size, 2, none⟩ (Value.slice a6 (L.length + 1) c6)).heap.size := by simp [World.setCell]; exact hW6
        all_goals have Hbd := hid bd7
        all_goals have Hbx := hid bx7
        all_goals have Ho := hid o7
        all_goals have HB8 := hid b8
        all_goals have HW8 := hid hW8
        all_goals clear bd7 bx7 o7 b8 hW8 hW6 bd6 bx6 o6 b7 g6 g7 b6 d6 f6 bd5 bx5 o5 hB5 HB5 hd2l d2 d2a
        all_goals go_wp2
        all_goals go_roundw
        all_goals first
          | exact ⟨k+1, L ++ [xs[p]], _, _, by omega, by go_num, by simpa using Hbd.out, Hbx.out, by rw [enc_snoc]; simpa using Ho.out, by simp; omega, Same.mk Hst2.out, HB8.out, HW8.out⟩
          | (simp [intOf]; omega)
      · have Hst2 := hid (show L ++ sortGo xs (8 - (k+1)) (k+1) = sortC xs by
          have h9 := Hst.out
          rw [if_neg hp] at h9
          simpa using h9)
        have Hbd := hid bd5
        have Hbx := hid bx5
        have Ho := hid o5
        have HB5 := hid hB5
        clear bd5 bx5 o5 hB5 HC
        go_wp2
        go_roundw
        case rel => exact ⟨k+1, L, _, _, by omega, by go_num, Hbd.out, Hbx.out, Ho.out, by omega, Same.mk Hst2.out, HB5.out, hW5⟩
        case measure => simp [intOf]; omega
    · obtain rfl : k = 8 := by omega
      have hLs := hid (show L = sortC xs by have h9 := hS.out; simpa [sortGo] using h9)
      have r0 : wr.cell? ⟨w.heap.size, 0, none⟩ = some (.int .i64 0) := bx.1.2 0 (by simp)
      have r1 : wr.cell? ⟨w.heap.size, 1, none⟩ = some (.int .i64 0) := bx.1.2 1 (by simp)
      have r2 : wr.cell? ⟨w.heap.size, 2, none⟩ = some (Value.slice none 0 0) := bx.1.2 2 (by simp)
      have s0 : wr.frozen? ⟨w.heap.size, 0, none⟩ = false := bx.2 0 (by simp)
      have s1 : wr.frozen? ⟨w.heap.size, 1, none⟩ = false := bx.2 1 (by simp)
      have s2 : wr.frozen? ⟨w.heap.size, 2, none⟩ = false := bx.2 2 (by simp)
      have d0 : wr.cell? ⟨w2.heap.size, 0, none⟩ = some (.int .i64 ow) := bd.1.2 0 (by simp)
      have d1 : wr.cell? ⟨w2.heap.size, 1, none⟩ = some (.int .i64 0) := bd.1.2 1 (by simp)
      have d2 : wr.cell? ⟨w2.heap.size, 2, none⟩ = some (Value.slice a L.length c) := bd.1.2 2 (by simp)
      have Ho := hid o
      clear o HC
      go_wp2
      refine bodyPost_ret (v := .tuple #[.agg #[.int .i64 ow, .int .i64 0, Value.slice a L.length c], .bool true]) ?_ rfl ⟨_, by rw [Hk.out, Hw.out], ?_, ?_⟩
      · simp [results, Try.results28, go_sem, r0, r1, r2, s0, s1, s2]
      · rw [HL.out, ← hLs.out]
        have hNb : w.heap.size < W3.heap.size := by omega
        exact owns_mono (owns_setCell (owns_setCell (owns_setCell Ho.out _ _ hNb) _ _ hNb) _ _ hNb) (by omega)
      · exact (((hB2.trans (hB.mono (by omega))).setCell (Nat.le_refl _) _).setCell (Nat.le_refl _) _).setCell (Nat.le_refl _) _
end Go.Proofs.Ytmfepmbkgomlcaa
