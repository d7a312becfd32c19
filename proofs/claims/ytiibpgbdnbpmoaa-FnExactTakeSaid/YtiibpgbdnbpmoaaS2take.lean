/- Chapter 2's model: Take. -/
import Derived.Test.YtiibpgbdnbpmoaaS2b
import Derived.Test.YtiibpgbdnbpmoaaBox
import Derived.Test.YtiibpgbdnbpmoaaSl
import Derived.StillTailTactics
import Derived.IntWalk
namespace Go.Proofs.Ytiibpgbdnbpmoaa
open Go.RowKit Go.Proofs Go.Own
set_option linter.unusedVariables false
set_option linter.unusedSimpArgs false

theorem take_at {bs : List Block} {ls : List Int} (hok : arenaOk ⟨bs, ls⟩ = true) (hl : 0 < ls.length) : ∃ q : Nat, ls[0] = q ∧ q < bs.length ∧ bs.length ≤ 24 := by
  have h24 := (arenaOk_len hok).2
  have : placeIn ⟨bs, ls⟩ 0 = true := by
    simp only [arenaOk, Bool.and_eq_true] at hok
    exact List.all_eq_true.1 hok.1.2 0 (List.mem_range.2 hl)
  rw [placeIn_at hl _ rfl] at this
  simp only [Bool.and_eq_true, inB, decide_eq_true_eq] at this
  exact ⟨ls[0].toNat, by omega, by omega, h24⟩
theorem takeF_no {bs : List Block} {ls : List Int} (hok : arenaOk ⟨bs, ls⟩ = false) : takeF ⟨bs, ls⟩ = (⟨bs, ls⟩, -1, false) := by simp [takeF, hok]
theorem takeF_nil {bs : List Block} {ls : List Int} (hl : ls.length = 0) : takeF ⟨bs, ls⟩ = (⟨bs, ls⟩, -1, false) := by
  have : ls = [] := List.eq_nil_of_length_eq_zero hl
  subst this; simp [takeF]
theorem takeF_yes {bs : List Block} {ls : List Int} {q : Nat} {gg : Int} (hok : arenaOk ⟨bs, ls⟩ = true) (hl : 0 < ls.length) (hq : ls[0] = q) (hg : (bs.getD q zeroB).gen_ = gg) : takeF ⟨bs, ls⟩ = (⟨bs.set q ⟨gg, false, 0, 0, 0⟩, ls.drop 1⟩, 8 * (q : Int) + gg, true) := by
  cases ls with
  | nil => simp at hl
  | cons p t =>
    simp only [List.getElem_cons_zero] at hq
    subst hq
    simp only [takeF, hok, List.headD_cons, Int.toNat_natCast, hg]
    rfl
set_option maxRecDepth 100000 in
set_option maxHeartbeats 4000000 in
theorem spec_Take (v0 : Value) (bs : List Block) (v1 : Value) (ls : List Int) (w : World) (h0 : Blocks w v0 bs) (hx0 : bs.length ≤ 1048576) (h1 : Ints w v1 ls) (hx1 : ls.length ≤ 1048576) :
    Calls Try.prog 22 #[.agg #[v0, v1]] w fun e w' => ∃ u0 u1, e = .returned (.tuple #[.agg #[u0, u1], .int .i64 (takeF ⟨bs, ls⟩).2.1, .bool (takeF ⟨bs, ls⟩).2.2]) ∧ Blocks w' u0 (takeF ⟨bs, ls⟩).1.blocks ∧ Ints w' u1 (takeF ⟨bs, ls⟩).1.list ∧ Below w.heap.size w w' := by
  have h00 := h0
  obtain ⟨a0, cap0, rfl, hl0, hm0⟩ := h0.form
  obtain ⟨a1, cap1, rfl, hl1, hm1⟩ := h1.form
  have tt_1 : Below w.heap.size w w := Below.refl _ _
  obtain ⟨X_2, hX_3⟩ : ∃ X, w.alloc (.cells #[Value.slice a0 bs.length cap0, Value.slice a1 ls.length cap1] 30) = X := ⟨_, rfl⟩
  have bX_4 : Below w.heap.size w X_2 := by rw [← hX_3]; exact (Below.refl _ _).alloc (Nat.le_refl _) _
  have zs_5 : w.heap.size + 1 ≤ X_2.heap.size := by rw [← hX_3]; simp
  have zz_6 := Below.size bX_4
  have tt_7 : Below w.heap.size w X_2 := Below.trans tt_1 (Below.mono bX_4 (Below.size tt_1))
  replace h0 := Flat.below h0 bX_4
  replace h1 := Flat.below h1 bX_4
  have bx_8 : BoxF X_2 w.heap.size [Value.slice a0 bs.length cap0, Value.slice a1 ls.length cap1] := by rw [← hX_3]; exact BoxF.alloc _ _ _
  obtain ⟨X_9, hX_10⟩ : ∃ X, X_2.alloc (.cells #[Value.slice none 0 0, Value.slice none 0 0] 30) = X := ⟨_, rfl⟩
  have bX_11 : Below X_2.heap.size X_2 X_9 := by rw [← hX_10]; exact (Below.refl _ _).alloc (Nat.le_refl _) _
  have zs_12 : X_2.heap.size + 1 ≤ X_9.heap.size := by rw [← hX_10]; simp
  have zz_13 := Below.size bX_11
  have tt_14 : Below w.heap.size w X_9 := Below.trans tt_7 (Below.mono bX_11 (Below.size tt_7))
  replace bx_8 := BoxF.below bx_8 bX_11
  replace h0 := Flat.below h0 bX_11
  replace h1 := Flat.below h1 bX_11
  have bx_15 : BoxF X_9 X_2.heap.size [Value.slice none 0 0, Value.slice none 0 0] := by rw [← hX_10]; exact BoxF.alloc _ _ _
  have k_16 : X_9.cell? ⟨w.heap.size, 0, none⟩ = some (Value.slice a0 bs.length cap0) := bx_8.1.2 0 (by simp)
  have k_17 : X_9.cell? ⟨w.heap.size, 1, none⟩ = some (Value.slice a1 ls.length cap1) := bx_8.1.2 1 (by simp)
  have k_18 : X_9.cell? ⟨X_2.heap.size, 0, none⟩ = some (Value.slice none 0 0) := bx_15.1.2 0 (by simp)
  have k_19 : X_9.cell? ⟨X_2.heap.size, 1, none⟩ = some (Value.slice none 0 0) := bx_15.1.2 1 (by simp)
  go_enter Try.func22, Try.ntmps22
  go_wp2_with fail
  clear hX_3 hX_10 k_16 k_17 k_18 k_19
  refine (spec_l2Copy _ bs _ ls _ h0 hx0 h1 hx1).mono ?_
  rintro e w2 ⟨u0, u1, rfl, o0, o1, ap, b2⟩
  have lt0 := hid (World.ownsRow.lt o0)
  have lt1 := hid (World.ownsRow.lt o1)
  obtain ⟨p0, c0, rfl, hn0, hq0⟩ := owns_form o0
  obtain ⟨p1, c1, rfl, hn1, hq1⟩ := owns_form o1
  have zz_20 := Below.size b2
  have tt_21 : Below w.heap.size w w2 := Below.trans tt_14 (Below.mono b2 (Below.size tt_14))
  replace bx_8 := BoxF.below bx_8 b2
  replace bx_15 := BoxF.below bx_15 b2
  replace h0 := Flat.below h0 b2
  replace h1 := Flat.below h1 b2
  obtain ⟨X_22, hX_23⟩ : ∃ X, w2.alloc (.cells #[Value.slice p0 bs.length c0, Value.slice p1 ls.length c1] 30) = X := ⟨_, rfl⟩
  have bX_24 : Below w2.heap.size w2 X_22 := by rw [← hX_23]; exact (Below.refl _ _).alloc (Nat.le_refl _) _
  have zs_25 : w2.heap.size + 1 ≤ X_22.heap.size := by rw [← hX_23]; simp
  have zz_26 := Below.size bX_24
  have tt_27 : Below w.heap.size w X_22 := Below.trans tt_21 (Below.mono bX_24 (Below.size tt_21))
  replace bx_8 := BoxF.below bx_8 bX_24
  replace bx_15 := BoxF.below bx_15 bX_24
  replace o0 := owns_below o0 bX_24
  replace o1 := owns_below o1 bX_24
  replace h0 := Flat.below h0 bX_24
  replace h1 := Flat.below h1 bX_24
  have bx_28 : BoxF X_22 w2.heap.size [Value.slice p0 bs.length c0, Value.slice p1 ls.length c1] := by rw [← hX_23]; exact BoxF.alloc _ _ _
  have k_29 : X_22.cell? ⟨w.heap.size, 0, none⟩ = some (Value.slice a0 bs.length cap0) := bx_8.1.2 0 (by simp)
  have k_30 : X_22.cell? ⟨w.heap.size, 1, none⟩ = some (Value.slice a1 ls.length cap1) := bx_8.1.2 1 (by simp)
  have k_31 : X_22.cell? ⟨X_2.heap.size, 0, none⟩ = some (Value.slice none 0 0) := bx_15.1.2 0 (by simp)
  have k_32 : X_22.cell? ⟨X_2.heap.size, 1, none⟩ = some (Value.slice none 0 0) := bx_15.1.2 1 (by simp)
  have k_33 : X_22.cell? ⟨w2.heap.size, 0, none⟩ = some (Value.slice p0 bs.length c0) := bx_28.1.2 0 (by simp)
  have k_34 : X_22.cell? ⟨w2.heap.size, 1, none⟩ = some (Value.slice p1 ls.length c1) := bx_28.1.2 1 (by simp)
  go_wp2_with fail
  clear hX_23 k_29 k_30 k_31 k_32 k_33 k_34
  have Hh := hid h00; clear h00
  refine (spec_ArenaOk0 _ bs _ ls _ h0 h1).mono ?_
  rintro e w3 ⟨rfl, b3⟩
  have zz_35 := Below.size b3
  have tt_36 : Below w.heap.size w w3 := Below.trans tt_27 (Below.mono b3 (Below.size tt_27))
  replace bx_8 := BoxF.below bx_8 b3
  replace bx_15 := BoxF.below bx_15 b3
  replace bx_28 := BoxF.below bx_28 b3
  replace o0 := owns_below o0 b3
  replace o1 := owns_below o1 b3
  replace h0 := Flat.below h0 b3
  replace h1 := Flat.below h1 b3
  cases hok : arenaOk ⟨bs, ls⟩
  case false =>
    have HN := hid (takeF_no hok)
    have k_1037 : w3.cell? ⟨w.heap.size, 0, none⟩ = some (Value.slice a0 bs.length cap0) := bx_8.1.2 0 (by simp)
    have k_1038 : w3.cell? ⟨w.heap.size, 1, none⟩ = some (Value.slice a1 ls.length cap1) := bx_8.1.2 1 (by simp)
    have k_1039 : w3.cell? ⟨X_2.heap.size, 0, none⟩ = some (Value.slice none 0 0) := bx_15.1.2 0 (by simp)
    have k_1040 : w3.frozen? ⟨X_2.heap.size, 0, none⟩ = false := bx_15.2 0 (by simp)
    have k_1041 : w3.cell? ⟨X_2.heap.size, 1, none⟩ = some (Value.slice none 0 0) := bx_15.1.2 1 (by simp)
    have k_1042 : w3.frozen? ⟨X_2.heap.size, 1, none⟩ = false := bx_15.2 1 (by simp)
    have k_1043 : w3.cell? ⟨w2.heap.size, 0, none⟩ = some (Value.slice p0 bs.length c0) := bx_28.1.2 0 (by simp)
    have k_1044 : w3.frozen? ⟨w2.heap.size, 0, none⟩ = false := bx_28.2 0 (by simp)
    have k_1045 : w3.cell? ⟨w2.heap.size, 1, none⟩ = some (Value.slice p1 ls.length c1) := bx_28.1.2 1 (by simp)
    have k_1046 : w3.frozen? ⟨w2.heap.size, 1, none⟩ = false := bx_28.2 1 (by simp)
    have Ho0 := hid o0; clear o0
    have Ho1 := hid o1; clear o1
    go_wp2_with (fail)
    refine bodyPost_ret (v := .tuple #[.agg #[Value.slice p0 bs.length c0, Value.slice p1 ls.length c1], .int .i64 (-1), .bool false]) ?_ rfl ⟨_, _, by rw [HN.out], ?_⟩
    · simp [results, Try.results22, go_sem, k_1037, k_1038, k_1039, k_1040, k_1041, k_1042, k_1043, k_1044, k_1045, k_1046]
    · rw [HN.out]
      refine ⟨by exact Flat.of_owns (owns_setCell (owns_setCell Ho0.out _ _ (by show X_2.heap.size < _; omega)) _ _ (by show X_2.heap.size < _; omega)), Flat.of_owns (owns_setCell (owns_setCell Ho1.out _ _ (by show X_2.heap.size < _; omega)) _ _ (by show X_2.heap.size < _; omega)), (Below.setCell (Below.setCell tt_36 (by show w.heap.size ≤ X_2.heap.size; omega) _) (by show w.heap.size ≤ X_2.heap.size; omega) _)⟩
  by_cases hls : ls.length = 0
  ·
    have HN := hid (takeF_nil (bs := bs) hls)
    have hle0 : ((ls.length : Int) == 0) = true := by rw [beq_iff_eq]; omega
    clear hls
    have k_1037 : w3.cell? ⟨w.heap.size, 0, none⟩ = some (Value.slice a0 bs.length cap0) := bx_8.1.2 0 (by simp)
    have k_1038 : w3.cell? ⟨w.heap.size, 1, none⟩ = some (Value.slice a1 ls.length cap1) := bx_8.1.2 1 (by simp)
    have k_1039 : w3.cell? ⟨X_2.heap.size, 0, none⟩ = some (Value.slice none 0 0) := bx_15.1.2 0 (by simp)
    have k_1040 : w3.frozen? ⟨X_2.heap.size, 0, none⟩ = false := bx_15.2 0 (by simp)
    have k_1041 : w3.cell? ⟨X_2.heap.size, 1, none⟩ = some (Value.slice none 0 0) := bx_15.1.2 1 (by simp)
    have k_1042 : w3.frozen? ⟨X_2.heap.size, 1, none⟩ = false := bx_15.2 1 (by simp)
    have k_1043 : w3.cell? ⟨w2.heap.size, 0, none⟩ = some (Value.slice p0 bs.length c0) := bx_28.1.2 0 (by simp)
    have k_1044 : w3.frozen? ⟨w2.heap.size, 0, none⟩ = false := bx_28.2 0 (by simp)
    have k_1045 : w3.cell? ⟨w2.heap.size, 1, none⟩ = some (Value.slice p1 ls.length c1) := bx_28.1.2 1 (by simp)
    have k_1046 : w3.frozen? ⟨w2.heap.size, 1, none⟩ = false := bx_28.2 1 (by simp)
    have Ho0 := hid o0; clear o0
    have Ho1 := hid o1; clear o1
    go_wp2_with (fail)
    refine bodyPost_ret (v := .tuple #[.agg #[Value.slice p0 bs.length c0, Value.slice p1 ls.length c1], .int .i64 (-1), .bool false]) ?_ rfl ⟨_, _, by rw [HN.out], ?_⟩
    · simp [results, Try.results22, go_sem, k_1037, k_1038, k_1039, k_1040, k_1041, k_1042, k_1043, k_1044, k_1045, k_1046]
    · rw [HN.out]
      refine ⟨by exact Flat.of_owns (owns_setCell (owns_setCell Ho0.out _ _ (by show X_2.heap.size < _; omega)) _ _ (by show X_2.heap.size < _; omega)), Flat.of_owns (owns_setCell (owns_setCell Ho1.out _ _ (by show X_2.heap.size < _; omega)) _ _ (by show X_2.heap.size < _; omega)), (Below.setCell (Below.setCell tt_36 (by show w.heap.size ≤ X_2.heap.size; omega) _) (by show w.heap.size ≤ X_2.heap.size; omega) _)⟩
  have hl0 : 0 < ls.length := by omega
  have hle0 : ((ls.length : Int) == 0) = false := by rw [beq_eq_false_iff_ne]; omega
  have hli : (0 : Int) < (ls.length : Int) := by omega
  obtain ⟨q, hq0, hqn, hlen24⟩ := take_at hok hl0
  obtain ⟨⟨gg, fr, x0, x1, x2⟩, ho⟩ : ∃ o, Hid (bs[q] = o) := ⟨_, hid rfl⟩
  have hgd := hid (show bs.getD q zeroB = ⟨gg, fr, x0, x1, x2⟩ by rw [List.getD, List.getElem?_eq_getElem hqn]; exact ho.out)
  have HY := hid (takeF_yes hok hl0 hq0 (by rw [hgd.out]))
  have hbk := arenaOk_block hok q hqn
  rw [ho.out] at hbk
  have hg1 : 0 ≤ gg ∧ gg ≤ 5 := by simp only [blockOk, Bool.and_eq_true, inB, decide_eq_true_eq] at hbk; exact hbk.1.1
  obtain ⟨hg1, hg2⟩ := hg1
  clear hbk hls
  have hs0 := hid (show (bs.flatMap Block.enc).set (q * 5) (.int .i64 gg) = (bs.set q ⟨gg, fr, x0, x1, x2⟩).flatMap Block.enc by rw [set_gen bs q gg hqn, hgd.out])
  have hle := hid (show (bs.set q (⟨gg, false, 0, 0, 0⟩ : Block)).length = bs.length by simp)
  have hle2 := hid (show (ls.drop 1).length = ls.length - 1 by simp)
  have hi1 : (0 : Int) ≤ (q : Int) := by omega
  have hi2 : (q : Int) < (bs.length : Int) := by omega
  obtain ⟨i0, hi, hz0, hz1, hz2⟩ := info_parts infoInt
  obtain ⟨g, cg, hv, _, _, hgb, hgs, _, hfr⟩ := owns_at o0 (by omega)
  obtain ⟨rfl, rfl⟩ : p0 = some ⟨g, 0, none⟩ ∧ c0 = cg := by simpa using hv
  obtain ⟨_, hgw⟩ := lt0.out g rfl
  have hel : CellsO w3 g (q * 5) [Value.int .i64 gg, Value.bool fr, Value.int .i64 x0, Value.int .i64 x1, Value.int .i64 x2] := CellsO.ofBlock o0 (q) hqn _ ho rfl
  clear hfr hv
  obtain ⟨b1, off1, hb1, hb1s, d1⟩ := Ints.at h1 0 hl0
  simp only [Nat.add_zero] at d1
  rw [hq0] at d1
  obtain ⟨vc, hrc, hfc⟩ := slice_from Try.underlying23 hi hz1 h1 1 (by omega)
  have hrc' : ∀ w', (Instr.slice 23 (.slice a1 ls.length cap1) (some (.int .i64 1)) none none).run Try.prog w' = .ok vc w' := hrc
  have hfc' : Ints w3 vc (ls.drop 1) := by
    rw [Nat.mul_one, ← Nat.mul_one 1, drop_flatMap encI 1 (fun _ => rfl)] at hfc
    unfold Ints; rw [hle2.out]; exact hfc
  clear hrc hfc
  subst hb1
  clear hq0
  have k_37 : w3.cell? ⟨w.heap.size, 0, none⟩ = some (Value.slice a0 bs.length cap0) := bx_8.1.2 0 (by simp)
  have k_38 : w3.cell? ⟨w.heap.size, 1, none⟩ = some (Value.slice (some ⟨b1, off1, none⟩) ls.length cap1) := bx_8.1.2 1 (by simp)
  have k_39 : w3.cell? ⟨X_2.heap.size, 0, none⟩ = some (Value.slice none 0 0) := bx_15.1.2 0 (by simp)
  have k_40 : w3.frozen? ⟨X_2.heap.size, 0, none⟩ = false := bx_15.2 0 (by simp)
  have k_41 : w3.cell? ⟨X_2.heap.size, 1, none⟩ = some (Value.slice none 0 0) := bx_15.1.2 1 (by simp)
  have k_42 : w3.frozen? ⟨X_2.heap.size, 1, none⟩ = false := bx_15.2 1 (by simp)
  have k_43 : w3.cell? ⟨w2.heap.size, 0, none⟩ = some (Value.slice (some ⟨g, 0, none⟩) bs.length c0) := bx_28.1.2 0 (by simp)
  have k_44 : w3.frozen? ⟨w2.heap.size, 0, none⟩ = false := bx_28.2 0 (by simp)
  have k_45 : w3.cell? ⟨w2.heap.size, 1, none⟩ = some (Value.slice p1 ls.length c1) := bx_28.1.2 1 (by simp)
  have k_46 : w3.frozen? ⟨w2.heap.size, 1, none⟩ = false := bx_28.2 1 (by simp)
  have k_47 : w3.cell? ⟨g, q * 5, none⟩ = some (Value.int .i64 gg) := (hel.2 0 (by simp)).1
  have k_48 : w3.frozen? ⟨g, q * 5, none⟩ = false := (hel.2 0 (by simp)).2
  have k_49 : w3.cell? ⟨g, q * 5 + 1, none⟩ = some (Value.bool fr) := (hel.2 1 (by simp)).1
  have k_50 : w3.frozen? ⟨g, q * 5 + 1, none⟩ = false := (hel.2 1 (by simp)).2
  have k_51 : w3.cell? ⟨g, q * 5 + 2, none⟩ = some (Value.int .i64 x0) := (hel.2 2 (by simp)).1
  have k_52 : w3.frozen? ⟨g, q * 5 + 2, none⟩ = false := (hel.2 2 (by simp)).2
  have k_53 : w3.cell? ⟨g, q * 5 + 3, none⟩ = some (Value.int .i64 x1) := (hel.2 3 (by simp)).1
  have k_54 : w3.frozen? ⟨g, q * 5 + 3, none⟩ = false := (hel.2 3 (by simp)).2
  have k_55 : w3.cell? ⟨g, q * 5 + 4, none⟩ = some (Value.int .i64 x2) := (hel.2 4 (by simp)).1
  have k_56 : w3.frozen? ⟨g, q * 5 + 4, none⟩ = false := (hel.2 4 (by simp)).2
  go_wp2_with fail
  clear k_37 k_38 k_39 k_40 k_41 k_42 k_43 k_44 k_45 k_46 k_47 k_48 k_49 k_50 k_51 k_52 k_53 k_54 k_55 k_56
  refine (spec_l1Copy vc (ls.drop 1) _ hfc' (by rw [hle2.out]; omega)).mono ?_
  rintro e w4 ⟨v6, rfl, o6, b4⟩
  have ap6 := apart o0 (Nat.le_refl _) o6
  have lt6 := hid (World.ownsRow.lt o6)
  rw [hle2.out] at o6
  obtain ⟨p6, c6, rfl, hn6, hm6⟩ := owns_form o6
  have zz_57 := Below.size b4
  have tt_58 : Below w.heap.size w w4 := Below.trans tt_36 (Below.mono b4 (Below.size tt_36))
  replace bx_8 := BoxF.below bx_8 b4
  replace bx_15 := BoxF.below bx_15 b4
  replace bx_28 := BoxF.below bx_28 b4
  replace hel := CellsO.below hel b4
  replace o0 := owns_below o0 b4
  replace h0 := Flat.below h0 b4
  replace h1 := Flat.below h1 b4
  obtain ⟨bb, off, hbo, hbs, y0, y1, y2, y3, y4⟩ := Blocks.at Hh.out q hqn _ ho
  subst hbo
  dsimp only at y0
  have k_59 : w4.cell? ⟨bb, off + q * 5, none⟩ = some (Value.int .i64 gg) := (Below.cell tt_58 (p := ⟨bb, off + q * 5, none⟩) hbs).trans y0
  have k_60 : w4.cell? ⟨w.heap.size, 0, none⟩ = some (Value.slice (some ⟨bb, off, none⟩) bs.length cap0) := bx_8.1.2 0 (by simp)
  have k_61 : w4.cell? ⟨w.heap.size, 1, none⟩ = some (Value.slice (some ⟨b1, off1, none⟩) ls.length cap1) := bx_8.1.2 1 (by simp)
  have k_62 : w4.cell? ⟨X_2.heap.size, 0, none⟩ = some (Value.slice none 0 0) := bx_15.1.2 0 (by simp)
  have k_63 : w4.frozen? ⟨X_2.heap.size, 0, none⟩ = false := bx_15.2 0 (by simp)
  have k_64 : w4.cell? ⟨X_2.heap.size, 1, none⟩ = some (Value.slice none 0 0) := bx_15.1.2 1 (by simp)
  have k_65 : w4.frozen? ⟨X_2.heap.size, 1, none⟩ = false := bx_15.2 1 (by simp)
  have k_66 : w4.cell? ⟨w2.heap.size, 0, none⟩ = some (Value.slice (some ⟨g, 0, none⟩) bs.length c0) := bx_28.1.2 0 (by simp)
  have k_67 : w4.frozen? ⟨w2.heap.size, 0, none⟩ = false := bx_28.2 0 (by simp)
  have k_68 : w4.cell? ⟨w2.heap.size, 1, none⟩ = some (Value.slice p1 ls.length c1) := bx_28.1.2 1 (by simp)
  have k_69 : w4.frozen? ⟨w2.heap.size, 1, none⟩ = false := bx_28.2 1 (by simp)
  have k_70 : w4.cell? ⟨g, q * 5, none⟩ = some (Value.int .i64 gg) := (hel.2 0 (by simp)).1
  have k_71 : w4.frozen? ⟨g, q * 5, none⟩ = false := (hel.2 0 (by simp)).2
  have k_72 : w4.cell? ⟨g, q * 5 + 1, none⟩ = some (Value.bool fr) := (hel.2 1 (by simp)).1
  have k_73 : w4.frozen? ⟨g, q * 5 + 1, none⟩ = false := (hel.2 1 (by simp)).2
  have k_74 : w4.cell? ⟨g, q * 5 + 2, none⟩ = some (Value.int .i64 x0) := (hel.2 2 (by simp)).1
  have k_75 : w4.frozen? ⟨g, q * 5 + 2, none⟩ = false := (hel.2 2 (by simp)).2
  have k_76 : w4.cell? ⟨g, q * 5 + 3, none⟩ = some (Value.int .i64 x1) := (hel.2 3 (by simp)).1
  have k_77 : w4.frozen? ⟨g, q * 5 + 3, none⟩ = false := (hel.2 3 (by simp)).2
  have k_78 : w4.cell? ⟨g, q * 5 + 4, none⟩ = some (Value.int .i64 x2) := (hel.2 4 (by simp)).1
  have k_79 : w4.frozen? ⟨g, q * 5 + 4, none⟩ = false := (hel.2 4 (by simp)).2
  obtain ⟨X_80, hX_81⟩ : ∃ X, w4.setCell ⟨w2.heap.size, 1, none⟩ (Value.slice p6 (ls.length - 1) c6) = X := ⟨_, rfl⟩
  have gr_82 : w4.grownBy X_80 (some (w2.heap.size)) := by rw [← hX_81]; exact grownBy_setCell _ _ _
  have zz_83 : w4.heap.size ≤ X_80.heap.size := by rw [← hX_81]; simp [World.setCell]
  have tt_84 : Below w.heap.size w X_80 := by rw [← hX_81]; exact Below.setCell tt_58 (by show w.heap.size ≤ w2.heap.size; omega) _
  replace o0 := World.ownsRow.kept o0 gr_82 (apart_blk lt0 (by omega))
  replace o6 := World.ownsRow.kept o6 gr_82 (apart_blk lt6 (by omega))
  replace bx_8 : BoxF X_80 (w.heap.size) [Value.slice (some ⟨bb, off, none⟩) bs.length cap0, Value.slice (some ⟨b1, off1, none⟩) ls.length cap1] := by rw [← hX_81]; exact BoxF.other bx_8 _ _ (by show ¬ w2.heap.size = w.heap.size; omega)
  replace bx_15 : BoxF X_80 (X_2.heap.size) [Value.slice none 0 0, Value.slice none 0 0] := by rw [← hX_81]; exact BoxF.other bx_15 _ _ (by show ¬ w2.heap.size = X_2.heap.size; omega)
  replace bx_28 : BoxF X_80 w2.heap.size [Value.slice (some ⟨g, 0, none⟩) bs.length c0, Value.slice p6 (ls.length - 1) c6] := by rw [← hX_81]; exact BoxF.set bx_28 1 (by simp) _
  replace hel : CellsO X_80 (g) (q * 5) [Value.int .i64 gg, Value.bool fr, Value.int .i64 x0, Value.int .i64 x1, Value.int .i64 x2] := by rw [← hX_81]; exact CellsO.other hel _ _ (by show ¬ w2.heap.size = g; omega)
  have k_85 : X_80.cell? ⟨bb, off + q * 5, none⟩ = some (Value.int .i64 gg) := (Below.cell tt_84 (p := ⟨bb, off + q * 5, none⟩) hbs).trans y0
  have k_86 : X_80.cell? ⟨w.heap.size, 0, none⟩ = some (Value.slice (some ⟨bb, off, none⟩) bs.length cap0) := bx_8.1.2 0 (by simp)
  have k_87 : X_80.cell? ⟨w.heap.size, 1, none⟩ = some (Value.slice (some ⟨b1, off1, none⟩) ls.length cap1) := bx_8.1.2 1 (by simp)
  have k_88 : X_80.cell? ⟨X_2.heap.size, 0, none⟩ = some (Value.slice none 0 0) := bx_15.1.2 0 (by simp)
  have k_89 : X_80.frozen? ⟨X_2.heap.size, 0, none⟩ = false := bx_15.2 0 (by simp)
  have k_90 : X_80.cell? ⟨X_2.heap.size, 1, none⟩ = some (Value.slice none 0 0) := bx_15.1.2 1 (by simp)
  have k_91 : X_80.frozen? ⟨X_2.heap.size, 1, none⟩ = false := bx_15.2 1 (by simp)
  have k_92 : X_80.cell? ⟨w2.heap.size, 0, none⟩ = some (Value.slice (some ⟨g, 0, none⟩) bs.length c0) := bx_28.1.2 0 (by simp)
  have k_93 : X_80.frozen? ⟨w2.heap.size, 0, none⟩ = false := bx_28.2 0 (by simp)
  have k_94 : X_80.cell? ⟨w2.heap.size, 1, none⟩ = some (Value.slice p6 (ls.length - 1) c6) := bx_28.1.2 1 (by simp)
  have k_95 : X_80.frozen? ⟨w2.heap.size, 1, none⟩ = false := bx_28.2 1 (by simp)
  have k_96 : X_80.cell? ⟨g, q * 5, none⟩ = some (Value.int .i64 gg) := (hel.2 0 (by simp)).1
  have k_97 : X_80.frozen? ⟨g, q * 5, none⟩ = false := (hel.2 0 (by simp)).2
  have k_98 : X_80.cell? ⟨g, q * 5 + 1, none⟩ = some (Value.bool fr) := (hel.2 1 (by simp)).1
  have k_99 : X_80.frozen? ⟨g, q * 5 + 1, none⟩ = false := (hel.2 1 (by simp)).2
  have k_100 : X_80.cell? ⟨g, q * 5 + 2, none⟩ = some (Value.int .i64 x0) := (hel.2 2 (by simp)).1
  have k_101 : X_80.frozen? ⟨g, q * 5 + 2, none⟩ = false := (hel.2 2 (by simp)).2
  have k_102 : X_80.cell? ⟨g, q * 5 + 3, none⟩ = some (Value.int .i64 x1) := (hel.2 3 (by simp)).1
  have k_103 : X_80.frozen? ⟨g, q * 5 + 3, none⟩ = false := (hel.2 3 (by simp)).2
  have k_104 : X_80.cell? ⟨g, q * 5 + 4, none⟩ = some (Value.int .i64 x2) := (hel.2 4 (by simp)).1
  have k_105 : X_80.frozen? ⟨g, q * 5 + 4, none⟩ = false := (hel.2 4 (by simp)).2
  go_wp2
  go_still_tail 11, (by kernel_rfl)
  clear k_59 k_60 k_61 k_62 k_63 k_64 k_65 k_66 k_67 k_68 k_69 k_70 k_71 k_72 k_73 k_74 k_75 k_76 k_77 k_78 k_79 hX_81 k_85 k_86 k_87 k_88 k_89 k_90 k_91 k_92 k_93 k_94 k_95 k_96 k_97 k_98 k_99 k_100 k_101 k_102 k_103 k_104 k_105
  obtain ⟨X_106, hX_107⟩ : ∃ X, X_80.drew = X := ⟨_, rfl⟩
  have bD_108 : Below X_80.heap.size X_80 X_106 := by rw [← hX_107]; exact (Below.refl _ _).drew
  have zz_109 := Below.size bD_108
  have tt_110 : Below w.heap.size w X_106 := Below.trans tt_84 (Below.mono bD_108 (Below.size tt_84))
  replace bx_8 := BoxF.below bx_8 bD_108
  replace bx_15 := BoxF.below bx_15 bD_108
  replace bx_28 := BoxF.below bx_28 bD_108
  replace hel := CellsO.below hel bD_108
  replace o0 := owns_below o0 bD_108
  replace o6 := owns_below o6 bD_108
  change wpList _ _ _ _ _ (World.drew X_80)
  rw [hX_107]
  have k_111 : X_106.cell? ⟨bb, off + q * 5, none⟩ = some (Value.int .i64 gg) := (Below.cell tt_110 (p := ⟨bb, off + q * 5, none⟩) hbs).trans y0
  have k_112 : X_106.cell? ⟨w.heap.size, 0, none⟩ = some (Value.slice (some ⟨bb, off, none⟩) bs.length cap0) := bx_8.1.2 0 (by simp)
  have k_113 : X_106.cell? ⟨w.heap.size, 1, none⟩ = some (Value.slice (some ⟨b1, off1, none⟩) ls.length cap1) := bx_8.1.2 1 (by simp)
  have k_114 : X_106.cell? ⟨X_2.heap.size, 0, none⟩ = some (Value.slice none 0 0) := bx_15.1.2 0 (by simp)
  have k_115 : X_106.frozen? ⟨X_2.heap.size, 0, none⟩ = false := bx_15.2 0 (by simp)
  have k_116 : X_106.cell? ⟨X_2.heap.size, 1, none⟩ = some (Value.slice none 0 0) := bx_15.1.2 1 (by simp)
  have k_117 : X_106.frozen? ⟨X_2.heap.size, 1, none⟩ = false := bx_15.2 1 (by simp)
  have k_118 : X_106.cell? ⟨w2.heap.size, 0, none⟩ = some (Value.slice (some ⟨g, 0, none⟩) bs.length c0) := bx_28.1.2 0 (by simp)
  have k_119 : X_106.frozen? ⟨w2.heap.size, 0, none⟩ = false := bx_28.2 0 (by simp)
  have k_120 : X_106.cell? ⟨w2.heap.size, 1, none⟩ = some (Value.slice p6 (ls.length - 1) c6) := bx_28.1.2 1 (by simp)
  have k_121 : X_106.frozen? ⟨w2.heap.size, 1, none⟩ = false := bx_28.2 1 (by simp)
  have k_122 : X_106.cell? ⟨g, q * 5, none⟩ = some (Value.int .i64 gg) := (hel.2 0 (by simp)).1
  have k_123 : X_106.frozen? ⟨g, q * 5, none⟩ = false := (hel.2 0 (by simp)).2
  have k_124 : X_106.cell? ⟨g, q * 5 + 1, none⟩ = some (Value.bool fr) := (hel.2 1 (by simp)).1
  have k_125 : X_106.frozen? ⟨g, q * 5 + 1, none⟩ = false := (hel.2 1 (by simp)).2
  have k_126 : X_106.cell? ⟨g, q * 5 + 2, none⟩ = some (Value.int .i64 x0) := (hel.2 2 (by simp)).1
  have k_127 : X_106.frozen? ⟨g, q * 5 + 2, none⟩ = false := (hel.2 2 (by simp)).2
  have k_128 : X_106.cell? ⟨g, q * 5 + 3, none⟩ = some (Value.int .i64 x1) := (hel.2 3 (by simp)).1
  have k_129 : X_106.frozen? ⟨g, q * 5 + 3, none⟩ = false := (hel.2 3 (by simp)).2
  have k_130 : X_106.cell? ⟨g, q * 5 + 4, none⟩ = some (Value.int .i64 x2) := (hel.2 4 (by simp)).1
  have k_131 : X_106.frozen? ⟨g, q * 5 + 4, none⟩ = false := (hel.2 4 (by simp)).2
  obtain ⟨X_132, hX_133⟩ : ∃ X, X_106.setCell ⟨g, q * 5, none⟩ (Value.int .i64 gg) = X := ⟨_, rfl⟩
  have gr_134 : X_106.grownBy X_132 (some (g)) := by rw [← hX_133]; exact (World.ownsRow.stored o0 (q * 5) (Value.int .i64 gg)).2
  have zz_135 : X_106.heap.size ≤ X_132.heap.size := by rw [← hX_133]; simp [World.setCell]
  have tt_136 : Below w.heap.size w X_132 := by rw [← hX_133]; exact Below.setCell tt_110 (by show w.heap.size ≤ g; omega) _
  replace o0 := owns_put o0 (q * 5) (Value.int .i64 gg)
  rw [hX_133] at o0
  replace o6 := World.ownsRow.kept o6 gr_134 ap6.2
  rw [hs0.out] at o0
  replace bx_8 : BoxF X_132 (w.heap.size) [Value.slice (some ⟨bb, off, none⟩) bs.length cap0, Value.slice (some ⟨b1, off1, none⟩) ls.length cap1] := by rw [← hX_133]; exact BoxF.other bx_8 _ _ (by show ¬ g = w.heap.size; omega)
  replace bx_15 : BoxF X_132 (X_2.heap.size) [Value.slice none 0 0, Value.slice none 0 0] := by rw [← hX_133]; exact BoxF.other bx_15 _ _ (by show ¬ g = X_2.heap.size; omega)
  replace bx_28 : BoxF X_132 (w2.heap.size) [Value.slice (some ⟨g, 0, none⟩) bs.length c0, Value.slice p6 (ls.length - 1) c6] := by rw [← hX_133]; exact BoxF.other bx_28 _ _ (by show ¬ g = w2.heap.size; omega)
  replace hel : CellsO X_132 (g) (q * 5) [Value.int .i64 gg, Value.bool fr, Value.int .i64 x0, Value.int .i64 x1, Value.int .i64 x2] := by rw [← hX_133]; exact CellsO.set hel 0 (by simp) _
  have k_137 : X_132.cell? ⟨g, q * 5, none⟩ = some (Value.int .i64 gg) := (hel.2 0 (by simp)).1
  have k_138 : X_132.frozen? ⟨g, q * 5, none⟩ = false := (hel.2 0 (by simp)).2
  have k_139 : X_132.cell? ⟨g, q * 5 + 1, none⟩ = some (Value.bool fr) := (hel.2 1 (by simp)).1
  have k_140 : X_132.frozen? ⟨g, q * 5 + 1, none⟩ = false := (hel.2 1 (by simp)).2
  have k_141 : X_132.cell? ⟨g, q * 5 + 2, none⟩ = some (Value.int .i64 x0) := (hel.2 2 (by simp)).1
  have k_142 : X_132.frozen? ⟨g, q * 5 + 2, none⟩ = false := (hel.2 2 (by simp)).2
  have k_143 : X_132.cell? ⟨g, q * 5 + 3, none⟩ = some (Value.int .i64 x1) := (hel.2 3 (by simp)).1
  have k_144 : X_132.frozen? ⟨g, q * 5 + 3, none⟩ = false := (hel.2 3 (by simp)).2
  have k_145 : X_132.cell? ⟨g, q * 5 + 4, none⟩ = some (Value.int .i64 x2) := (hel.2 4 (by simp)).1
  have k_146 : X_132.frozen? ⟨g, q * 5 + 4, none⟩ = false := (hel.2 4 (by simp)).2
  obtain ⟨X_147, hX_148⟩ : ∃ X, X_132.setCell ⟨g, q * 5 + 1, none⟩ (Value.bool false) = X := ⟨_, rfl⟩
  have gr_149 : X_132.grownBy X_147 (some (g)) := by rw [← hX_148]; exact (World.ownsRow.stored o0 (q * 5 + 1) (Value.bool false)).2
  have zz_150 : X_132.heap.size ≤ X_147.heap.size := by rw [← hX_148]; simp [World.setCell]
  have tt_151 : Below w.heap.size w X_147 := by rw [← hX_148]; exact Below.setCell tt_136 (by show w.heap.size ≤ g; omega) _
  replace o0 := owns_put o0 (q * 5 + 1) (Value.bool false)
  rw [hX_148] at o0
  replace o6 := World.ownsRow.kept o6 gr_149 ap6.2
  rw [set2_free bs q _ hqn false] at o0
  replace bx_8 : BoxF X_147 (w.heap.size) [Value.slice (some ⟨bb, off, none⟩) bs.length cap0, Value.slice (some ⟨b1, off1, none⟩) ls.length cap1] := by rw [← hX_148]; exact BoxF.other bx_8 _ _ (by show ¬ g = w.heap.size; omega)
  replace bx_15 : BoxF X_147 (X_2.heap.size) [Value.slice none 0 0, Value.slice none 0 0] := by rw [← hX_148]; exact BoxF.other bx_15 _ _ (by show ¬ g = X_2.heap.size; omega)
  replace bx_28 : BoxF X_147 (w2.heap.size) [Value.slice (some ⟨g, 0, none⟩) bs.length c0, Value.slice p6 (ls.length - 1) c6] := by rw [← hX_148]; exact BoxF.other bx_28 _ _ (by show ¬ g = w2.heap.size; omega)
  replace hel : CellsO X_147 (g) (q * 5) [Value.int .i64 gg, Value.bool false, Value.int .i64 x0, Value.int .i64 x1, Value.int .i64 x2] := by rw [← hX_148]; exact CellsO.set hel 1 (by simp) _
  have k_152 : X_147.cell? ⟨g, q * 5, none⟩ = some (Value.int .i64 gg) := (hel.2 0 (by simp)).1
  have k_153 : X_147.frozen? ⟨g, q * 5, none⟩ = false := (hel.2 0 (by simp)).2
  have k_154 : X_147.cell? ⟨g, q * 5 + 1, none⟩ = some (Value.bool false) := (hel.2 1 (by simp)).1
  have k_155 : X_147.frozen? ⟨g, q * 5 + 1, none⟩ = false := (hel.2 1 (by simp)).2
  have k_156 : X_147.cell? ⟨g, q * 5 + 2, none⟩ = some (Value.int .i64 x0) := (hel.2 2 (by simp)).1
  have k_157 : X_147.frozen? ⟨g, q * 5 + 2, none⟩ = false := (hel.2 2 (by simp)).2
  have k_158 : X_147.cell? ⟨g, q * 5 + 3, none⟩ = some (Value.int .i64 x1) := (hel.2 3 (by simp)).1
  have k_159 : X_147.frozen? ⟨g, q * 5 + 3, none⟩ = false := (hel.2 3 (by simp)).2
  have k_160 : X_147.cell? ⟨g, q * 5 + 4, none⟩ = some (Value.int .i64 x2) := (hel.2 4 (by simp)).1
  have k_161 : X_147.frozen? ⟨g, q * 5 + 4, none⟩ = false := (hel.2 4 (by simp)).2
  obtain ⟨X_162, hX_163⟩ : ∃ X, X_147.setCell ⟨g, q * 5 + 2, none⟩ (Value.int .i64 0) = X := ⟨_, rfl⟩
  have gr_164 : X_147.grownBy X_162 (some (g)) := by rw [← hX_163]; exact (World.ownsRow.stored o0 (q * 5 + 2) (Value.int .i64 0)).2
  have zz_165 : X_147.heap.size ≤ X_162.heap.size := by rw [← hX_163]; simp [World.setCell]
  have tt_166 : Below w.heap.size w X_162 := by rw [← hX_163]; exact Below.setCell tt_151 (by show w.heap.size ≤ g; omega) _
  replace o0 := owns_put o0 (q * 5 + 2) (Value.int .i64 0)
  rw [hX_163] at o0
  replace o6 := World.ownsRow.kept o6 gr_164 ap6.2
  rw [set2_w0 bs q _ hqn 0] at o0
  replace bx_8 : BoxF X_162 (w.heap.size) [Value.slice (some ⟨bb, off, none⟩) bs.length cap0, Value.slice (some ⟨b1, off1, none⟩) ls.length cap1] := by rw [← hX_163]; exact BoxF.other bx_8 _ _ (by show ¬ g = w.heap.size; omega)
  replace bx_15 : BoxF X_162 (X_2.heap.size) [Value.slice none 0 0, Value.slice none 0 0] := by rw [← hX_163]; exact BoxF.other bx_15 _ _ (by show ¬ g = X_2.heap.size; omega)
  replace bx_28 : BoxF X_162 (w2.heap.size) [Value.slice (some ⟨g, 0, none⟩) bs.length c0, Value.slice p6 (ls.length - 1) c6] := by rw [← hX_163]; exact BoxF.other bx_28 _ _ (by show ¬ g = w2.heap.size; omega)
  replace hel : CellsO X_162 (g) (q * 5) [Value.int .i64 gg, Value.bool false, Value.int .i64 0, Value.int .i64 x1, Value.int .i64 x2] := by rw [← hX_163]; exact CellsO.set hel 2 (by simp) _
  have k_167 : X_162.cell? ⟨g, q * 5, none⟩ = some (Value.int .i64 gg) := (hel.2 0 (by simp)).1
  have k_168 : X_162.frozen? ⟨g, q * 5, none⟩ = false := (hel.2 0 (by simp)).2
  have k_169 : X_162.cell? ⟨g, q * 5 + 1, none⟩ = some (Value.bool false) := (hel.2 1 (by simp)).1
  have k_170 : X_162.frozen? ⟨g, q * 5 + 1, none⟩ = false := (hel.2 1 (by simp)).2
  have k_171 : X_162.cell? ⟨g, q * 5 + 2, none⟩ = some (Value.int .i64 0) := (hel.2 2 (by simp)).1
  have k_172 : X_162.frozen? ⟨g, q * 5 + 2, none⟩ = false := (hel.2 2 (by simp)).2
  have k_173 : X_162.cell? ⟨g, q * 5 + 3, none⟩ = some (Value.int .i64 x1) := (hel.2 3 (by simp)).1
  have k_174 : X_162.frozen? ⟨g, q * 5 + 3, none⟩ = false := (hel.2 3 (by simp)).2
  have k_175 : X_162.cell? ⟨g, q * 5 + 4, none⟩ = some (Value.int .i64 x2) := (hel.2 4 (by simp)).1
  have k_176 : X_162.frozen? ⟨g, q * 5 + 4, none⟩ = false := (hel.2 4 (by simp)).2
  obtain ⟨X_177, hX_178⟩ : ∃ X, X_162.setCell ⟨g, q * 5 + 3, none⟩ (Value.int .i64 0) = X := ⟨_, rfl⟩
  have gr_179 : X_162.grownBy X_177 (some (g)) := by rw [← hX_178]; exact (World.ownsRow.stored o0 (q * 5 + 3) (Value.int .i64 0)).2
  have zz_180 : X_162.heap.size ≤ X_177.heap.size := by rw [← hX_178]; simp [World.setCell]
  have tt_181 : Below w.heap.size w X_177 := by rw [← hX_178]; exact Below.setCell tt_166 (by show w.heap.size ≤ g; omega) _
  replace o0 := owns_put o0 (q * 5 + 3) (Value.int .i64 0)
  rw [hX_178] at o0
  replace o6 := World.ownsRow.kept o6 gr_179 ap6.2
  rw [set2_w1 bs q _ hqn 0] at o0
  replace bx_8 : BoxF X_177 (w.heap.size) [Value.slice (some ⟨bb, off, none⟩) bs.length cap0, Value.slice (some ⟨b1, off1, none⟩) ls.length cap1] := by rw [← hX_178]; exact BoxF.other bx_8 _ _ (by show ¬ g = w.heap.size; omega)
  replace bx_15 : BoxF X_177 (X_2.heap.size) [Value.slice none 0 0, Value.slice none 0 0] := by rw [← hX_178]; exact BoxF.other bx_15 _ _ (by show ¬ g = X_2.heap.size; omega)
  replace bx_28 : BoxF X_177 (w2.heap.size) [Value.slice (some ⟨g, 0, none⟩) bs.length c0, Value.slice p6 (ls.length - 1) c6] := by rw [← hX_178]; exact BoxF.other bx_28 _ _ (by show ¬ g = w2.heap.size; omega)
  replace hel : CellsO X_177 (g) (q * 5) [Value.int .i64 gg, Value.bool false, Value.int .i64 0, Value.int .i64 0, Value.int .i64 x2] := by rw [← hX_178]; exact CellsO.set hel 3 (by simp) _
  have k_182 : X_177.cell? ⟨g, q * 5, none⟩ = some (Value.int .i64 gg) := (hel.2 0 (by simp)).1
  have k_183 : X_177.frozen? ⟨g, q * 5, none⟩ = false := (hel.2 0 (by simp)).2
  have k_184 : X_177.cell? ⟨g, q * 5 + 1, none⟩ = some (Value.bool false) := (hel.2 1 (by simp)).1
  have k_185 : X_177.frozen? ⟨g, q * 5 + 1, none⟩ = false := (hel.2 1 (by simp)).2
  have k_186 : X_177.cell? ⟨g, q * 5 + 2, none⟩ = some (Value.int .i64 0) := (hel.2 2 (by simp)).1
  have k_187 : X_177.frozen? ⟨g, q * 5 + 2, none⟩ = false := (hel.2 2 (by simp)).2
  have k_188 : X_177.cell? ⟨g, q * 5 + 3, none⟩ = some (Value.int .i64 0) := (hel.2 3 (by simp)).1
  have k_189 : X_177.frozen? ⟨g, q * 5 + 3, none⟩ = false := (hel.2 3 (by simp)).2
  have k_190 : X_177.cell? ⟨g, q * 5 + 4, none⟩ = some (Value.int .i64 x2) := (hel.2 4 (by simp)).1
  have k_191 : X_177.frozen? ⟨g, q * 5 + 4, none⟩ = false := (hel.2 4 (by simp)).2
  obtain ⟨X_192, hX_193⟩ : ∃ X, X_177.setCell ⟨g, q * 5 + 4, none⟩ (Value.int .i64 0) = X := ⟨_, rfl⟩
  have gr_194 : X_177.grownBy X_192 (some (g)) := by rw [← hX_193]; exact (World.ownsRow.stored o0 (q * 5 + 4) (Value.int .i64 0)).2
  have zz_195 : X_177.heap.size ≤ X_192.heap.size := by rw [← hX_193]; simp [World.setCell]
  have tt_196 : Below w.heap.size w X_192 := by rw [← hX_193]; exact Below.setCell tt_181 (by show w.heap.size ≤ g; omega) _
  replace o0 := owns_put o0 (q * 5 + 4) (Value.int .i64 0)
  rw [hX_193] at o0
  replace o6 := World.ownsRow.kept o6 gr_194 ap6.2
  rw [set2_w2 bs q _ hqn 0] at o0
  replace bx_8 : BoxF X_192 (w.heap.size) [Value.slice (some ⟨bb, off, none⟩) bs.length cap0, Value.slice (some ⟨b1, off1, none⟩) ls.length cap1] := by rw [← hX_193]; exact BoxF.other bx_8 _ _ (by show ¬ g = w.heap.size; omega)
  replace bx_15 : BoxF X_192 (X_2.heap.size) [Value.slice none 0 0, Value.slice none 0 0] := by rw [← hX_193]; exact BoxF.other bx_15 _ _ (by show ¬ g = X_2.heap.size; omega)
  replace bx_28 : BoxF X_192 (w2.heap.size) [Value.slice (some ⟨g, 0, none⟩) bs.length c0, Value.slice p6 (ls.length - 1) c6] := by rw [← hX_193]; exact BoxF.other bx_28 _ _ (by show ¬ g = w2.heap.size; omega)
  replace hel : CellsO X_192 (g) (q * 5) [Value.int .i64 gg, Value.bool false, Value.int .i64 0, Value.int .i64 0, Value.int .i64 0] := by rw [← hX_193]; exact CellsO.set hel 4 (by simp) _
  have k_197 : X_192.cell? ⟨bb, off + q * 5, none⟩ = some (Value.int .i64 gg) := (Below.cell tt_196 (p := ⟨bb, off + q * 5, none⟩) hbs).trans y0
  have k_198 : X_192.cell? ⟨w.heap.size, 0, none⟩ = some (Value.slice (some ⟨bb, off, none⟩) bs.length cap0) := bx_8.1.2 0 (by simp)
  have k_199 : X_192.cell? ⟨w.heap.size, 1, none⟩ = some (Value.slice (some ⟨b1, off1, none⟩) ls.length cap1) := bx_8.1.2 1 (by simp)
  have k_200 : X_192.cell? ⟨X_2.heap.size, 0, none⟩ = some (Value.slice none 0 0) := bx_15.1.2 0 (by simp)
  have k_201 : X_192.frozen? ⟨X_2.heap.size, 0, none⟩ = false := bx_15.2 0 (by simp)
  have k_202 : X_192.cell? ⟨X_2.heap.size, 1, none⟩ = some (Value.slice none 0 0) := bx_15.1.2 1 (by simp)
  have k_203 : X_192.frozen? ⟨X_2.heap.size, 1, none⟩ = false := bx_15.2 1 (by simp)
  have k_204 : X_192.cell? ⟨w2.heap.size, 0, none⟩ = some (Value.slice (some ⟨g, 0, none⟩) bs.length c0) := bx_28.1.2 0 (by simp)
  have k_205 : X_192.frozen? ⟨w2.heap.size, 0, none⟩ = false := bx_28.2 0 (by simp)
  have k_206 : X_192.cell? ⟨w2.heap.size, 1, none⟩ = some (Value.slice p6 (ls.length - 1) c6) := bx_28.1.2 1 (by simp)
  have k_207 : X_192.frozen? ⟨w2.heap.size, 1, none⟩ = false := bx_28.2 1 (by simp)
  have k_208 : X_192.cell? ⟨g, q * 5, none⟩ = some (Value.int .i64 gg) := (hel.2 0 (by simp)).1
  have k_209 : X_192.frozen? ⟨g, q * 5, none⟩ = false := (hel.2 0 (by simp)).2
  have k_210 : X_192.cell? ⟨g, q * 5 + 1, none⟩ = some (Value.bool false) := (hel.2 1 (by simp)).1
  have k_211 : X_192.frozen? ⟨g, q * 5 + 1, none⟩ = false := (hel.2 1 (by simp)).2
  have k_212 : X_192.cell? ⟨g, q * 5 + 2, none⟩ = some (Value.int .i64 0) := (hel.2 2 (by simp)).1
  have k_213 : X_192.frozen? ⟨g, q * 5 + 2, none⟩ = false := (hel.2 2 (by simp)).2
  have k_214 : X_192.cell? ⟨g, q * 5 + 3, none⟩ = some (Value.int .i64 0) := (hel.2 3 (by simp)).1
  have k_215 : X_192.frozen? ⟨g, q * 5 + 3, none⟩ = false := (hel.2 3 (by simp)).2
  have k_216 : X_192.cell? ⟨g, q * 5 + 4, none⟩ = some (Value.int .i64 0) := (hel.2 4 (by simp)).1
  have k_217 : X_192.frozen? ⟨g, q * 5 + 4, none⟩ = false := (hel.2 4 (by simp)).2
  have hw1 : IntKind.i64.wrap (8 * (q : Int)) = 8 * (q : Int) := IntWalk.i64_in _ (by omega)
  have hw2 : IntKind.i64.wrap (8 * (q : Int) + gg) = 8 * (q : Int) + gg := IntWalk.i64_in _ (by omega)
  go_wp2
  clear hX_107 k_111 k_112 k_113 k_114 k_115 k_116 k_117 k_118 k_119 k_120 k_121 k_122 k_123 k_124 k_125 k_126 k_127 k_128 k_129 k_130 k_131 hX_133 k_137 k_138 k_139 k_140 k_141 k_142 k_143 k_144 k_145 k_146 hX_148 k_152 k_153 k_154 k_155 k_156 k_157 k_158 k_159 k_160 k_161 hX_163 k_167 k_168 k_169 k_170 k_171 k_172 k_173 k_174 k_175 k_176 hX_178 k_182 k_183 k_184 k_185 k_186 k_187 k_188 k_189 k_190 k_191 hX_193 k_197 k_198 k_199 k_200 k_201 k_202 k_203 k_204 k_205 k_206 k_207 k_208 k_209 k_210 k_211 k_212 k_213 k_214 k_215 k_216 k_217
  have Hw1 := hw1; have Hw2 := hw2
  obtain ⟨X_218, hX_219⟩ : ∃ X, X_192.drew = X := ⟨_, rfl⟩
  have bD_220 : Below X_192.heap.size X_192 X_218 := by rw [← hX_219]; exact (Below.refl _ _).drew
  have zz_221 := Below.size bD_220
  have tt_222 : Below w.heap.size w X_218 := Below.trans tt_196 (Below.mono bD_220 (Below.size tt_196))
  replace bx_8 := BoxF.below bx_8 bD_220
  replace bx_15 := BoxF.below bx_15 bD_220
  replace bx_28 := BoxF.below bx_28 bD_220
  replace hel := CellsO.below hel bD_220
  replace o0 := owns_below o0 bD_220
  replace o6 := owns_below o6 bD_220
  have k_223 : X_218.cell? ⟨bb, off + q * 5, none⟩ = some (Value.int .i64 gg) := (Below.cell tt_222 (p := ⟨bb, off + q * 5, none⟩) hbs).trans y0
  have k_224 : X_218.cell? ⟨w.heap.size, 0, none⟩ = some (Value.slice (some ⟨bb, off, none⟩) bs.length cap0) := bx_8.1.2 0 (by simp)
  have k_225 : X_218.cell? ⟨w.heap.size, 1, none⟩ = some (Value.slice (some ⟨b1, off1, none⟩) ls.length cap1) := bx_8.1.2 1 (by simp)
  have k_226 : X_218.cell? ⟨X_2.heap.size, 0, none⟩ = some (Value.slice none 0 0) := bx_15.1.2 0 (by simp)
  have k_227 : X_218.frozen? ⟨X_2.heap.size, 0, none⟩ = false := bx_15.2 0 (by simp)
  have k_228 : X_218.cell? ⟨X_2.heap.size, 1, none⟩ = some (Value.slice none 0 0) := bx_15.1.2 1 (by simp)
  have k_229 : X_218.frozen? ⟨X_2.heap.size, 1, none⟩ = false := bx_15.2 1 (by simp)
  have k_230 : X_218.cell? ⟨w2.heap.size, 0, none⟩ = some (Value.slice (some ⟨g, 0, none⟩) bs.length c0) := bx_28.1.2 0 (by simp)
  have k_231 : X_218.frozen? ⟨w2.heap.size, 0, none⟩ = false := bx_28.2 0 (by simp)
  have k_232 : X_218.cell? ⟨w2.heap.size, 1, none⟩ = some (Value.slice p6 (ls.length - 1) c6) := bx_28.1.2 1 (by simp)
  have k_233 : X_218.frozen? ⟨w2.heap.size, 1, none⟩ = false := bx_28.2 1 (by simp)
  have k_234 : X_218.cell? ⟨g, q * 5, none⟩ = some (Value.int .i64 gg) := (hel.2 0 (by simp)).1
  have k_235 : X_218.frozen? ⟨g, q * 5, none⟩ = false := (hel.2 0 (by simp)).2
  have k_236 : X_218.cell? ⟨g, q * 5 + 1, none⟩ = some (Value.bool false) := (hel.2 1 (by simp)).1
  have k_237 : X_218.frozen? ⟨g, q * 5 + 1, none⟩ = false := (hel.2 1 (by simp)).2
  have k_238 : X_218.cell? ⟨g, q * 5 + 2, none⟩ = some (Value.int .i64 0) := (hel.2 2 (by simp)).1
  have k_239 : X_218.frozen? ⟨g, q * 5 + 2, none⟩ = false := (hel.2 2 (by simp)).2
  have k_240 : X_218.cell? ⟨g, q * 5 + 3, none⟩ = some (Value.int .i64 0) := (hel.2 3 (by simp)).1
  have k_241 : X_218.frozen? ⟨g, q * 5 + 3, none⟩ = false := (hel.2 3 (by simp)).2
  have k_242 : X_218.cell? ⟨g, q * 5 + 4, none⟩ = some (Value.int .i64 0) := (hel.2 4 (by simp)).1
  have k_243 : X_218.frozen? ⟨g, q * 5 + 4, none⟩ = false := (hel.2 4 (by simp)).2
  go_region
  clear hw1 hw2 Hw1 Hw2
  have hle2' := hle2.out
  have Ho0 := hid o0; clear o0
  have Ho6 := hid o6; clear o6
  go_wp2_with (fail)
  refine bodyPost_ret (v := .tuple #[.agg #[Value.slice (some ⟨g, 0, none⟩) bs.length c0, Value.slice p6 (ls.length - 1) c6], .int .i64 (8 * (q : Int) + gg), .bool true]) ?_ rfl ⟨_, _, by rw [HY.out], ?_⟩
  · simp [results, Try.results22, go_sem, hX_219, k_223, k_224, k_225, k_226, k_227, k_228, k_229, k_230, k_231, k_232, k_233, k_234, k_235, k_236, k_237, k_238, k_239, k_240, k_241, k_242, k_243]
  · rw [HY.out]
    have hle : _ := hle.out
    refine ⟨by unfold Blocks; rw [hle]; exact Flat.of_owns (owns_setCell (owns_setCell Ho0.out _ _ (by show X_2.heap.size < _; omega)) _ _ (by show X_2.heap.size < _; omega)), by unfold Ints; rw [hle2']; exact Flat.of_owns (owns_setCell (owns_setCell Ho6.out _ _ (by show X_2.heap.size < _; omega)) _ _ (by show X_2.heap.size < _; omega)), (Below.setCell (Below.setCell tt_222 (by show w.heap.size ≤ X_2.heap.size; omega) _) (by show w.heap.size ≤ X_2.heap.size; omega) _)⟩
end Go.Proofs.Ytiibpgbdnbpmoaa
