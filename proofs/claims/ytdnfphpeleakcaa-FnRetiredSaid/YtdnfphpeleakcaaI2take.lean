/- Chapter 2's program: Take. -/
import Derived.Test.YtdnfphpeleakcaaS2take
import Derived.Test.YtdnfphpeleakcaaOr3
import Derived.Test.YtdnfphpeleakcaaAt
import Derived.RegionTactic
import Derived.Deep.RegionLaw
namespace Go.Proofs.Ytdnfphpeleakcaa
set_option maxRecDepth 100000
open Go.RowKit Go.Proofs Go.Own
set_option linter.unusedVariables false
set_option linter.unusedSimpArgs false

set_option maxRecDepth 100000 in
set_option maxHeartbeats 4000000 in
theorem impl_Take (v0 : Value) (bs : List Block) (v1 : Value) (ls : List Int) (w : World) (h0 : Blocks w v0 bs) (hx0 : bs.length ≤ 1048576) (h1 : Ints w v1 ls) (hx1 : ls.length ≤ 1048576) :
    Calls Try.prog 15 #[.agg #[v0, v1]] w fun e w' => ∃ u0 u1, e = .returned (.tuple #[.agg #[u0, u1], .int .i64 (takeF ⟨bs, ls⟩).2.1, .bool (takeF ⟨bs, ls⟩).2.2]) ∧ w'.ownsRow w.heap.size 64 5 u0 (takeF ⟨bs, ls⟩).1.blocks.length ((takeF ⟨bs, ls⟩).1.blocks.flatMap Block.enc) ∧ (takeF ⟨bs, ls⟩).1.blocks.length ≤ 1099511627776 ∧ OwnsAt w' w.heap.size 3 1 u1 (takeF ⟨bs, ls⟩).1.list.length ((takeF ⟨bs, ls⟩).1.list.flatMap encI) ∧ (takeF ⟨bs, ls⟩).1.list.length ≤ 1099511627776 ∧ ((u0.ownBlock = none ∨ u0.ownBlock ≠ u1.ownBlock) ∧ (u1.ownBlock = none ∨ u1.ownBlock ≠ u0.ownBlock)) ∧ Below w.heap.size w w' := by
  have h00 := h0
  obtain ⟨a0, cap0, rfl, hl0, hm0⟩ := h0.form
  obtain ⟨a1, cap1, rfl, hl1, hm1⟩ := h1.form
  have tt_1 : Below w.heap.size w w := Below.refl _ _
  obtain ⟨X_2, hX_3⟩ : ∃ X, w.alloc (.cells #[Value.slice a0 bs.length cap0, Value.slice a1 ls.length cap1] 27) = X := ⟨_, rfl⟩
  have bX_4 : Below w.heap.size w X_2 := by rw [← hX_3]; exact (Below.refl _ _).alloc (Nat.le_refl _) _
  have zs_5 : w.heap.size + 1 ≤ X_2.heap.size := by rw [← hX_3]; simp
  have zz_6 := Below.size bX_4
  have tt_7 : Below w.heap.size w X_2 := Below.trans tt_1 (Below.mono bX_4 (Below.size tt_1))
  replace h0 := Flat.below h0 bX_4
  replace h1 := Flat.below h1 bX_4
  have bx_8 : BoxF X_2 w.heap.size [Value.slice a0 bs.length cap0, Value.slice a1 ls.length cap1] := by rw [← hX_3]; exact BoxF.alloc _ _ _
  obtain ⟨X_9, hX_10⟩ : ∃ X, X_2.alloc (.cells #[Value.slice none 0 0, Value.slice none 0 0] 27) = X := ⟨_, rfl⟩
  have bX_11 : Below X_2.heap.size X_2 X_9 := by rw [← hX_10]; exact (Below.refl _ _).alloc (Nat.le_refl _) _
  have zs_12 : X_2.heap.size + 1 ≤ X_9.heap.size := by rw [← hX_10]; simp
  have zz_13 := Below.size bX_11
  have tt_14 : Below w.heap.size w X_9 := Below.trans tt_7 (Below.mono bX_11 (Below.size tt_7))
  replace bx_8 := BoxF.below bx_8 bX_11
  replace h0 := Flat.below h0 bX_11
  replace h1 := Flat.below h1 bX_11
  have bx_15 : BoxF X_9 X_2.heap.size [Value.slice none 0 0, Value.slice none 0 0] := by rw [← hX_10]; exact BoxF.alloc _ _ _
  have k_16 : X_9.cell? ⟨w.heap.size, 0, none⟩ = some (Value.slice a0 bs.length cap0) := bx_8.1.2 0 (by simp)
  have k_17 : X_9.cell? ⟨w.heap.size, 1, none⟩ = some (Value.slice a1 ls.length cap1) := bx_8.1.2 1 (by simp)
  have k_18 : X_9.cell? ⟨X_2.heap.size, 0, none⟩ = some (Value.slice none 0 0) := bx_15.1.2 0 (by simp)
  have k_19 : X_9.cell? ⟨X_2.heap.size, 1, none⟩ = some (Value.slice none 0 0) := bx_15.1.2 1 (by simp)
  go_enter Try.func15, Try.ntmps15
  go_wp2_with fail
  clear hX_3 hX_10 k_16 k_17 k_18 k_19
  refine (impl_copyArena _ bs _ ls _ h0 hx0 h1 hx1).mono ?_
  rintro e w2 ⟨u0, u1, rfl, o0, o1, ap, b2⟩
  have lt0 := hid (World.ownsRow.lt o0)
  have lt1 := hid (World.ownsRow.lt o1)
  obtain ⟨p0, c0, rfl, hn0, hq0⟩ := owns_form o0
  obtain ⟨p1, c1, rfl, hn1, hq1⟩ := owns_form o1
  have zz_20 := Below.size b2
  have tt_21 : Below w.heap.size w w2 := Below.trans tt_14 (Below.mono b2 (Below.size tt_14))
  replace bx_8 := BoxF.below bx_8 b2
  replace bx_15 := BoxF.below bx_15 b2
  replace h0 := Flat.below h0 b2
  replace h1 := Flat.below h1 b2
  obtain ⟨X_22, hX_23⟩ : ∃ X, w2.alloc (.cells #[Value.slice p0 bs.length c0, Value.slice p1 ls.length c1] 27) = X := ⟨_, rfl⟩
  have bX_24 : Below w2.heap.size w2 X_22 := by rw [← hX_23]; exact (Below.refl _ _).alloc (Nat.le_refl _) _
  have zs_25 : w2.heap.size + 1 ≤ X_22.heap.size := by rw [← hX_23]; simp
  have zz_26 := Below.size bX_24
  have tt_27 : Below w.heap.size w X_22 := Below.trans tt_21 (Below.mono bX_24 (Below.size tt_21))
  replace bx_8 := BoxF.below bx_8 bX_24
  replace bx_15 := BoxF.below bx_15 bX_24
  replace o0 := owns_below o0 bX_24
  replace o1 := owns_below o1 bX_24
  replace h0 := Flat.below h0 bX_24
  replace h1 := Flat.below h1 bX_24
  have bx_28 : BoxF X_22 w2.heap.size [Value.slice p0 bs.length c0, Value.slice p1 ls.length c1] := by rw [← hX_23]; exact BoxF.alloc _ _ _
  have k_29 : X_22.cell? ⟨w.heap.size, 0, none⟩ = some (Value.slice a0 bs.length cap0) := bx_8.1.2 0 (by simp)
  have k_30 : X_22.cell? ⟨w.heap.size, 1, none⟩ = some (Value.slice a1 ls.length cap1) := bx_8.1.2 1 (by simp)
  have k_31 : X_22.cell? ⟨X_2.heap.size, 0, none⟩ = some (Value.slice none 0 0) := bx_15.1.2 0 (by simp)
  have k_32 : X_22.cell? ⟨X_2.heap.size, 1, none⟩ = some (Value.slice none 0 0) := bx_15.1.2 1 (by simp)
  have k_33 : X_22.cell? ⟨w2.heap.size, 0, none⟩ = some (Value.slice p0 bs.length c0) := bx_28.1.2 0 (by simp)
  have k_34 : X_22.cell? ⟨w2.heap.size, 1, none⟩ = some (Value.slice p1 ls.length c1) := bx_28.1.2 1 (by simp)
  go_wp2_with fail
  clear hX_23 k_29 k_30 k_31 k_32 k_33 k_34
  have Hh := hid h00; clear h00
  refine (impl_ArenaOk1 _ bs _ ls _ (Flat.of_owns o0) (Flat.of_owns o1)).mono ?_
  rintro e w3 ⟨rfl, b3⟩
  have zz_35 := Below.size b3
  have tt_36 : Below w.heap.size w w3 := Below.trans tt_27 (Below.mono b3 (Below.size tt_27))
  replace bx_8 := BoxF.below bx_8 b3
  replace bx_15 := BoxF.below bx_15 b3
  replace bx_28 := BoxF.below bx_28 b3
  replace o0 := owns_below o0 b3
  replace o1 := owns_below o1 b3
  replace h0 := Flat.below h0 b3
  replace h1 := Flat.below h1 b3
  cases hok : arenaOk ⟨bs, ls⟩
  case false =>
    have HN := hid (takeF_no hok)
    have k_1037 : w3.cell? ⟨w.heap.size, 0, none⟩ = some (Value.slice a0 bs.length cap0) := bx_8.1.2 0 (by simp)
    have k_1038 : w3.cell? ⟨w.heap.size, 1, none⟩ = some (Value.slice a1 ls.length cap1) := bx_8.1.2 1 (by simp)
    have k_1039 : w3.cell? ⟨X_2.heap.size, 0, none⟩ = some (Value.slice none 0 0) := bx_15.1.2 0 (by simp)
    have k_1040 : w3.frozen? ⟨X_2.heap.size, 0, none⟩ = false := bx_15.2 0 (by simp)
    have k_1041 : w3.cell? ⟨X_2.heap.size, 1, none⟩ = some (Value.slice none 0 0) := bx_15.1.2 1 (by simp)
    have k_1042 : w3.frozen? ⟨X_2.heap.size, 1, none⟩ = false := bx_15.2 1 (by simp)
    have k_1043 : w3.cell? ⟨w2.heap.size, 0, none⟩ = some (Value.slice p0 bs.length c0) := bx_28.1.2 0 (by simp)
    have k_1044 : w3.frozen? ⟨w2.heap.size, 0, none⟩ = false := bx_28.2 0 (by simp)
    have k_1045 : w3.cell? ⟨w2.heap.size, 1, none⟩ = some (Value.slice p1 ls.length c1) := bx_28.1.2 1 (by simp)
    have k_1046 : w3.frozen? ⟨w2.heap.size, 1, none⟩ = false := bx_28.2 1 (by simp)
    have Ho0 := hid o0; clear o0
    have Ho1 := hid o1; clear o1
    go_wp2_with (fail)
    refine bodyPost_ret (v := .tuple #[.agg #[Value.slice p0 bs.length c0, Value.slice p1 ls.length c1], .int .i64 (-1), .bool false]) ?_ rfl ⟨_, _, by rw [HN.out], ?_⟩
    · simp [results, Try.results15, go_sem, k_1037, k_1038, k_1039, k_1040, k_1041, k_1042, k_1043, k_1044, k_1045, k_1046]
    · rw [HN.out]
      exact ⟨by exact owns_mono (owns_setCell (owns_setCell Ho0.out _ _ (by show X_2.heap.size < _; omega)) _ _ (by show X_2.heap.size < _; omega)) (by omega), by simp; omega, OwnsAt.mono (OwnsAt.of_row (owns_setCell (owns_setCell Ho1.out _ _ (by show X_2.heap.size < _; omega)) _ _ (by show X_2.heap.size < _; omega))) (by omega), by simp; omega, ap, (Below.setCell (Below.setCell tt_36 (by show w.heap.size ≤ X_2.heap.size; omega) _) (by show w.heap.size ≤ X_2.heap.size; omega) _)⟩
  by_cases hls : ls.length = 0
  ·
    have HN := hid (takeF_nil (bs := bs) hls)
    have hle0 : ((ls.length : Int) == 0) = true := by rw [beq_iff_eq]; omega
    clear hls
    have k_1037 : w3.cell? ⟨w.heap.size, 0, none⟩ = some (Value.slice a0 bs.length cap0) := bx_8.1.2 0 (by simp)
    have k_1038 : w3.cell? ⟨w.heap.size, 1, none⟩ = some (Value.slice a1 ls.length cap1) := bx_8.1.2 1 (by simp)
    have k_1039 : w3.cell? ⟨X_2.heap.size, 0, none⟩ = some (Value.slice none 0 0) := bx_15.1.2 0 (by simp)
    have k_1040 : w3.frozen? ⟨X_2.heap.size, 0, none⟩ = false := bx_15.2 0 (by simp)
    have k_1041 : w3.cell? ⟨X_2.heap.size, 1, none⟩ = some (Value.slice none 0 0) := bx_15.1.2 1 (by simp)
    have k_1042 : w3.frozen? ⟨X_2.heap.size, 1, none⟩ = false := bx_15.2 1 (by simp)
    have k_1043 : w3.cell? ⟨w2.heap.size, 0, none⟩ = some (Value.slice p0 bs.length c0) := bx_28.1.2 0 (by simp)
    have k_1044 : w3.frozen? ⟨w2.heap.size, 0, none⟩ = false := bx_28.2 0 (by simp)
    have k_1045 : w3.cell? ⟨w2.heap.size, 1, none⟩ = some (Value.slice p1 ls.length c1) := bx_28.1.2 1 (by simp)
    have k_1046 : w3.frozen? ⟨w2.heap.size, 1, none⟩ = false := bx_28.2 1 (by simp)
    have Ho0 := hid o0; clear o0
    have Ho1 := hid o1; clear o1
    go_wp2_with (fail)
    refine bodyPost_ret (v := .tuple #[.agg #[Value.slice p0 bs.length c0, Value.slice p1 ls.length c1], .int .i64 (-1), .bool false]) ?_ rfl ⟨_, _, by rw [HN.out], ?_⟩
    · simp [results, Try.results15, go_sem, k_1037, k_1038, k_1039, k_1040, k_1041, k_1042, k_1043, k_1044, k_1045, k_1046]
    · rw [HN.out]
      exact ⟨by exact owns_mono (owns_setCell (owns_setCell Ho0.out _ _ (by show X_2.heap.size < _; omega)) _ _ (by show X_2.heap.size < _; omega)) (by omega), by simp; omega, OwnsAt.mono (OwnsAt.of_row (owns_setCell (owns_setCell Ho1.out _ _ (by show X_2.heap.size < _; omega)) _ _ (by show X_2.heap.size < _; omega))) (by omega), by simp; omega, ap, (Below.setCell (Below.setCell tt_36 (by show w.heap.size ≤ X_2.heap.size; omega) _) (by show w.heap.size ≤ X_2.heap.size; omega) _)⟩
  have hl0 : 0 < ls.length := by omega
  have hle0 : ((ls.length : Int) == 0) = false := by rw [beq_eq_false_iff_ne]; omega
  have hli : (0 : Int) < (ls.length : Int) := by omega
  obtain ⟨q, hq0, hqn, hlen24⟩ := take_at hok hl0
  obtain ⟨⟨gg, fr, x0, x1, x2⟩, ho⟩ : ∃ o, Hid (bs[q] = o) := ⟨_, hid rfl⟩
  have hgd := hid (show bs.getD q zeroB = ⟨gg, fr, x0, x1, x2⟩ by rw [List.getD, List.getElem?_eq_getElem hqn]; exact ho.out)
  have HY := hid (takeF_yes hok hl0 hq0 (by rw [hgd.out]))
  have hbk := arenaOk_block hok q hqn
  rw [ho.out] at hbk
  have hg1 : 0 ≤ gg ∧ gg ≤ 5 := by simp only [blockOk, Bool.and_eq_true, inB, decide_eq_true_eq] at hbk; exact hbk.1.1
  obtain ⟨hg1, hg2⟩ := hg1
  clear hbk hls
  have hs0 := hid (show (bs.flatMap Block.enc).set (q * 5) (.int .i64 gg) = (bs.set q ⟨gg, fr, x0, x1, x2⟩).flatMap Block.enc by rw [set_gen bs q gg hqn, hgd.out])
  have hle := hid (show (bs.set q (⟨gg, false, 0, 0, 0⟩ : Block)).length = bs.length by simp)
  have hle2 := hid (show (ls.drop 1).length = ls.length - 1 by simp)
  have hi1 : (0 : Int) ≤ (q : Int) := by omega
  have hi2 : (q : Int) < (bs.length : Int) := by omega
  obtain ⟨i0, hi, hz0, hz1, hz2⟩ := info_parts infoInt
  obtain ⟨g, cg, hv, _, _, hgb, hgs, _, hfr⟩ := owns_at o0 (by omega)
  obtain ⟨rfl, rfl⟩ : p0 = some ⟨g, 0, none⟩ ∧ c0 = cg := by simpa using hv
  obtain ⟨_, hgw⟩ := lt0.out g rfl
  have hel : CellsO w3 g (q * 5) [Value.int .i64 gg, Value.bool fr, Value.int .i64 x0, Value.int .i64 x1, Value.int .i64 x2] := CellsO.ofBlock o0 (q) hqn _ ho rfl
  clear hfr hv
  obtain ⟨g1, cg1, hv1, _, _, hgb1, hgs1, _, _⟩ := owns_at o1 hl0
  obtain ⟨rfl, rfl⟩ : p1 = some ⟨g1, 0, none⟩ ∧ c1 = cg1 := by simpa using hv1
  obtain ⟨_, hgw1⟩ := lt1.out g1 rfl
  have hel1 := CellsO.ofInts o1 0 hl0 (q : Int) (hid hq0) rfl
  obtain ⟨off1, hsl, o6⟩ := slice3_row Try.underlying25 hi hz1 o1 hl0
  have e6 : (ls.flatMap encI).drop 1 = (ls.drop 1).flatMap encI := by have := drop_flatMap encI 1 (fun _ => rfl) ls 1; simpa using this
  rw [e6] at o6
  have hgg : ¬ g = g1 := fun e => by rcases ap.1 with h | h <;> simp [Value.ownBlock, e] at h
  clear hv1 hq0 e6
  have k_37 : w3.cell? ⟨w.heap.size, 0, none⟩ = some (Value.slice a0 bs.length cap0) := bx_8.1.2 0 (by simp)
  have k_38 : w3.cell? ⟨w.heap.size, 1, none⟩ = some (Value.slice a1 ls.length cap1) := bx_8.1.2 1 (by simp)
  have k_39 : w3.cell? ⟨X_2.heap.size, 0, none⟩ = some (Value.slice none 0 0) := bx_15.1.2 0 (by simp)
  have k_40 : w3.frozen? ⟨X_2.heap.size, 0, none⟩ = false := bx_15.2 0 (by simp)
  have k_41 : w3.cell? ⟨X_2.heap.size, 1, none⟩ = some (Value.slice none 0 0) := bx_15.1.2 1 (by simp)
  have k_42 : w3.frozen? ⟨X_2.heap.size, 1, none⟩ = false := bx_15.2 1 (by simp)
  have k_43 : w3.cell? ⟨w2.heap.size, 0, none⟩ = some (Value.slice (some ⟨g, 0, none⟩) bs.length c0) := bx_28.1.2 0 (by simp)
  have k_44 : w3.frozen? ⟨w2.heap.size, 0, none⟩ = false := bx_28.2 0 (by simp)
  have k_45 : w3.cell? ⟨w2.heap.size, 1, none⟩ = some (Value.slice (some ⟨g1, 0, none⟩) ls.length c1) := bx_28.1.2 1 (by simp)
  have k_46 : w3.frozen? ⟨w2.heap.size, 1, none⟩ = false := bx_28.2 1 (by simp)
  have k_47 : w3.cell? ⟨g, q * 5, none⟩ = some (Value.int .i64 gg) := (hel.2 0 (by simp)).1
  have k_48 : w3.frozen? ⟨g, q * 5, none⟩ = false := (hel.2 0 (by simp)).2
  have k_49 : w3.cell? ⟨g, q * 5 + 1, none⟩ = some (Value.bool fr) := (hel.2 1 (by simp)).1
  have k_50 : w3.frozen? ⟨g, q * 5 + 1, none⟩ = false := (hel.2 1 (by simp)).2
  have k_51 : w3.cell? ⟨g, q * 5 + 2, none⟩ = some (Value.int .i64 x0) := (hel.2 2 (by simp)).1
  have k_52 : w3.frozen? ⟨g, q * 5 + 2, none⟩ = false := (hel.2 2 (by simp)).2
  have k_53 : w3.cell? ⟨g, q * 5 + 3, none⟩ = some (Value.int .i64 x1) := (hel.2 3 (by simp)).1
  have k_54 : w3.frozen? ⟨g, q * 5 + 3, none⟩ = false := (hel.2 3 (by simp)).2
  have k_55 : w3.cell? ⟨g, q * 5 + 4, none⟩ = some (Value.int .i64 x2) := (hel.2 4 (by simp)).1
  have k_56 : w3.frozen? ⟨g, q * 5 + 4, none⟩ = false := (hel.2 4 (by simp)).2
  have k_57 : w3.cell? ⟨g1, 0, none⟩ = some (Value.int .i64 (q : Int)) := (hel1.2 0 (by simp)).1
  have k_58 : w3.frozen? ⟨g1, 0, none⟩ = false := (hel1.2 0 (by simp)).2
  go_wp2
  clear k_37 k_38 k_39 k_40 k_41 k_42 k_43 k_44 k_45 k_46 k_47 k_48 k_49 k_50 k_51 k_52 k_53 k_54 k_55 k_56 k_57 k_58
  obtain ⟨X_59, hX_60⟩ : ∃ X, w3.drew = X := ⟨_, rfl⟩
  have bD_61 : Below w3.heap.size w3 X_59 := by rw [← hX_60]; exact (Below.refl _ _).drew
  have zz_62 := Below.size bD_61
  have tt_63 : Below w.heap.size w X_59 := Below.trans tt_36 (Below.mono bD_61 (Below.size tt_36))
  replace bx_8 := BoxF.below bx_8 bD_61
  replace bx_15 := BoxF.below bx_15 bD_61
  replace bx_28 := BoxF.below bx_28 bD_61
  replace hel := CellsO.below hel bD_61
  replace hel1 := CellsO.below hel1 bD_61
  replace o0 := owns_below o0 bD_61
  replace o6 := OwnsAt.below o6 bD_61
  replace h0 := Flat.below h0 bD_61
  replace h1 := Flat.below h1 bD_61
  have k_64 : X_59.cell? ⟨w.heap.size, 0, none⟩ = some (Value.slice a0 bs.length cap0) := bx_8.1.2 0 (by simp)
  have k_65 : X_59.cell? ⟨w.heap.size, 1, none⟩ = some (Value.slice a1 ls.length cap1) := bx_8.1.2 1 (by simp)
  have k_66 : X_59.cell? ⟨X_2.heap.size, 0, none⟩ = some (Value.slice none 0 0) := bx_15.1.2 0 (by simp)
  have k_67 : X_59.frozen? ⟨X_2.heap.size, 0, none⟩ = false := bx_15.2 0 (by simp)
  have k_68 : X_59.cell? ⟨X_2.heap.size, 1, none⟩ = some (Value.slice none 0 0) := bx_15.1.2 1 (by simp)
  have k_69 : X_59.frozen? ⟨X_2.heap.size, 1, none⟩ = false := bx_15.2 1 (by simp)
  have k_70 : X_59.cell? ⟨w2.heap.size, 0, none⟩ = some (Value.slice (some ⟨g, 0, none⟩) bs.length c0) := bx_28.1.2 0 (by simp)
  have k_71 : X_59.frozen? ⟨w2.heap.size, 0, none⟩ = false := bx_28.2 0 (by simp)
  have k_72 : X_59.cell? ⟨w2.heap.size, 1, none⟩ = some (Value.slice (some ⟨g1, 0, none⟩) ls.length c1) := bx_28.1.2 1 (by simp)
  have k_73 : X_59.frozen? ⟨w2.heap.size, 1, none⟩ = false := bx_28.2 1 (by simp)
  have k_74 : X_59.cell? ⟨g, q * 5, none⟩ = some (Value.int .i64 gg) := (hel.2 0 (by simp)).1
  have k_75 : X_59.frozen? ⟨g, q * 5, none⟩ = false := (hel.2 0 (by simp)).2
  have k_76 : X_59.cell? ⟨g, q * 5 + 1, none⟩ = some (Value.bool fr) := (hel.2 1 (by simp)).1
  have k_77 : X_59.frozen? ⟨g, q * 5 + 1, none⟩ = false := (hel.2 1 (by simp)).2
  have k_78 : X_59.cell? ⟨g, q * 5 + 2, none⟩ = some (Value.int .i64 x0) := (hel.2 2 (by simp)).1
  have k_79 : X_59.frozen? ⟨g, q * 5 + 2, none⟩ = false := (hel.2 2 (by simp)).2
  have k_80 : X_59.cell? ⟨g, q * 5 + 3, none⟩ = some (Value.int .i64 x1) := (hel.2 3 (by simp)).1
  have k_81 : X_59.frozen? ⟨g, q * 5 + 3, none⟩ = false := (hel.2 3 (by simp)).2
  have k_82 : X_59.cell? ⟨g, q * 5 + 4, none⟩ = some (Value.int .i64 x2) := (hel.2 4 (by simp)).1
  have k_83 : X_59.frozen? ⟨g, q * 5 + 4, none⟩ = false := (hel.2 4 (by simp)).2
  have k_84 : X_59.cell? ⟨g1, 0, none⟩ = some (Value.int .i64 (q : Int)) := (hel1.2 0 (by simp)).1
  have k_85 : X_59.frozen? ⟨g1, 0, none⟩ = false := (hel1.2 0 (by simp)).2
  go_region
  obtain ⟨X_86, hX_87⟩ : ∃ X, X_59.setCell ⟨w2.heap.size, 1, none⟩ (Value.slice (some ⟨g1, off1, none⟩) (ls.length - 1) (ls.length - 1)) = X := ⟨_, rfl⟩
  have gr_88 : X_59.grownBy X_86 (some (w2.heap.size)) := by rw [← hX_87]; exact grownBy_setCell _ _ _
  have zz_89 : X_59.heap.size ≤ X_86.heap.size := by rw [← hX_87]; simp [World.setCell]
  have tt_90 : Below w.heap.size w X_86 := by rw [← hX_87]; exact Below.setCell tt_63 (by show w.heap.size ≤ w2.heap.size; omega) _
  replace o0 := World.ownsRow.kept o0 gr_88 (apart_blk lt0 (by omega))
  replace o6 := OwnsAt.kept o6 gr_88 (apart_blk lt1 (by omega))
  replace bx_8 : BoxF X_86 (w.heap.size) [Value.slice a0 bs.length cap0, Value.slice a1 ls.length cap1] := by rw [← hX_87]; exact BoxF.other bx_8 _ _ (by show ¬ w2.heap.size = w.heap.size; omega)
  replace bx_15 : BoxF X_86 (X_2.heap.size) [Value.slice none 0 0, Value.slice none 0 0] := by rw [← hX_87]; exact BoxF.other bx_15 _ _ (by show ¬ w2.heap.size = X_2.heap.size; omega)
  replace bx_28 : BoxF X_86 w2.heap.size [Value.slice (some ⟨g, 0, none⟩) bs.length c0, Value.slice (some ⟨g1, off1, none⟩) (ls.length - 1) (ls.length - 1)] := by rw [← hX_87]; exact BoxF.set bx_28 1 (by simp) _
  replace hel : CellsO X_86 (g) (q * 5) [Value.int .i64 gg, Value.bool fr, Value.int .i64 x0, Value.int .i64 x1, Value.int .i64 x2] := by rw [← hX_87]; exact CellsO.other hel _ _ (by show ¬ w2.heap.size = g; omega)
  replace hel1 : CellsO X_86 (g1) (0) [Value.int .i64 (q : Int)] := by rw [← hX_87]; exact CellsO.other hel1 _ _ (by show ¬ w2.heap.size = g1; omega)
  have k_91 : X_86.cell? ⟨w.heap.size, 0, none⟩ = some (Value.slice a0 bs.length cap0) := bx_8.1.2 0 (by simp)
  have k_92 : X_86.cell? ⟨w.heap.size, 1, none⟩ = some (Value.slice a1 ls.length cap1) := bx_8.1.2 1 (by simp)
  have k_93 : X_86.cell? ⟨X_2.heap.size, 0, none⟩ = some (Value.slice none 0 0) := bx_15.1.2 0 (by simp)
  have k_94 : X_86.frozen? ⟨X_2.heap.size, 0, none⟩ = false := bx_15.2 0 (by simp)
  have k_95 : X_86.cell? ⟨X_2.heap.size, 1, none⟩ = some (Value.slice none 0 0) := bx_15.1.2 1 (by simp)
  have k_96 : X_86.frozen? ⟨X_2.heap.size, 1, none⟩ = false := bx_15.2 1 (by simp)
  have k_97 : X_86.cell? ⟨w2.heap.size, 0, none⟩ = some (Value.slice (some ⟨g, 0, none⟩) bs.length c0) := bx_28.1.2 0 (by simp)
  have k_98 : X_86.frozen? ⟨w2.heap.size, 0, none⟩ = false := bx_28.2 0 (by simp)
  have k_99 : X_86.cell? ⟨w2.heap.size, 1, none⟩ = some (Value.slice (some ⟨g1, off1, none⟩) (ls.length - 1) (ls.length - 1)) := bx_28.1.2 1 (by simp)
  have k_100 : X_86.frozen? ⟨w2.heap.size, 1, none⟩ = false := bx_28.2 1 (by simp)
  have k_101 : X_86.cell? ⟨g, q * 5, none⟩ = some (Value.int .i64 gg) := (hel.2 0 (by simp)).1
  have k_102 : X_86.frozen? ⟨g, q * 5, none⟩ = false := (hel.2 0 (by simp)).2
  have k_103 : X_86.cell? ⟨g, q * 5 + 1, none⟩ = some (Value.bool fr) := (hel.2 1 (by simp)).1
  have k_104 : X_86.frozen? ⟨g, q * 5 + 1, none⟩ = false := (hel.2 1 (by simp)).2
  have k_105 : X_86.cell? ⟨g, q * 5 + 2, none⟩ = some (Value.int .i64 x0) := (hel.2 2 (by simp)).1
  have k_106 : X_86.frozen? ⟨g, q * 5 + 2, none⟩ = false := (hel.2 2 (by simp)).2
  have k_107 : X_86.cell? ⟨g, q * 5 + 3, none⟩ = some (Value.int .i64 x1) := (hel.2 3 (by simp)).1
  have k_108 : X_86.frozen? ⟨g, q * 5 + 3, none⟩ = false := (hel.2 3 (by simp)).2
  have k_109 : X_86.cell? ⟨g, q * 5 + 4, none⟩ = some (Value.int .i64 x2) := (hel.2 4 (by simp)).1
  have k_110 : X_86.frozen? ⟨g, q * 5 + 4, none⟩ = false := (hel.2 4 (by simp)).2
  have k_111 : X_86.cell? ⟨g1, 0, none⟩ = some (Value.int .i64 (q : Int)) := (hel1.2 0 (by simp)).1
  have k_112 : X_86.frozen? ⟨g1, 0, none⟩ = false := (hel1.2 0 (by simp)).2
  obtain ⟨X_113, hX_114⟩ : ∃ X, X_86.setCell ⟨g, q * 5, none⟩ (Value.int .i64 gg) = X := ⟨_, rfl⟩
  have gr_115 : X_86.grownBy X_113 (some (g)) := by rw [← hX_114]; exact (World.ownsRow.stored o0 (q * 5) (Value.int .i64 gg)).2
  have zz_116 : X_86.heap.size ≤ X_113.heap.size := by rw [← hX_114]; simp [World.setCell]
  have tt_117 : Below w.heap.size w X_113 := by rw [← hX_114]; exact Below.setCell tt_90 (by show w.heap.size ≤ g; omega) _
  replace o0 := owns_put o0 (q * 5) (Value.int .i64 gg)
  rw [hX_114] at o0
  replace o6 := OwnsAt.kept o6 gr_115 ap.2
  rw [hs0.out] at o0
  replace bx_8 : BoxF X_113 (w.heap.size) [Value.slice a0 bs.length cap0, Value.slice a1 ls.length cap1] := by rw [← hX_114]; exact BoxF.other bx_8 _ _ (by show ¬ g = w.heap.size; omega)
  replace bx_15 : BoxF X_113 (X_2.heap.size) [Value.slice none 0 0, Value.slice none 0 0] := by rw [← hX_114]; exact BoxF.other bx_15 _ _ (by show ¬ g = X_2.heap.size; omega)
  replace bx_28 : BoxF X_113 (w2.heap.size) [Value.slice (some ⟨g, 0, none⟩) bs.length c0, Value.slice (some ⟨g1, off1, none⟩) (ls.length - 1) (ls.length - 1)] := by rw [← hX_114]; exact BoxF.other bx_28 _ _ (by show ¬ g = w2.heap.size; omega)
  replace hel : CellsO X_113 (g) (q * 5) [Value.int .i64 gg, Value.bool fr, Value.int .i64 x0, Value.int .i64 x1, Value.int .i64 x2] := by rw [← hX_114]; exact CellsO.set hel 0 (by simp) _
  replace hel1 : CellsO X_113 (g1) (0) [Value.int .i64 (q : Int)] := by rw [← hX_114]; exact CellsO.other hel1 _ _ (by show ¬ g = g1; omega)
  have k_118 : X_113.cell? ⟨g, q * 5, none⟩ = some (Value.int .i64 gg) := (hel.2 0 (by simp)).1
  have k_119 : X_113.frozen? ⟨g, q * 5, none⟩ = false := (hel.2 0 (by simp)).2
  have k_120 : X_113.cell? ⟨g, q * 5 + 1, none⟩ = some (Value.bool fr) := (hel.2 1 (by simp)).1
  have k_121 : X_113.frozen? ⟨g, q * 5 + 1, none⟩ = false := (hel.2 1 (by simp)).2
  have k_122 : X_113.cell? ⟨g, q * 5 + 2, none⟩ = some (Value.int .i64 x0) := (hel.2 2 (by simp)).1
  have k_123 : X_113.frozen? ⟨g, q * 5 + 2, none⟩ = false := (hel.2 2 (by simp)).2
  have k_124 : X_113.cell? ⟨g, q * 5 + 3, none⟩ = some (Value.int .i64 x1) := (hel.2 3 (by simp)).1
  have k_125 : X_113.frozen? ⟨g, q * 5 + 3, none⟩ = false := (hel.2 3 (by simp)).2
  have k_126 : X_113.cell? ⟨g, q * 5 + 4, none⟩ = some (Value.int .i64 x2) := (hel.2 4 (by simp)).1
  have k_127 : X_113.frozen? ⟨g, q * 5 + 4, none⟩ = false := (hel.2 4 (by simp)).2
  obtain ⟨X_128, hX_129⟩ : ∃ X, X_113.setCell ⟨g, q * 5 + 1, none⟩ (Value.bool false) = X := ⟨_, rfl⟩
  have gr_130 : X_113.grownBy X_128 (some (g)) := by rw [← hX_129]; exact (World.ownsRow.stored o0 (q * 5 + 1) (Value.bool false)).2
  have zz_131 : X_113.heap.size ≤ X_128.heap.size := by rw [← hX_129]; simp [World.setCell]
  have tt_132 : Below w.heap.size w X_128 := by rw [← hX_129]; exact Below.setCell tt_117 (by show w.heap.size ≤ g; omega) _
  replace o0 := owns_put o0 (q * 5 + 1) (Value.bool false)
  rw [hX_129] at o0
  replace o6 := OwnsAt.kept o6 gr_130 ap.2
  rw [set2_free bs q _ hqn false] at o0
  replace bx_8 : BoxF X_128 (w.heap.size) [Value.slice a0 bs.length cap0, Value.slice a1 ls.length cap1] := by rw [← hX_129]; exact BoxF.other bx_8 _ _ (by show ¬ g = w.heap.size; omega)
  replace bx_15 : BoxF X_128 (X_2.heap.size) [Value.slice none 0 0, Value.slice none 0 0] := by rw [← hX_129]; exact BoxF.other bx_15 _ _ (by show ¬ g = X_2.heap.size; omega)
  replace bx_28 : BoxF X_128 (w2.heap.size) [Value.slice (some ⟨g, 0, none⟩) bs.length c0, Value.slice (some ⟨g1, off1, none⟩) (ls.length - 1) (ls.length - 1)] := by rw [← hX_129]; exact BoxF.other bx_28 _ _ (by show ¬ g = w2.heap.size; omega)
  replace hel : CellsO X_128 (g) (q * 5) [Value.int .i64 gg, Value.bool false, Value.int .i64 x0, Value.int .i64 x1, Value.int .i64 x2] := by rw [← hX_129]; exact CellsO.set hel 1 (by simp) _
  replace hel1 : CellsO X_128 (g1) (0) [Value.int .i64 (q : Int)] := by rw [← hX_129]; exact CellsO.other hel1 _ _ (by show ¬ g = g1; omega)
  have k_133 : X_128.cell? ⟨g, q * 5, none⟩ = some (Value.int .i64 gg) := (hel.2 0 (by simp)).1
  have k_134 : X_128.frozen? ⟨g, q * 5, none⟩ = false := (hel.2 0 (by simp)).2
  have k_135 : X_128.cell? ⟨g, q * 5 + 1, none⟩ = some (Value.bool false) := (hel.2 1 (by simp)).1
  have k_136 : X_128.frozen? ⟨g, q * 5 + 1, none⟩ = false := (hel.2 1 (by simp)).2
  have k_137 : X_128.cell? ⟨g, q * 5 + 2, none⟩ = some (Value.int .i64 x0) := (hel.2 2 (by simp)).1
  have k_138 : X_128.frozen? ⟨g, q * 5 + 2, none⟩ = false := (hel.2 2 (by simp)).2
  have k_139 : X_128.cell? ⟨g, q * 5 + 3, none⟩ = some (Value.int .i64 x1) := (hel.2 3 (by simp)).1
  have k_140 : X_128.frozen? ⟨g, q * 5 + 3, none⟩ = false := (hel.2 3 (by simp)).2
  have k_141 : X_128.cell? ⟨g, q * 5 + 4, none⟩ = some (Value.int .i64 x2) := (hel.2 4 (by simp)).1
  have k_142 : X_128.frozen? ⟨g, q * 5 + 4, none⟩ = false := (hel.2 4 (by simp)).2
  obtain ⟨X_143, hX_144⟩ : ∃ X, X_128.setCell ⟨g, q * 5 + 2, none⟩ (Value.int .i64 0) = X := ⟨_, rfl⟩
  have gr_145 : X_128.grownBy X_143 (some (g)) := by rw [← hX_144]; exact (World.ownsRow.stored o0 (q * 5 + 2) (Value.int .i64 0)).2
  have zz_146 : X_128.heap.size ≤ X_143.heap.size := by rw [← hX_144]; simp [World.setCell]
  have tt_147 : Below w.heap.size w X_143 := by rw [← hX_144]; exact Below.setCell tt_132 (by show w.heap.size ≤ g; omega) _
  replace o0 := owns_put o0 (q * 5 + 2) (Value.int .i64 0)
  rw [hX_144] at o0
  replace o6 := OwnsAt.kept o6 gr_145 ap.2
  rw [set2_w0 bs q _ hqn 0] at o0
  replace bx_8 : BoxF X_143 (w.heap.size) [Value.slice a0 bs.length cap0, Value.slice a1 ls.length cap1] := by rw [← hX_144]; exact BoxF.other bx_8 _ _ (by show ¬ g = w.heap.size; omega)
  replace bx_15 : BoxF X_143 (X_2.heap.size) [Value.slice none 0 0, Value.slice none 0 0] := by rw [← hX_144]; exact BoxF.other bx_15 _ _ (by show ¬ g = X_2.heap.size; omega)
  replace bx_28 : BoxF X_143 (w2.heap.size) [Value.slice (some ⟨g, 0, none⟩) bs.length c0, Value.slice (some ⟨g1, off1, none⟩) (ls.length - 1) (ls.length - 1)] := by rw [← hX_144]; exact BoxF.other bx_28 _ _ (by show ¬ g = w2.heap.size; omega)
  replace hel : CellsO X_143 (g) (q * 5) [Value.int .i64 gg, Value.bool false, Value.int .i64 0, Value.int .i64 x1, Value.int .i64 x2] := by rw [← hX_144]; exact CellsO.set hel 2 (by simp) _
  replace hel1 : CellsO X_143 (g1) (0) [Value.int .i64 (q : Int)] := by rw [← hX_144]; exact CellsO.other hel1 _ _ (by show ¬ g = g1; omega)
  have k_148 : X_143.cell? ⟨g, q * 5, none⟩ = some (Value.int .i64 gg) := (hel.2 0 (by simp)).1
  have k_149 : X_143.frozen? ⟨g, q * 5, none⟩ = false := (hel.2 0 (by simp)).2
  have k_150 : X_143.cell? ⟨g, q * 5 + 1, none⟩ = some (Value.bool false) := (hel.2 1 (by simp)).1
  have k_151 : X_143.frozen? ⟨g, q * 5 + 1, none⟩ = false := (hel.2 1 (by simp)).2
  have k_152 : X_143.cell? ⟨g, q * 5 + 2, none⟩ = some (Value.int .i64 0) := (hel.2 2 (by simp)).1
  have k_153 : X_143.frozen? ⟨g, q * 5 + 2, none⟩ = false := (hel.2 2 (by simp)).2
  have k_154 : X_143.cell? ⟨g, q * 5 + 3, none⟩ = some (Value.int .i64 x1) := (hel.2 3 (by simp)).1
  have k_155 : X_143.frozen? ⟨g, q * 5 + 3, none⟩ = false := (hel.2 3 (by simp)).2
  have k_156 : X_143.cell? ⟨g, q * 5 + 4, none⟩ = some (Value.int .i64 x2) := (hel.2 4 (by simp)).1
  have k_157 : X_143.frozen? ⟨g, q * 5 + 4, none⟩ = false := (hel.2 4 (by simp)).2
  obtain ⟨X_158, hX_159⟩ : ∃ X, X_143.setCell ⟨g, q * 5 + 3, none⟩ (Value.int .i64 0) = X := ⟨_, rfl⟩
  have gr_160 : X_143.grownBy X_158 (some (g)) := by rw [← hX_159]; exact (World.ownsRow.stored o0 (q * 5 + 3) (Value.int .i64 0)).2
  have zz_161 : X_143.heap.size ≤ X_158.heap.size := by rw [← hX_159]; simp [World.setCell]
  have tt_162 : Below w.heap.size w X_158 := by rw [← hX_159]; exact Below.setCell tt_147 (by show w.heap.size ≤ g; omega) _
  replace o0 := owns_put o0 (q * 5 + 3) (Value.int .i64 0)
  rw [hX_159] at o0
  replace o6 := OwnsAt.kept o6 gr_160 ap.2
  rw [set2_w1 bs q _ hqn 0] at o0
  replace bx_8 : BoxF X_158 (w.heap.size) [Value.slice a0 bs.length cap0, Value.slice a1 ls.length cap1] := by rw [← hX_159]; exact BoxF.other bx_8 _ _ (by show ¬ g = w.heap.size; omega)
  replace bx_15 : BoxF X_158 (X_2.heap.size) [Value.slice none 0 0, Value.slice none 0 0] := by rw [← hX_159]; exact BoxF.other bx_15 _ _ (by show ¬ g = X_2.heap.size; omega)
  replace bx_28 : BoxF X_158 (w2.heap.size) [Value.slice (some ⟨g, 0, none⟩) bs.length c0, Value.slice (some ⟨g1, off1, none⟩) (ls.length - 1) (ls.length - 1)] := by rw [← hX_159]; exact BoxF.other bx_28 _ _ (by show ¬ g = w2.heap.size; omega)
  replace hel : CellsO X_158 (g) (q * 5) [Value.int .i64 gg, Value.bool false, Value.int .i64 0, Value.int .i64 0, Value.int .i64 x2] := by rw [← hX_159]; exact CellsO.set hel 3 (by simp) _
  replace hel1 : CellsO X_158 (g1) (0) [Value.int .i64 (q : Int)] := by rw [← hX_159]; exact CellsO.other hel1 _ _ (by show ¬ g = g1; omega)
  have k_163 : X_158.cell? ⟨g, q * 5, none⟩ = some (Value.int .i64 gg) := (hel.2 0 (by simp)).1
  have k_164 : X_158.frozen? ⟨g, q * 5, none⟩ = false := (hel.2 0 (by simp)).2
  have k_165 : X_158.cell? ⟨g, q * 5 + 1, none⟩ = some (Value.bool false) := (hel.2 1 (by simp)).1
  have k_166 : X_158.frozen? ⟨g, q * 5 + 1, none⟩ = false := (hel.2 1 (by simp)).2
  have k_167 : X_158.cell? ⟨g, q * 5 + 2, none⟩ = some (Value.int .i64 0) := (hel.2 2 (by simp)).1
  have k_168 : X_158.frozen? ⟨g, q * 5 + 2, none⟩ = false := (hel.2 2 (by simp)).2
  have k_169 : X_158.cell? ⟨g, q * 5 + 3, none⟩ = some (Value.int .i64 0) := (hel.2 3 (by simp)).1
  have k_170 : X_158.frozen? ⟨g, q * 5 + 3, none⟩ = false := (hel.2 3 (by simp)).2
  have k_171 : X_158.cell? ⟨g, q * 5 + 4, none⟩ = some (Value.int .i64 x2) := (hel.2 4 (by simp)).1
  have k_172 : X_158.frozen? ⟨g, q * 5 + 4, none⟩ = false := (hel.2 4 (by simp)).2
  obtain ⟨X_173, hX_174⟩ : ∃ X, X_158.setCell ⟨g, q * 5 + 4, none⟩ (Value.int .i64 0) = X := ⟨_, rfl⟩
  have gr_175 : X_158.grownBy X_173 (some (g)) := by rw [← hX_174]; exact (World.ownsRow.stored o0 (q * 5 + 4) (Value.int .i64 0)).2
  have zz_176 : X_158.heap.size ≤ X_173.heap.size := by rw [← hX_174]; simp [World.setCell]
  have tt_177 : Below w.heap.size w X_173 := by rw [← hX_174]; exact Below.setCell tt_162 (by show w.heap.size ≤ g; omega) _
  replace o0 := owns_put o0 (q * 5 + 4) (Value.int .i64 0)
  rw [hX_174] at o0
  replace o6 := OwnsAt.kept o6 gr_175 ap.2
  rw [set2_w2 bs q _ hqn 0] at o0
  replace bx_8 : BoxF X_173 (w.heap.size) [Value.slice a0 bs.length cap0, Value.slice a1 ls.length cap1] := by rw [← hX_174]; exact BoxF.other bx_8 _ _ (by show ¬ g = w.heap.size; omega)
  replace bx_15 : BoxF X_173 (X_2.heap.size) [Value.slice none 0 0, Value.slice none 0 0] := by rw [← hX_174]; exact BoxF.other bx_15 _ _ (by show ¬ g = X_2.heap.size; omega)
  replace bx_28 : BoxF X_173 (w2.heap.size) [Value.slice (some ⟨g, 0, none⟩) bs.length c0, Value.slice (some ⟨g1, off1, none⟩) (ls.length - 1) (ls.length - 1)] := by rw [← hX_174]; exact BoxF.other bx_28 _ _ (by show ¬ g = w2.heap.size; omega)
  replace hel : CellsO X_173 (g) (q * 5) [Value.int .i64 gg, Value.bool false, Value.int .i64 0, Value.int .i64 0, Value.int .i64 0] := by rw [← hX_174]; exact CellsO.set hel 4 (by simp) _
  replace hel1 : CellsO X_173 (g1) (0) [Value.int .i64 (q : Int)] := by rw [← hX_174]; exact CellsO.other hel1 _ _ (by show ¬ g = g1; omega)
  have k_178 : X_173.cell? ⟨w.heap.size, 0, none⟩ = some (Value.slice a0 bs.length cap0) := bx_8.1.2 0 (by simp)
  have k_179 : X_173.cell? ⟨w.heap.size, 1, none⟩ = some (Value.slice a1 ls.length cap1) := bx_8.1.2 1 (by simp)
  have k_180 : X_173.cell? ⟨X_2.heap.size, 0, none⟩ = some (Value.slice none 0 0) := bx_15.1.2 0 (by simp)
  have k_181 : X_173.frozen? ⟨X_2.heap.size, 0, none⟩ = false := bx_15.2 0 (by simp)
  have k_182 : X_173.cell? ⟨X_2.heap.size, 1, none⟩ = some (Value.slice none 0 0) := bx_15.1.2 1 (by simp)
  have k_183 : X_173.frozen? ⟨X_2.heap.size, 1, none⟩ = false := bx_15.2 1 (by simp)
  have k_184 : X_173.cell? ⟨w2.heap.size, 0, none⟩ = some (Value.slice (some ⟨g, 0, none⟩) bs.length c0) := bx_28.1.2 0 (by simp)
  have k_185 : X_173.frozen? ⟨w2.heap.size, 0, none⟩ = false := bx_28.2 0 (by simp)
  have k_186 : X_173.cell? ⟨w2.heap.size, 1, none⟩ = some (Value.slice (some ⟨g1, off1, none⟩) (ls.length - 1) (ls.length - 1)) := bx_28.1.2 1 (by simp)
  have k_187 : X_173.frozen? ⟨w2.heap.size, 1, none⟩ = false := bx_28.2 1 (by simp)
  have k_188 : X_173.cell? ⟨g, q * 5, none⟩ = some (Value.int .i64 gg) := (hel.2 0 (by simp)).1
  have k_189 : X_173.frozen? ⟨g, q * 5, none⟩ = false := (hel.2 0 (by simp)).2
  have k_190 : X_173.cell? ⟨g, q * 5 + 1, none⟩ = some (Value.bool false) := (hel.2 1 (by simp)).1
  have k_191 : X_173.frozen? ⟨g, q * 5 + 1, none⟩ = false := (hel.2 1 (by simp)).2
  have k_192 : X_173.cell? ⟨g, q * 5 + 2, none⟩ = some (Value.int .i64 0) := (hel.2 2 (by simp)).1
  have k_193 : X_173.frozen? ⟨g, q * 5 + 2, none⟩ = false := (hel.2 2 (by simp)).2
  have k_194 : X_173.cell? ⟨g, q * 5 + 3, none⟩ = some (Value.int .i64 0) := (hel.2 3 (by simp)).1
  have k_195 : X_173.frozen? ⟨g, q * 5 + 3, none⟩ = false := (hel.2 3 (by simp)).2
  have k_196 : X_173.cell? ⟨g, q * 5 + 4, none⟩ = some (Value.int .i64 0) := (hel.2 4 (by simp)).1
  have k_197 : X_173.frozen? ⟨g, q * 5 + 4, none⟩ = false := (hel.2 4 (by simp)).2
  have k_198 : X_173.cell? ⟨g1, 0, none⟩ = some (Value.int .i64 (q : Int)) := (hel1.2 0 (by simp)).1
  have k_199 : X_173.frozen? ⟨g1, 0, none⟩ = false := (hel1.2 0 (by simp)).2
  go_wp2
  clear hX_60 k_64 k_65 k_66 k_67 k_68 k_69 k_70 k_71 k_72 k_73 k_74 k_75 k_76 k_77 k_78 k_79 k_80 k_81 k_82 k_83 k_84 k_85 hX_87 k_91 k_92 k_93 k_94 k_95 k_96 k_97 k_98 k_99 k_100 k_101 k_102 k_103 k_104 k_105 k_106 k_107 k_108 k_109 k_110 k_111 k_112 hX_114 k_118 k_119 k_120 k_121 k_122 k_123 k_124 k_125 k_126 k_127 hX_129 k_133 k_134 k_135 k_136 k_137 k_138 k_139 k_140 k_141 k_142 hX_144 k_148 k_149 k_150 k_151 k_152 k_153 k_154 k_155 k_156 k_157 hX_159 k_163 k_164 k_165 k_166 k_167 k_168 k_169 k_170 k_171 k_172 hX_174 k_178 k_179 k_180 k_181 k_182 k_183 k_184 k_185 k_186 k_187 k_188 k_189 k_190 k_191 k_192 k_193 k_194 k_195 k_196 k_197 k_198 k_199
  obtain ⟨X_200, hX_201⟩ : ∃ X, X_173.drew = X := ⟨_, rfl⟩
  have bD_202 : Below X_173.heap.size X_173 X_200 := by rw [← hX_201]; exact (Below.refl _ _).drew
  have zz_203 := Below.size bD_202
  have tt_204 : Below w.heap.size w X_200 := Below.trans tt_177 (Below.mono bD_202 (Below.size tt_177))
  replace bx_8 := BoxF.below bx_8 bD_202
  replace bx_15 := BoxF.below bx_15 bD_202
  replace bx_28 := BoxF.below bx_28 bD_202
  replace hel := CellsO.below hel bD_202
  replace hel1 := CellsO.below hel1 bD_202
  replace o0 := owns_below o0 bD_202
  replace o6 := OwnsAt.below o6 bD_202
  have k_205 : X_200.cell? ⟨w.heap.size, 0, none⟩ = some (Value.slice a0 bs.length cap0) := bx_8.1.2 0 (by simp)
  have k_206 : X_200.cell? ⟨w.heap.size, 1, none⟩ = some (Value.slice a1 ls.length cap1) := bx_8.1.2 1 (by simp)
  have k_207 : X_200.cell? ⟨X_2.heap.size, 0, none⟩ = some (Value.slice none 0 0) := bx_15.1.2 0 (by simp)
  have k_208 : X_200.frozen? ⟨X_2.heap.size, 0, none⟩ = false := bx_15.2 0 (by simp)
  have k_209 : X_200.cell? ⟨X_2.heap.size, 1, none⟩ = some (Value.slice none 0 0) := bx_15.1.2 1 (by simp)
  have k_210 : X_200.frozen? ⟨X_2.heap.size, 1, none⟩ = false := bx_15.2 1 (by simp)
  have k_211 : X_200.cell? ⟨w2.heap.size, 0, none⟩ = some (Value.slice (some ⟨g, 0, none⟩) bs.length c0) := bx_28.1.2 0 (by simp)
  have k_212 : X_200.frozen? ⟨w2.heap.size, 0, none⟩ = false := bx_28.2 0 (by simp)
  have k_213 : X_200.cell? ⟨w2.heap.size, 1, none⟩ = some (Value.slice (some ⟨g1, off1, none⟩) (ls.length - 1) (ls.length - 1)) := bx_28.1.2 1 (by simp)
  have k_214 : X_200.frozen? ⟨w2.heap.size, 1, none⟩ = false := bx_28.2 1 (by simp)
  have k_215 : X_200.cell? ⟨g, q * 5, none⟩ = some (Value.int .i64 gg) := (hel.2 0 (by simp)).1
  have k_216 : X_200.frozen? ⟨g, q * 5, none⟩ = false := (hel.2 0 (by simp)).2
  have k_217 : X_200.cell? ⟨g, q * 5 + 1, none⟩ = some (Value.bool false) := (hel.2 1 (by simp)).1
  have k_218 : X_200.frozen? ⟨g, q * 5 + 1, none⟩ = false := (hel.2 1 (by simp)).2
  have k_219 : X_200.cell? ⟨g, q * 5 + 2, none⟩ = some (Value.int .i64 0) := (hel.2 2 (by simp)).1
  have k_220 : X_200.frozen? ⟨g, q * 5 + 2, none⟩ = false := (hel.2 2 (by simp)).2
  have k_221 : X_200.cell? ⟨g, q * 5 + 3, none⟩ = some (Value.int .i64 0) := (hel.2 3 (by simp)).1
  have k_222 : X_200.frozen? ⟨g, q * 5 + 3, none⟩ = false := (hel.2 3 (by simp)).2
  have k_223 : X_200.cell? ⟨g, q * 5 + 4, none⟩ = some (Value.int .i64 0) := (hel.2 4 (by simp)).1
  have k_224 : X_200.frozen? ⟨g, q * 5 + 4, none⟩ = false := (hel.2 4 (by simp)).2
  have k_225 : X_200.cell? ⟨g1, 0, none⟩ = some (Value.int .i64 (q : Int)) := (hel1.2 0 (by simp)).1
  have k_226 : X_200.frozen? ⟨g1, 0, none⟩ = false := (hel1.2 0 (by simp)).2
  go_region_law (first | (go_simp; go_at_call 40; refine (impl_handleOf q gg _ (by omega) (by omega) (by omega)).mono ?_; rintro e w' ⟨rfl, rfl⟩))
  all_goals
    have hle2' := hle2.out
    have Ho0 := hid o0; clear o0
    have Ho6 := hid o6; clear o6
    go_wp2_with (fail)
    refine bodyPost_ret (v := .tuple #[.agg #[Value.slice (some ⟨g, 0, none⟩) bs.length c0, Value.slice (some ⟨g1, off1, none⟩) (ls.length - 1) (ls.length - 1)], .int .i64 (8 * (q : Int) + gg), .bool true]) ?_ rfl ⟨_, _, by rw [HY.out], ?_⟩
    · simp [results, Try.results15, go_sem, hX_201, k_205, k_206, k_207, k_208, k_209, k_210, k_211, k_212, k_213, k_214, k_215, k_216, k_217, k_218, k_219, k_220, k_221, k_222, k_223, k_224, k_225, k_226]
    · rw [HY.out]
      have hle : _ := hle.out
      exact ⟨by rw [hle]; exact owns_mono (owns_setCell (owns_setCell Ho0.out _ _ (by show X_2.heap.size < _; omega)) _ _ (by show X_2.heap.size < _; omega)) (by omega), by simp; omega, by rw [hle2']; exact OwnsAt.mono (OwnsAt.setCell (OwnsAt.setCell Ho6.out _ _ (by show X_2.heap.size < _; omega)) _ _ (by show X_2.heap.size < _; omega)) (by omega), by simp; omega, ap, (Below.setCell (Below.setCell tt_204 (by show w.heap.size ≤ X_2.heap.size; omega) _) (by show w.heap.size ≤ X_2.heap.size; omega) _)⟩
end Go.Proofs.Ytdnfphpeleakcaa
