/- Chapter 2's program: Give. -/
import Derived.Test.YtdnfphpeleakcaaI2d
namespace Go.Proofs.Ytdnfphpeleakcaa
set_option maxRecDepth 100000
open Go.RowKit Go.Proofs Go.Own
set_option linter.unusedVariables false
set_option linter.unusedSimpArgs false
set_option maxRecDepth 100000 in set_option maxHeartbeats 2000000 in
theorem impl_Give (v0 : Value) (bs : List Block) (v1 : Value) (ls : List Int) (h : Int) (w : World) (h0 : Blocks w v0 bs) (hx0 : bs.length ≤ 1048576) (h1 : Ints w v1 ls) (hx1 : ls.length ≤ 1048576) (hb : InI h := by assumption) :
    Calls Try.prog 47 #[.agg #[v0, v1], .int .i64 h] w fun e w' => ∃ u0 u1, e = .returned (.tuple #[.agg #[u0, u1], .bool (giveF ⟨bs, ls⟩ h).2]) ∧ w'.ownsRow w.heap.size 64 5 u0 (giveF ⟨bs, ls⟩ h).1.blocks.length ((giveF ⟨bs, ls⟩ h).1.blocks.flatMap Block.enc) ∧ (giveF ⟨bs, ls⟩ h).1.blocks.length ≤ 1099511627776 ∧ w'.ownsRow w.heap.size 3 1 u1 (giveF ⟨bs, ls⟩ h).1.list.length ((giveF ⟨bs, ls⟩ h).1.list.flatMap encI) ∧ (giveF ⟨bs, ls⟩ h).1.list.length ≤ 1099511627776 ∧ ((u0.ownBlock = none ∨ u0.ownBlock ≠ u1.ownBlock) ∧ (u1.ownBlock = none ∨ u1.ownBlock ≠ u0.ownBlock)) ∧ Below w.heap.size w w' := by
  obtain ⟨a0, cap0, rfl, hl0, hm0⟩ := h0.form
  obtain ⟨a1, cap1, rfl, hl1, hm1⟩ := h1.form
  have tt_1 : Below w.heap.size w w := Below.refl _ _
  obtain ⟨X_2, hX_3⟩ : ∃ X, w.alloc (.cells #[Value.slice a0 bs.length cap0, Value.slice a1 ls.length cap1] 27) = X := ⟨_, rfl⟩
  have bX_4 : Below w.heap.size w X_2 := by rw [← hX_3]; exact (Below.refl _ _).alloc (Nat.le_refl _) _
  have zs_5 : w.heap.size + 1 ≤ X_2.heap.size := by rw [← hX_3]; simp
  have zz_6 := Below.size bX_4
  have tt_7 : Below w.heap.size w X_2 := Below.trans tt_1 (Below.mono bX_4 (Below.size tt_1))
  replace h0 := Flat.below h0 bX_4
  replace h1 := Flat.below h1 bX_4
  have bx_8 : BoxF X_2 w.heap.size [Value.slice a0 bs.length cap0, Value.slice a1 ls.length cap1] := by rw [← hX_3]; exact BoxF.alloc _ _ _
  obtain ⟨X_9, hX_10⟩ : ∃ X, X_2.alloc (.cells #[Value.slice none 0 0, Value.slice none 0 0] 27) = X := ⟨_, rfl⟩
  have bX_11 : Below X_2.heap.size X_2 X_9 := by rw [← hX_10]; exact (Below.refl _ _).alloc (Nat.le_refl _) _
  have zs_12 : X_2.heap.size + 1 ≤ X_9.heap.size := by rw [← hX_10]; simp
  have zz_13 := Below.size bX_11
  have tt_14 : Below w.heap.size w X_9 := Below.trans tt_7 (Below.mono bX_11 (Below.size tt_7))
  replace bx_8 := BoxF.below bx_8 bX_11
  replace h0 := Flat.below h0 bX_11
  replace h1 := Flat.below h1 bX_11
  have bx_15 : BoxF X_9 X_2.heap.size [Value.slice none 0 0, Value.slice none 0 0] := by rw [← hX_10]; exact BoxF.alloc _ _ _
  have k_16 : X_9.cell? ⟨w.heap.size, 0, none⟩ = some (Value.slice a0 bs.length cap0) := bx_8.1.2 0 (by simp)
  have k_17 : X_9.cell? ⟨w.heap.size, 1, none⟩ = some (Value.slice a1 ls.length cap1) := bx_8.1.2 1 (by simp)
  have k_18 : X_9.cell? ⟨X_2.heap.size, 0, none⟩ = some (Value.slice none 0 0) := bx_15.1.2 0 (by simp)
  have k_19 : X_9.cell? ⟨X_2.heap.size, 1, none⟩ = some (Value.slice none 0 0) := bx_15.1.2 1 (by simp)
  go_enter Try.func47, Try.ntmps47
  go_wp2_with fail
  clear hX_3 hX_10 k_16 k_17 k_18 k_19
  refine (impl_copyArena _ bs _ ls _ h0 hx0 h1 hx1).mono ?_
  rintro e w2 ⟨u0, u1, rfl, o0, o1, ap, b2⟩
  have lt0 := hid (World.ownsRow.lt o0)
  have lt1 := hid (World.ownsRow.lt o1)
  obtain ⟨p0, c0, rfl, hn0, hq0⟩ := owns_form o0
  obtain ⟨p1, c1, rfl, hn1, hq1⟩ := owns_form o1
  have zz_20 := Below.size b2
  have tt_21 : Below w.heap.size w w2 := Below.trans tt_14 (Below.mono b2 (Below.size tt_14))
  replace bx_8 := BoxF.below bx_8 b2
  replace bx_15 := BoxF.below bx_15 b2
  replace h0 := Flat.below h0 b2
  replace h1 := Flat.below h1 b2
  obtain ⟨X_22, hX_23⟩ : ∃ X, w2.alloc (.cells #[Value.slice p0 bs.length c0, Value.slice p1 ls.length c1] 27) = X := ⟨_, rfl⟩
  have bX_24 : Below w2.heap.size w2 X_22 := by rw [← hX_23]; exact (Below.refl _ _).alloc (Nat.le_refl _) _
  have zs_25 : w2.heap.size + 1 ≤ X_22.heap.size := by rw [← hX_23]; simp
  have zz_26 := Below.size bX_24
  have tt_27 : Below w.heap.size w X_22 := Below.trans tt_21 (Below.mono bX_24 (Below.size tt_21))
  replace bx_8 := BoxF.below bx_8 bX_24
  replace bx_15 := BoxF.below bx_15 bX_24
  replace o0 := owns_below o0 bX_24
  replace o1 := owns_below o1 bX_24
  replace h0 := Flat.below h0 bX_24
  replace h1 := Flat.below h1 bX_24
  have bx_28 : BoxF X_22 w2.heap.size [Value.slice p0 bs.length c0, Value.slice p1 ls.length c1] := by rw [← hX_23]; exact BoxF.alloc _ _ _
  have k_29 : X_22.cell? ⟨w.heap.size, 0, none⟩ = some (Value.slice a0 bs.length cap0) := bx_8.1.2 0 (by simp)
  have k_30 : X_22.cell? ⟨w.heap.size, 1, none⟩ = some (Value.slice a1 ls.length cap1) := bx_8.1.2 1 (by simp)
  have k_31 : X_22.cell? ⟨X_2.heap.size, 0, none⟩ = some (Value.slice none 0 0) := bx_15.1.2 0 (by simp)
  have k_32 : X_22.cell? ⟨X_2.heap.size, 1, none⟩ = some (Value.slice none 0 0) := bx_15.1.2 1 (by simp)
  have k_33 : X_22.cell? ⟨w2.heap.size, 0, none⟩ = some (Value.slice p0 bs.length c0) := bx_28.1.2 0 (by simp)
  have k_34 : X_22.cell? ⟨w2.heap.size, 1, none⟩ = some (Value.slice p1 ls.length c1) := bx_28.1.2 1 (by simp)
  go_wp2_with fail
  clear hX_23 k_29 k_30 k_31 k_32 k_33 k_34
  refine (impl_livePlace _ bs _ ls h _ (Flat.of_owns o0) (Flat.of_owns o1)).mono ?_
  rintro e w3 ⟨rfl, b3⟩
  have zz_35 := Below.size b3
  have tt_36 : Below w.heap.size w w3 := Below.trans tt_27 (Below.mono b3 (Below.size tt_27))
  replace bx_8 := BoxF.below bx_8 b3
  replace bx_15 := BoxF.below bx_15 b3
  replace bx_28 := BoxF.below bx_28 b3
  replace o0 := owns_below o0 b3
  replace o1 := owns_below o1 b3
  replace h0 := Flat.below h0 b3
  replace h1 := Flat.below h1 b3
  cases hL : liveF ⟨bs, ls⟩ h
  case false =>
    have HN := hid (show giveF ⟨bs, ls⟩ h = (⟨bs, ls⟩, false) by simp [giveF, hL])
    have k_1037 : w3.cell? ⟨w.heap.size, 0, none⟩ = some (Value.slice a0 bs.length cap0) := bx_8.1.2 0 (by simp)
    have k_1038 : w3.cell? ⟨w.heap.size, 1, none⟩ = some (Value.slice a1 ls.length cap1) := bx_8.1.2 1 (by simp)
    have k_1039 : w3.cell? ⟨X_2.heap.size, 0, none⟩ = some (Value.slice none 0 0) := bx_15.1.2 0 (by simp)
    have k_1040 : w3.frozen? ⟨X_2.heap.size, 0, none⟩ = false := bx_15.2 0 (by simp)
    have k_1041 : w3.cell? ⟨X_2.heap.size, 1, none⟩ = some (Value.slice none 0 0) := bx_15.1.2 1 (by simp)
    have k_1042 : w3.frozen? ⟨X_2.heap.size, 1, none⟩ = false := bx_15.2 1 (by simp)
    have k_1043 : w3.cell? ⟨w2.heap.size, 0, none⟩ = some (Value.slice p0 bs.length c0) := bx_28.1.2 0 (by simp)
    have k_1044 : w3.frozen? ⟨w2.heap.size, 0, none⟩ = false := bx_28.2 0 (by simp)
    have k_1045 : w3.cell? ⟨w2.heap.size, 1, none⟩ = some (Value.slice p1 ls.length c1) := bx_28.1.2 1 (by simp)
    have k_1046 : w3.frozen? ⟨w2.heap.size, 1, none⟩ = false := bx_28.2 1 (by simp)
    have Ho0 := hid o0; clear o0
    have Ho1 := hid o1; clear o1
    go_wp2_with (fail)
    refine bodyPost_ret (v := .tuple #[.agg #[Value.slice p0 bs.length c0, Value.slice p1 ls.length c1], .bool false]) ?_ rfl ⟨_, _, by rw [HN.out], ?_⟩
    · simp [results, Try.results47, go_sem, k_1037, k_1038, k_1039, k_1040, k_1041, k_1042, k_1043, k_1044, k_1045, k_1046]
    · rw [HN.out]
      exact ⟨by exact owns_mono (owns_setCell (owns_setCell Ho0.out _ _ (by show X_2.heap.size < _; omega)) _ _ (by show X_2.heap.size < _; omega)) (by omega), by simp; omega, owns_mono (owns_setCell (owns_setCell Ho1.out _ _ (by show X_2.heap.size < _; omega)) _ _ (by show X_2.heap.size < _; omega)) (by omega), by simp; omega, ap, (Below.setCell (Below.setCell tt_36 (by show w.heap.size ≤ X_2.heap.size; omega) _) (by show w.heap.size ≤ X_2.heap.size; omega) _)⟩
  obtain ⟨q, rfl, hqn, hA, hfr0, hg0, hlen24, he⟩ := live_at hL
  obtain ⟨⟨gg, fr, x0, x1, x2⟩, ho⟩ : ∃ o, Hid (bs[q / 8] = o) := ⟨_, hid rfl⟩
  have hgd := hid (show bs.getD (q / 8) zeroB = ⟨gg, fr, x0, x1, x2⟩ by rw [List.getD, List.getElem?_eq_getElem hqn]; exact ho.out)
  rw [hgd.out] at hg0
  have hg1 : 0 ≤ gg ∧ gg ≤ 7 := by dsimp only at hg0; omega
  obtain ⟨hg1, hg2⟩ := hg1
  have HY := hid (show giveF ⟨bs, ls⟩ q = (⟨bs.set (q / 8) ⟨gg + 1, true, x0, x1, x2⟩, if gg + 1 < 5 then ((q : Int) / 8) :: ls else ls⟩, true) by simp only [giveF, hL, he, hgd.out]; rfl)
  have hs1 := hid (show (bs.flatMap Block.enc).set (q / 8 * 5 + 1) (.bool true) = (bs.set (q / 8) ⟨gg, true, x0, x1, x2⟩).flatMap Block.enc by rw [set_free bs (q / 8) true hqn, hgd.out])
  have hs2 := hid (show ((bs.set (q / 8) ⟨gg, true, x0, x1, x2⟩).flatMap Block.enc).set (q / 8 * 5) (.int .i64 (gg + 1)) = (bs.set (q / 8) ⟨gg + 1, true, x0, x1, x2⟩).flatMap Block.enc by
    rw [set_gen _ (q / 8) (gg + 1) (by simpa using hqn), List.set_set, List.getD, List.getElem?_set_self (by simpa using hqn)]; rfl)
  have hle := hid (show (bs.set (q / 8) (⟨gg + 1, true, x0, x1, x2⟩ : Block)).length = bs.length by simp)
  clear he hg0 hfr0
  rw [lpF_live hL]
  clear hA
  obtain ⟨g, cg, hv, _, _, hgb, hgs, _, hfr⟩ := owns_at o0 (by omega)
  obtain ⟨rfl, rfl⟩ : p0 = some ⟨g, 0, none⟩ ∧ c0 = cg := by simpa using hv
  obtain ⟨_, hgw⟩ := lt0.out g rfl
  have hel : CellsO w3 g (q / 8 * 5) [Value.int .i64 gg, Value.bool fr, Value.int .i64 x0, Value.int .i64 x1, Value.int .i64 x2] := CellsO.ofBlock o0 (q / 8) hqn _ ho rfl
  clear hfr hv
  have hi1 : (0 : Int) ≤ (q : Int) / 8 := by omega
  have hi2 : (q : Int) / 8 < (bs.length : Int) := by omega
  have hi3 : ((q : Int) / 8).toNat = q / 8 := by omega
  have k_37 : w3.cell? ⟨w.heap.size, 0, none⟩ = some (Value.slice a0 bs.length cap0) := bx_8.1.2 0 (by simp)
  have k_38 : w3.cell? ⟨w.heap.size, 1, none⟩ = some (Value.slice a1 ls.length cap1) := bx_8.1.2 1 (by simp)
  have k_39 : w3.cell? ⟨X_2.heap.size, 0, none⟩ = some (Value.slice none 0 0) := bx_15.1.2 0 (by simp)
  have k_40 : w3.frozen? ⟨X_2.heap.size, 0, none⟩ = false := bx_15.2 0 (by simp)
  have k_41 : w3.cell? ⟨X_2.heap.size, 1, none⟩ = some (Value.slice none 0 0) := bx_15.1.2 1 (by simp)
  have k_42 : w3.frozen? ⟨X_2.heap.size, 1, none⟩ = false := bx_15.2 1 (by simp)
  have k_43 : w3.cell? ⟨w2.heap.size, 0, none⟩ = some (Value.slice (some ⟨g, 0, none⟩) bs.length c0) := bx_28.1.2 0 (by simp)
  have k_44 : w3.frozen? ⟨w2.heap.size, 0, none⟩ = false := bx_28.2 0 (by simp)
  have k_45 : w3.cell? ⟨w2.heap.size, 1, none⟩ = some (Value.slice p1 ls.length c1) := bx_28.1.2 1 (by simp)
  have k_46 : w3.frozen? ⟨w2.heap.size, 1, none⟩ = false := bx_28.2 1 (by simp)
  have k_47 : w3.cell? ⟨g, q / 8 * 5, none⟩ = some (Value.int .i64 gg) := (hel.2 0 (by simp)).1
  have k_48 : w3.frozen? ⟨g, q / 8 * 5, none⟩ = false := (hel.2 0 (by simp)).2
  have k_49 : w3.cell? ⟨g, q / 8 * 5 + 1, none⟩ = some (Value.bool fr) := (hel.2 1 (by simp)).1
  have k_50 : w3.frozen? ⟨g, q / 8 * 5 + 1, none⟩ = false := (hel.2 1 (by simp)).2
  have k_51 : w3.cell? ⟨g, q / 8 * 5 + 2, none⟩ = some (Value.int .i64 x0) := (hel.2 2 (by simp)).1
  have k_52 : w3.frozen? ⟨g, q / 8 * 5 + 2, none⟩ = false := (hel.2 2 (by simp)).2
  have k_53 : w3.cell? ⟨g, q / 8 * 5 + 3, none⟩ = some (Value.int .i64 x1) := (hel.2 3 (by simp)).1
  have k_54 : w3.frozen? ⟨g, q / 8 * 5 + 3, none⟩ = false := (hel.2 3 (by simp)).2
  have k_55 : w3.cell? ⟨g, q / 8 * 5 + 4, none⟩ = some (Value.int .i64 x2) := (hel.2 4 (by simp)).1
  have k_56 : w3.frozen? ⟨g, q / 8 * 5 + 4, none⟩ = false := (hel.2 4 (by simp)).2
  obtain ⟨X_57, hX_58⟩ : ∃ X, w3.setCell ⟨g, q / 8 * 5 + 1, none⟩ (Value.bool true) = X := ⟨_, rfl⟩
  have gr_59 : w3.grownBy X_57 (some g) := by rw [← hX_58]; exact (World.ownsRow.stored o0 (q / 8 * 5 + 1) (Value.bool true)).2
  have zz_60 : w3.heap.size ≤ X_57.heap.size := by rw [← hX_58]; simp [World.setCell]
  have tt_61 : Below w.heap.size w X_57 := by rw [← hX_58]; exact Below.setCell tt_36 (by show w.heap.size ≤ g; omega) _
  replace o0 := owns_put o0 (q / 8 * 5 + 1) (Value.bool true)
  rw [hX_58] at o0
  replace o1 := World.ownsRow.kept o1 gr_59 ap.2
  rw [hs1.out] at o0
  replace bx_8 : BoxF X_57 w.heap.size [Value.slice a0 bs.length cap0, Value.slice a1 ls.length cap1] := by rw [← hX_58]; exact BoxF.other bx_8 _ _ (by show ¬ g = w.heap.size; omega)
  replace bx_15 : BoxF X_57 X_2.heap.size [Value.slice none 0 0, Value.slice none 0 0] := by rw [← hX_58]; exact BoxF.other bx_15 _ _ (by show ¬ g = X_2.heap.size; omega)
  replace bx_28 : BoxF X_57 w2.heap.size [Value.slice (some ⟨g, 0, none⟩) bs.length c0, Value.slice p1 ls.length c1] := by rw [← hX_58]; exact BoxF.other bx_28 _ _ (by show ¬ g = w2.heap.size; omega)
  replace hel : CellsO X_57 g (q / 8 * 5) [Value.int .i64 gg, Value.bool true, Value.int .i64 x0, Value.int .i64 x1, Value.int .i64 x2] := by rw [← hX_58]; exact CellsO.set hel 1 (by simp) _
  have k_62 : X_57.cell? ⟨w.heap.size, 0, none⟩ = some (Value.slice a0 bs.length cap0) := bx_8.1.2 0 (by simp)
  have k_63 : X_57.cell? ⟨w.heap.size, 1, none⟩ = some (Value.slice a1 ls.length cap1) := bx_8.1.2 1 (by simp)
  have k_64 : X_57.cell? ⟨X_2.heap.size, 0, none⟩ = some (Value.slice none 0 0) := bx_15.1.2 0 (by simp)
  have k_65 : X_57.frozen? ⟨X_2.heap.size, 0, none⟩ = false := bx_15.2 0 (by simp)
  have k_66 : X_57.cell? ⟨X_2.heap.size, 1, none⟩ = some (Value.slice none 0 0) := bx_15.1.2 1 (by simp)
  have k_67 : X_57.frozen? ⟨X_2.heap.size, 1, none⟩ = false := bx_15.2 1 (by simp)
  have k_68 : X_57.cell? ⟨w2.heap.size, 0, none⟩ = some (Value.slice (some ⟨g, 0, none⟩) bs.length c0) := bx_28.1.2 0 (by simp)
  have k_69 : X_57.frozen? ⟨w2.heap.size, 0, none⟩ = false := bx_28.2 0 (by simp)
  have k_70 : X_57.cell? ⟨w2.heap.size, 1, none⟩ = some (Value.slice p1 ls.length c1) := bx_28.1.2 1 (by simp)
  have k_71 : X_57.frozen? ⟨w2.heap.size, 1, none⟩ = false := bx_28.2 1 (by simp)
  have k_72 : X_57.cell? ⟨g, q / 8 * 5, none⟩ = some (Value.int .i64 gg) := (hel.2 0 (by simp)).1
  have k_73 : X_57.frozen? ⟨g, q / 8 * 5, none⟩ = false := (hel.2 0 (by simp)).2
  have k_74 : X_57.cell? ⟨g, q / 8 * 5 + 1, none⟩ = some (Value.bool true) := (hel.2 1 (by simp)).1
  have k_75 : X_57.frozen? ⟨g, q / 8 * 5 + 1, none⟩ = false := (hel.2 1 (by simp)).2
  have k_76 : X_57.cell? ⟨g, q / 8 * 5 + 2, none⟩ = some (Value.int .i64 x0) := (hel.2 2 (by simp)).1
  have k_77 : X_57.frozen? ⟨g, q / 8 * 5 + 2, none⟩ = false := (hel.2 2 (by simp)).2
  have k_78 : X_57.cell? ⟨g, q / 8 * 5 + 3, none⟩ = some (Value.int .i64 x1) := (hel.2 3 (by simp)).1
  have k_79 : X_57.frozen? ⟨g, q / 8 * 5 + 3, none⟩ = false := (hel.2 3 (by simp)).2
  have k_80 : X_57.cell? ⟨g, q / 8 * 5 + 4, none⟩ = some (Value.int .i64 x2) := (hel.2 4 (by simp)).1
  have k_81 : X_57.frozen? ⟨g, q / 8 * 5 + 4, none⟩ = false := (hel.2 4 (by simp)).2
  obtain ⟨X_82, hX_83⟩ : ∃ X, X_57.setCell ⟨g, q / 8 * 5, none⟩ (Value.int .i64 (gg + 1)) = X := ⟨_, rfl⟩
  have gr_84 : X_57.grownBy X_82 (some g) := by rw [← hX_83]; exact (World.ownsRow.stored o0 (q / 8 * 5) (Value.int .i64 (gg + 1))).2
  have zz_85 : X_57.heap.size ≤ X_82.heap.size := by rw [← hX_83]; simp [World.setCell]
  have tt_86 : Below w.heap.size w X_82 := by rw [← hX_83]; exact Below.setCell tt_61 (by show w.heap.size ≤ g; omega) _
  replace o0 := owns_put o0 (q / 8 * 5) (Value.int .i64 (gg + 1))
  rw [hX_83] at o0
  replace o1 := World.ownsRow.kept o1 gr_84 ap.2
  rw [hs2.out] at o0
  replace bx_8 : BoxF X_82 w.heap.size [Value.slice a0 bs.length cap0, Value.slice a1 ls.length cap1] := by rw [← hX_83]; exact BoxF.other bx_8 _ _ (by show ¬ g = w.heap.size; omega)
  replace bx_15 : BoxF X_82 X_2.heap.size [Value.slice none 0 0, Value.slice none 0 0] := by rw [← hX_83]; exact BoxF.other bx_15 _ _ (by show ¬ g = X_2.heap.size; omega)
  replace bx_28 : BoxF X_82 w2.heap.size [Value.slice (some ⟨g, 0, none⟩) bs.length c0, Value.slice p1 ls.length c1] := by rw [← hX_83]; exact BoxF.other bx_28 _ _ (by show ¬ g = w2.heap.size; omega)
  replace hel : CellsO X_82 g (q / 8 * 5) [Value.int .i64 (gg + 1), Value.bool true, Value.int .i64 x0, Value.int .i64 x1, Value.int .i64 x2] := by rw [← hX_83]; exact CellsO.set hel 0 (by simp) _
  by_cases h5 : gg + 1 < 5
  ·
    rw [if_pos h5] at HY
    obtain ⟨i0, hi, hz0, hz1, hz2⟩ := info_parts infoInt
    have hone := hid (oneCell_enc oneCell_I ls)
    have k_1087 : X_82.cell? ⟨w.heap.size, 0, none⟩ = some (Value.slice a0 bs.length cap0) := bx_8.1.2 0 (by simp)
    have k_1088 : X_82.cell? ⟨w.heap.size, 1, none⟩ = some (Value.slice a1 ls.length cap1) := bx_8.1.2 1 (by simp)
    have k_1089 : X_82.cell? ⟨X_2.heap.size, 0, none⟩ = some (Value.slice none 0 0) := bx_15.1.2 0 (by simp)
    have k_1090 : X_82.frozen? ⟨X_2.heap.size, 0, none⟩ = false := bx_15.2 0 (by simp)
    have k_1091 : X_82.cell? ⟨X_2.heap.size, 1, none⟩ = some (Value.slice none 0 0) := bx_15.1.2 1 (by simp)
    have k_1092 : X_82.frozen? ⟨X_2.heap.size, 1, none⟩ = false := bx_15.2 1 (by simp)
    have k_1093 : X_82.cell? ⟨w2.heap.size, 0, none⟩ = some (Value.slice (some ⟨g, 0, none⟩) bs.length c0) := bx_28.1.2 0 (by simp)
    have k_1094 : X_82.frozen? ⟨w2.heap.size, 0, none⟩ = false := bx_28.2 0 (by simp)
    have k_1095 : X_82.cell? ⟨w2.heap.size, 1, none⟩ = some (Value.slice p1 ls.length c1) := bx_28.1.2 1 (by simp)
    have k_1096 : X_82.frozen? ⟨w2.heap.size, 1, none⟩ = false := bx_28.2 1 (by simp)
    have k_1097 : X_82.cell? ⟨g, q / 8 * 5, none⟩ = some (Value.int .i64 (gg + 1)) := (hel.2 0 (by simp)).1
    have k_1098 : X_82.frozen? ⟨g, q / 8 * 5, none⟩ = false := (hel.2 0 (by simp)).2
    have k_1099 : X_82.cell? ⟨g, q / 8 * 5 + 1, none⟩ = some (Value.bool true) := (hel.2 1 (by simp)).1
    have k_1100 : X_82.frozen? ⟨g, q / 8 * 5 + 1, none⟩ = false := (hel.2 1 (by simp)).2
    have k_1101 : X_82.cell? ⟨g, q / 8 * 5 + 2, none⟩ = some (Value.int .i64 x0) := (hel.2 2 (by simp)).1
    have k_1102 : X_82.frozen? ⟨g, q / 8 * 5 + 2, none⟩ = false := (hel.2 2 (by simp)).2
    have k_1103 : X_82.cell? ⟨g, q / 8 * 5 + 3, none⟩ = some (Value.int .i64 x1) := (hel.2 3 (by simp)).1
    have k_1104 : X_82.frozen? ⟨g, q / 8 * 5 + 3, none⟩ = false := (hel.2 3 (by simp)).2
    have k_1105 : X_82.cell? ⟨g, q / 8 * 5 + 4, none⟩ = some (Value.int .i64 x2) := (hel.2 4 (by simp)).1
    have k_1106 : X_82.frozen? ⟨g, q / 8 * 5 + 4, none⟩ = false := (hel.2 4 (by simp)).2
    obtain ⟨X_1107, hX_1108⟩ : ∃ X, X_82.alloc (.cells #[Value.int .i64 ((q : Int) / 8)] 3) = X := ⟨_, rfl⟩
    have bL : Below X_82.heap.size X_82 X_1107 := by rw [← hX_1108]; exact (Below.refl _ _).alloc (Nat.le_refl _) _
    have ol : X_1107.ownsRow X_82.heap.size 3 1 (.slice (some ⟨X_82.heap.size, 0, none⟩) 1 1) 1 [Value.int .i64 ((q : Int) / 8)] := by rw [← hX_1108]; exact owns_lit1 _ _ _ _ (Nat.le_refl _)
    have bf_1109 := bx_8
    have bf_1110 := bx_15
    have bf_1111 := bx_28
    have bf_1112 := hel
    have rf_1113 := o0
    have rf_1114 := o1
    have zz_1115 := Below.size bL
    have tt_1116 : Below w.heap.size w X_1107 := Below.trans tt_86 (Below.mono bL (Below.size tt_86))
    replace bf_1109 := BoxF.below bf_1109 bL
    replace bf_1110 := BoxF.below bf_1110 bL
    replace bf_1111 := BoxF.below bf_1111 bL
    replace bf_1112 := CellsO.below bf_1112 bL
    replace rf_1113 := owns_below rf_1113 bL
    replace rf_1114 := owns_below rf_1114 bL
    have k_1117 : X_1107.cell? ⟨w.heap.size, 0, none⟩ = some (Value.slice a0 bs.length cap0) := bf_1109.1.2 0 (by simp)
    have k_1118 : X_1107.cell? ⟨w.heap.size, 1, none⟩ = some (Value.slice a1 ls.length cap1) := bf_1109.1.2 1 (by simp)
    have k_1119 : X_1107.cell? ⟨X_2.heap.size, 0, none⟩ = some (Value.slice none 0 0) := bf_1110.1.2 0 (by simp)
    have k_1120 : X_1107.frozen? ⟨X_2.heap.size, 0, none⟩ = false := bf_1110.2 0 (by simp)
    have k_1121 : X_1107.cell? ⟨X_2.heap.size, 1, none⟩ = some (Value.slice none 0 0) := bf_1110.1.2 1 (by simp)
    have k_1122 : X_1107.frozen? ⟨X_2.heap.size, 1, none⟩ = false := bf_1110.2 1 (by simp)
    have k_1123 : X_1107.cell? ⟨w2.heap.size, 0, none⟩ = some (Value.slice (some ⟨g, 0, none⟩) bs.length c0) := bf_1111.1.2 0 (by simp)
    have k_1124 : X_1107.frozen? ⟨w2.heap.size, 0, none⟩ = false := bf_1111.2 0 (by simp)
    have k_1125 : X_1107.cell? ⟨w2.heap.size, 1, none⟩ = some (Value.slice p1 ls.length c1) := bf_1111.1.2 1 (by simp)
    have k_1126 : X_1107.frozen? ⟨w2.heap.size, 1, none⟩ = false := bf_1111.2 1 (by simp)
    have k_1127 : X_1107.cell? ⟨g, q / 8 * 5, none⟩ = some (Value.int .i64 (gg + 1)) := (bf_1112.2 0 (by simp)).1
    have k_1128 : X_1107.frozen? ⟨g, q / 8 * 5, none⟩ = false := (bf_1112.2 0 (by simp)).2
    have k_1129 : X_1107.cell? ⟨g, q / 8 * 5 + 1, none⟩ = some (Value.bool true) := (bf_1112.2 1 (by simp)).1
    have k_1130 : X_1107.frozen? ⟨g, q / 8 * 5 + 1, none⟩ = false := (bf_1112.2 1 (by simp)).2
    have k_1131 : X_1107.cell? ⟨g, q / 8 * 5 + 2, none⟩ = some (Value.int .i64 x0) := (bf_1112.2 2 (by simp)).1
    have k_1132 : X_1107.frozen? ⟨g, q / 8 * 5 + 2, none⟩ = false := (bf_1112.2 2 (by simp)).2
    have k_1133 : X_1107.cell? ⟨g, q / 8 * 5 + 3, none⟩ = some (Value.int .i64 x1) := (bf_1112.2 3 (by simp)).1
    have k_1134 : X_1107.frozen? ⟨g, q / 8 * 5 + 3, none⟩ = false := (bf_1112.2 3 (by simp)).2
    have k_1135 : X_1107.cell? ⟨g, q / 8 * 5 + 4, none⟩ = some (Value.int .i64 x2) := (bf_1112.2 4 (by simp)).1
    have k_1136 : X_1107.frozen? ⟨g, q / 8 * 5 + 4, none⟩ = false := (bf_1112.2 4 (by simp)).2
    go_wp2_with (at_builtin; refine wpList_append_flat rfl _ _ 25 rfl X_82.heap.size 3 i0 (.int .i64 0) 1 8 Try.underlying25 hi hz0 hz1 hz2 rfl (by decide) _ 1 _ rfl ol _ ls.length _ rfl (Flat.of_owns rf_1114) hone.out (by unfold maxLen; omega) (by omega) (Below.size bL) ?_)
    intro v5 w5 o5 g5
    clear k_37 k_38 k_39 k_40 k_41 k_42 k_43 k_44 k_45 k_46 k_47 k_48 k_49 k_50 k_51 k_52 k_53 k_54 k_55 k_56 hX_58 k_62 k_63 k_64 k_65 k_66 k_67 k_68 k_69 k_70 k_71 k_72 k_73 k_74 k_75 k_76 k_77 k_78 k_79 k_80 k_81 hX_83 k_1087 k_1088 k_1089 k_1090 k_1091 k_1092 k_1093 k_1094 k_1095 k_1096 k_1097 k_1098 k_1099 k_1100 k_1101 k_1102 k_1103 k_1104 k_1105 k_1106 hX_1108 k_1117 k_1118 k_1119 k_1120 k_1121 k_1122 k_1123 k_1124 k_1125 k_1126 k_1127 k_1128 k_1129 k_1130 k_1131 k_1132 k_1133 k_1134 k_1135 k_1136
    have b5 : Below X_82.heap.size X_82 w5 := Below.trans bL (below_of_mark ol g5 (Nat.le_refl _) (Below.size bL))
    have ap5 := apart o0 (Nat.le_refl _) o5
    have lt5 := hid (World.ownsRow.lt o5)
    rw [Nat.add_comm] at o5
    obtain ⟨p5, c5, rfl, hn5, hq5⟩ := owns_form o5
    have zz_1137 := Below.size b5
    have tt_1138 : Below w.heap.size w w5 := Below.trans tt_86 (Below.mono b5 (Below.size tt_86))
    replace bx_8 := BoxF.below bx_8 b5
    replace bx_15 := BoxF.below bx_15 b5
    replace bx_28 := BoxF.below bx_28 b5
    replace hel := CellsO.below hel b5
    replace o0 := owns_below o0 b5
    have k_1139 : w5.cell? ⟨w.heap.size, 0, none⟩ = some (Value.slice a0 bs.length cap0) := bx_8.1.2 0 (by simp)
    have k_1140 : w5.cell? ⟨w.heap.size, 1, none⟩ = some (Value.slice a1 ls.length cap1) := bx_8.1.2 1 (by simp)
    have k_1141 : w5.cell? ⟨X_2.heap.size, 0, none⟩ = some (Value.slice none 0 0) := bx_15.1.2 0 (by simp)
    have k_1142 : w5.frozen? ⟨X_2.heap.size, 0, none⟩ = false := bx_15.2 0 (by simp)
    have k_1143 : w5.cell? ⟨X_2.heap.size, 1, none⟩ = some (Value.slice none 0 0) := bx_15.1.2 1 (by simp)
    have k_1144 : w5.frozen? ⟨X_2.heap.size, 1, none⟩ = false := bx_15.2 1 (by simp)
    have k_1145 : w5.cell? ⟨w2.heap.size, 0, none⟩ = some (Value.slice (some ⟨g, 0, none⟩) bs.length c0) := bx_28.1.2 0 (by simp)
    have k_1146 : w5.frozen? ⟨w2.heap.size, 0, none⟩ = false := bx_28.2 0 (by simp)
    have k_1147 : w5.cell? ⟨w2.heap.size, 1, none⟩ = some (Value.slice p1 ls.length c1) := bx_28.1.2 1 (by simp)
    have k_1148 : w5.frozen? ⟨w2.heap.size, 1, none⟩ = false := bx_28.2 1 (by simp)
    have k_1149 : w5.cell? ⟨g, q / 8 * 5, none⟩ = some (Value.int .i64 (gg + 1)) := (hel.2 0 (by simp)).1
    have k_1150 : w5.frozen? ⟨g, q / 8 * 5, none⟩ = false := (hel.2 0 (by simp)).2
    have k_1151 : w5.cell? ⟨g, q / 8 * 5 + 1, none⟩ = some (Value.bool true) := (hel.2 1 (by simp)).1
    have k_1152 : w5.frozen? ⟨g, q / 8 * 5 + 1, none⟩ = false := (hel.2 1 (by simp)).2
    have k_1153 : w5.cell? ⟨g, q / 8 * 5 + 2, none⟩ = some (Value.int .i64 x0) := (hel.2 2 (by simp)).1
    have k_1154 : w5.frozen? ⟨g, q / 8 * 5 + 2, none⟩ = false := (hel.2 2 (by simp)).2
    have k_1155 : w5.cell? ⟨g, q / 8 * 5 + 3, none⟩ = some (Value.int .i64 x1) := (hel.2 3 (by simp)).1
    have k_1156 : w5.frozen? ⟨g, q / 8 * 5 + 3, none⟩ = false := (hel.2 3 (by simp)).2
    have k_1157 : w5.cell? ⟨g, q / 8 * 5 + 4, none⟩ = some (Value.int .i64 x2) := (hel.2 4 (by simp)).1
    have k_1158 : w5.frozen? ⟨g, q / 8 * 5 + 4, none⟩ = false := (hel.2 4 (by simp)).2
    obtain ⟨X_1159, hX_1160⟩ : ∃ X, w5.setCell ⟨w2.heap.size, 1, none⟩ (Value.slice p5 (ls.length + 1) c5) = X := ⟨_, rfl⟩
    have gr_1161 : w5.grownBy X_1159 (some (w2.heap.size)) := by rw [← hX_1160]; exact grownBy_setCell _ _ _
    have zz_1162 : w5.heap.size ≤ X_1159.heap.size := by rw [← hX_1160]; simp [World.setCell]
    have tt_1163 : Below w.heap.size w X_1159 := by rw [← hX_1160]; exact Below.setCell tt_1138 (by show w.heap.size ≤ w2.heap.size; omega) _
    replace o0 := World.ownsRow.kept o0 gr_1161 (apart_blk lt0 (by omega))
    replace o5 := World.ownsRow.kept o5 gr_1161 (apart_blk lt5 (by omega))
    replace bx_8 : BoxF X_1159 w.heap.size [Value.slice a0 bs.length cap0, Value.slice a1 ls.length cap1] := by rw [← hX_1160]; exact BoxF.other bx_8 _ _ (by show ¬ w2.heap.size = w.heap.size; omega)
    replace bx_15 : BoxF X_1159 X_2.heap.size [Value.slice none 0 0, Value.slice none 0 0] := by rw [← hX_1160]; exact BoxF.other bx_15 _ _ (by show ¬ w2.heap.size = X_2.heap.size; omega)
    replace bx_28 : BoxF X_1159 w2.heap.size [Value.slice (some ⟨g, 0, none⟩) bs.length c0, Value.slice p5 (ls.length + 1) c5] := by rw [← hX_1160]; exact BoxF.set bx_28 1 (by simp) _
    replace hel : CellsO X_1159 g (q / 8 * 5) [Value.int .i64 (gg + 1), Value.bool true, Value.int .i64 x0, Value.int .i64 x1, Value.int .i64 x2] := by rw [← hX_1160]; exact CellsO.other hel _ _ (by show ¬ w2.heap.size = g; omega)
    have k_1164 : X_1159.cell? ⟨w.heap.size, 0, none⟩ = some (Value.slice a0 bs.length cap0) := bx_8.1.2 0 (by simp)
    have k_1165 : X_1159.cell? ⟨w.heap.size, 1, none⟩ = some (Value.slice a1 ls.length cap1) := bx_8.1.2 1 (by simp)
    have k_1166 : X_1159.cell? ⟨X_2.heap.size, 0, none⟩ = some (Value.slice none 0 0) := bx_15.1.2 0 (by simp)
    have k_1167 : X_1159.frozen? ⟨X_2.heap.size, 0, none⟩ = false := bx_15.2 0 (by simp)
    have k_1168 : X_1159.cell? ⟨X_2.heap.size, 1, none⟩ = some (Value.slice none 0 0) := bx_15.1.2 1 (by simp)
    have k_1169 : X_1159.frozen? ⟨X_2.heap.size, 1, none⟩ = false := bx_15.2 1 (by simp)
    have k_1170 : X_1159.cell? ⟨w2.heap.size, 0, none⟩ = some (Value.slice (some ⟨g, 0, none⟩) bs.length c0) := bx_28.1.2 0 (by simp)
    have k_1171 : X_1159.frozen? ⟨w2.heap.size, 0, none⟩ = false := bx_28.2 0 (by simp)
    have k_1172 : X_1159.cell? ⟨w2.heap.size, 1, none⟩ = some (Value.slice p5 (ls.length + 1) c5) := bx_28.1.2 1 (by simp)
    have k_1173 : X_1159.frozen? ⟨w2.heap.size, 1, none⟩ = false := bx_28.2 1 (by simp)
    have k_1174 : X_1159.cell? ⟨g, q / 8 * 5, none⟩ = some (Value.int .i64 (gg + 1)) := (hel.2 0 (by simp)).1
    have k_1175 : X_1159.frozen? ⟨g, q / 8 * 5, none⟩ = false := (hel.2 0 (by simp)).2
    have k_1176 : X_1159.cell? ⟨g, q / 8 * 5 + 1, none⟩ = some (Value.bool true) := (hel.2 1 (by simp)).1
    have k_1177 : X_1159.frozen? ⟨g, q / 8 * 5 + 1, none⟩ = false := (hel.2 1 (by simp)).2
    have k_1178 : X_1159.cell? ⟨g, q / 8 * 5 + 2, none⟩ = some (Value.int .i64 x0) := (hel.2 2 (by simp)).1
    have k_1179 : X_1159.frozen? ⟨g, q / 8 * 5 + 2, none⟩ = false := (hel.2 2 (by simp)).2
    have k_1180 : X_1159.cell? ⟨g, q / 8 * 5 + 3, none⟩ = some (Value.int .i64 x1) := (hel.2 3 (by simp)).1
    have k_1181 : X_1159.frozen? ⟨g, q / 8 * 5 + 3, none⟩ = false := (hel.2 3 (by simp)).2
    have k_1182 : X_1159.cell? ⟨g, q / 8 * 5 + 4, none⟩ = some (Value.int .i64 x2) := (hel.2 4 (by simp)).1
    have k_1183 : X_1159.frozen? ⟨g, q / 8 * 5 + 4, none⟩ = false := (hel.2 4 (by simp)).2
    have Ho0 := hid o0; clear o0
    have Ho5 := hid o5; clear o5
    go_wp2_with (fail)
    refine bodyPost_ret (v := .tuple #[.agg #[Value.slice (some ⟨g, 0, none⟩) bs.length c0, Value.slice p5 (ls.length + 1) c5], .bool true]) ?_ rfl ⟨_, _, by rw [HY.out], ?_⟩
    · simp [results, Try.results47, go_sem, k_1139, k_1140, k_1141, k_1142, k_1143, k_1144, k_1145, k_1146, k_1147, k_1148, k_1149, k_1150, k_1151, k_1152, k_1153, k_1154, k_1155, k_1156, k_1157, k_1158, hX_1160, k_1164, k_1165, k_1166, k_1167, k_1168, k_1169, k_1170, k_1171, k_1172, k_1173, k_1174, k_1175, k_1176, k_1177, k_1178, k_1179, k_1180, k_1181, k_1182, k_1183]
    · rw [HY.out]
      have hle : _ := hle.out
      exact ⟨by rw [hle]; exact owns_mono (owns_setCell (owns_setCell Ho0.out _ _ (by show X_2.heap.size < _; omega)) _ _ (by show X_2.heap.size < _; omega)) (by omega), by simp; omega, owns_mono (owns_setCell (owns_setCell Ho5.out _ _ (by show X_2.heap.size < _; omega)) _ _ (by show X_2.heap.size < _; omega)) (by omega), by simp; omega, ap5, (Below.setCell (Below.setCell tt_1163 (by show w.heap.size ≤ X_2.heap.size; omega) _) (by show w.heap.size ≤ X_2.heap.size; omega) _)⟩
  ·
    rw [if_neg h5] at HY
    have k_1087 : X_82.cell? ⟨w.heap.size, 0, none⟩ = some (Value.slice a0 bs.length cap0) := bx_8.1.2 0 (by simp)
    have k_1088 : X_82.cell? ⟨w.heap.size, 1, none⟩ = some (Value.slice a1 ls.length cap1) := bx_8.1.2 1 (by simp)
    have k_1089 : X_82.cell? ⟨X_2.heap.size, 0, none⟩ = some (Value.slice none 0 0) := bx_15.1.2 0 (by simp)
    have k_1090 : X_82.frozen? ⟨X_2.heap.size, 0, none⟩ = false := bx_15.2 0 (by simp)
    have k_1091 : X_82.cell? ⟨X_2.heap.size, 1, none⟩ = some (Value.slice none 0 0) := bx_15.1.2 1 (by simp)
    have k_1092 : X_82.frozen? ⟨X_2.heap.size, 1, none⟩ = false := bx_15.2 1 (by simp)
    have k_1093 : X_82.cell? ⟨w2.heap.size, 0, none⟩ = some (Value.slice (some ⟨g, 0, none⟩) bs.length c0) := bx_28.1.2 0 (by simp)
    have k_1094 : X_82.frozen? ⟨w2.heap.size, 0, none⟩ = false := bx_28.2 0 (by simp)
    have k_1095 : X_82.cell? ⟨w2.heap.size, 1, none⟩ = some (Value.slice p1 ls.length c1) := bx_28.1.2 1 (by simp)
    have k_1096 : X_82.frozen? ⟨w2.heap.size, 1, none⟩ = false := bx_28.2 1 (by simp)
    have k_1097 : X_82.cell? ⟨g, q / 8 * 5, none⟩ = some (Value.int .i64 (gg + 1)) := (hel.2 0 (by simp)).1
    have k_1098 : X_82.frozen? ⟨g, q / 8 * 5, none⟩ = false := (hel.2 0 (by simp)).2
    have k_1099 : X_82.cell? ⟨g, q / 8 * 5 + 1, none⟩ = some (Value.bool true) := (hel.2 1 (by simp)).1
    have k_1100 : X_82.frozen? ⟨g, q / 8 * 5 + 1, none⟩ = false := (hel.2 1 (by simp)).2
    have k_1101 : X_82.cell? ⟨g, q / 8 * 5 + 2, none⟩ = some (Value.int .i64 x0) := (hel.2 2 (by simp)).1
    have k_1102 : X_82.frozen? ⟨g, q / 8 * 5 + 2, none⟩ = false := (hel.2 2 (by simp)).2
    have k_1103 : X_82.cell? ⟨g, q / 8 * 5 + 3, none⟩ = some (Value.int .i64 x1) := (hel.2 3 (by simp)).1
    have k_1104 : X_82.frozen? ⟨g, q / 8 * 5 + 3, none⟩ = false := (hel.2 3 (by simp)).2
    have k_1105 : X_82.cell? ⟨g, q / 8 * 5 + 4, none⟩ = some (Value.int .i64 x2) := (hel.2 4 (by simp)).1
    have k_1106 : X_82.frozen? ⟨g, q / 8 * 5 + 4, none⟩ = false := (hel.2 4 (by simp)).2
    have Ho0 := hid o0; clear o0
    have Ho1 := hid o1; clear o1
    go_wp2_with (fail)
    refine bodyPost_ret (v := .tuple #[.agg #[Value.slice (some ⟨g, 0, none⟩) bs.length c0, Value.slice p1 ls.length c1], .bool true]) ?_ rfl ⟨_, _, by rw [HY.out], ?_⟩
    · simp [results, Try.results47, go_sem, k_37, k_38, k_39, k_40, k_41, k_42, k_43, k_44, k_45, k_46, k_47, k_48, k_49, k_50, k_51, k_52, k_53, k_54, k_55, k_56, hX_58, k_62, k_63, k_64, k_65, k_66, k_67, k_68, k_69, k_70, k_71, k_72, k_73, k_74, k_75, k_76, k_77, k_78, k_79, k_80, k_81, hX_83, k_1087, k_1088, k_1089, k_1090, k_1091, k_1092, k_1093, k_1094, k_1095, k_1096, k_1097, k_1098, k_1099, k_1100, k_1101, k_1102, k_1103, k_1104, k_1105, k_1106]
    · rw [HY.out]
      have hle : _ := hle.out
      exact ⟨by rw [hle]; exact owns_mono (owns_setCell (owns_setCell Ho0.out _ _ (by show X_2.heap.size < _; omega)) _ _ (by show X_2.heap.size < _; omega)) (by omega), by simp; omega, owns_mono (owns_setCell (owns_setCell Ho1.out _ _ (by show X_2.heap.size < _; omega)) _ _ (by show X_2.heap.size < _; omega)) (by omega), by simp; omega, ap, (Below.setCell (Below.setCell tt_86 (by show w.heap.size ≤ X_2.heap.size; omega) _) (by show w.heap.size ≤ X_2.heap.size; omega) _)⟩
end Go.Proofs.Ytdnfphpeleakcaa
