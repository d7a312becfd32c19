/- Chapter 2's model: Put. -/
import Derived.Test.YtiibpgbdnbpmoaaS2b
import Derived.Test.YtiibpgbdnbpmoaaBox
namespace Go.Proofs.Ytiibpgbdnbpmoaa
open Go.RowKit Go.Proofs Go.Own
set_option linter.unusedVariables false
set_option linter.unusedSimpArgs false
set_option maxRecDepth 100000 in set_option maxHeartbeats 2000000 in
theorem spec_Put (v0 : Value) (bs : List Block) (v1 : Value) (ls : List Int) (h k x : Int) (w : World) (h0 : Blocks w v0 bs) (hx0 : bs.length ≤ 1048576) (h1 : Ints w v1 ls) (hx1 : ls.length ≤ 1048576) :
    Calls Try.prog 28 #[.agg #[v0, v1], .int .i64 h, .int .i64 k, .int .i64 x] w fun e w' => ∃ u0 u1, e = .returned (.tuple #[.agg #[u0, u1], .bool (putF ⟨bs, ls⟩ h k x).2]) ∧ Blocks w' u0 (putF ⟨bs, ls⟩ h k x).1.blocks ∧ Ints w' u1 (putF ⟨bs, ls⟩ h k x).1.list ∧ Below w.heap.size w w' := by
  obtain ⟨a0, cap0, rfl, hl0, hm0⟩ := h0.form
  obtain ⟨a1, cap1, rfl, hl1, hm1⟩ := h1.form
  have tt_1 : Below w.heap.size w w := Below.refl _ _
  obtain ⟨X_2, hX_3⟩ : ∃ X, w.alloc (.cells #[Value.slice a0 bs.length cap0, Value.slice a1 ls.length cap1] 30) = X := ⟨_, rfl⟩
  have bX_4 : Below w.heap.size w X_2 := by rw [← hX_3]; exact (Below.refl _ _).alloc (Nat.le_refl _) _
  have zs_5 : w.heap.size + 1 ≤ X_2.heap.size := by rw [← hX_3]; simp
  have zz_6 := Below.size bX_4
  have tt_7 : Below w.heap.size w X_2 := Below.trans tt_1 (Below.mono bX_4 (Below.size tt_1))
  replace h0 := Flat.below h0 bX_4
  replace h1 := Flat.below h1 bX_4
  have bx_8 : BoxF X_2 w.heap.size [Value.slice a0 bs.length cap0, Value.slice a1 ls.length cap1] := by rw [← hX_3]; exact BoxF.alloc _ _ _
  obtain ⟨X_9, hX_10⟩ : ∃ X, X_2.alloc (.cells #[Value.slice none 0 0, Value.slice none 0 0] 30) = X := ⟨_, rfl⟩
  have bX_11 : Below X_2.heap.size X_2 X_9 := by rw [← hX_10]; exact (Below.refl _ _).alloc (Nat.le_refl _) _
  have zs_12 : X_2.heap.size + 1 ≤ X_9.heap.size := by rw [← hX_10]; simp
  have zz_13 := Below.size bX_11
  have tt_14 : Below w.heap.size w X_9 := Below.trans tt_7 (Below.mono bX_11 (Below.size tt_7))
  replace bx_8 := BoxF.below bx_8 bX_11
  replace h0 := Flat.below h0 bX_11
  replace h1 := Flat.below h1 bX_11
  have bx_15 : BoxF X_9 X_2.heap.size [Value.slice none 0 0, Value.slice none 0 0] := by rw [← hX_10]; exact BoxF.alloc _ _ _
  have k_16 : X_9.cell? ⟨w.heap.size, 0, none⟩ = some (Value.slice a0 bs.length cap0) := bx_8.1.2 0 (by simp)
  have k_17 : X_9.cell? ⟨w.heap.size, 1, none⟩ = some (Value.slice a1 ls.length cap1) := bx_8.1.2 1 (by simp)
  have k_18 : X_9.cell? ⟨X_2.heap.size, 0, none⟩ = some (Value.slice none 0 0) := bx_15.1.2 0 (by simp)
  have k_19 : X_9.cell? ⟨X_2.heap.size, 1, none⟩ = some (Value.slice none 0 0) := bx_15.1.2 1 (by simp)
  go_enter Try.func28, Try.ntmps28
  go_wp2_with fail
  clear hX_3 hX_10 k_16 k_17 k_18 k_19
  refine (spec_l2Copy _ bs _ ls _ h0 hx0 h1 hx1).mono ?_
  rintro e w2 ⟨u0, u1, rfl, o0, o1, ap, b2⟩
  have lt0 := hid (World.ownsRow.lt o0)
  have lt1 := hid (World.ownsRow.lt o1)
  obtain ⟨p0, c0, rfl, hn0, hq0⟩ := owns_form o0
  obtain ⟨p1, c1, rfl, hn1, hq1⟩ := owns_form o1
  have zz_20 := Below.size b2
  have tt_21 : Below w.heap.size w w2 := Below.trans tt_14 (Below.mono b2 (Below.size tt_14))
  replace bx_8 := BoxF.below bx_8 b2
  replace bx_15 := BoxF.below bx_15 b2
  replace h0 := Flat.below h0 b2
  replace h1 := Flat.below h1 b2
  obtain ⟨X_22, hX_23⟩ : ∃ X, w2.alloc (.cells #[Value.slice p0 bs.length c0, Value.slice p1 ls.length c1] 30) = X := ⟨_, rfl⟩
  have bX_24 : Below w2.heap.size w2 X_22 := by rw [← hX_23]; exact (Below.refl _ _).alloc (Nat.le_refl _) _
  have zs_25 : w2.heap.size + 1 ≤ X_22.heap.size := by rw [← hX_23]; simp
  have zz_26 := Below.size bX_24
  have tt_27 : Below w.heap.size w X_22 := Below.trans tt_21 (Below.mono bX_24 (Below.size tt_21))
  replace bx_8 := BoxF.below bx_8 bX_24
  replace bx_15 := BoxF.below bx_15 bX_24
  replace o0 := owns_below o0 bX_24
  replace o1 := owns_below o1 bX_24
  replace h0 := Flat.below h0 bX_24
  replace h1 := Flat.below h1 bX_24
  have bx_28 : BoxF X_22 w2.heap.size [Value.slice p0 bs.length c0, Value.slice p1 ls.length c1] := by rw [← hX_23]; exact BoxF.alloc _ _ _
  have k_29 : X_22.cell? ⟨w.heap.size, 0, none⟩ = some (Value.slice a0 bs.length cap0) := bx_8.1.2 0 (by simp)
  have k_30 : X_22.cell? ⟨w.heap.size, 1, none⟩ = some (Value.slice a1 ls.length cap1) := bx_8.1.2 1 (by simp)
  have k_31 : X_22.cell? ⟨X_2.heap.size, 0, none⟩ = some (Value.slice none 0 0) := bx_15.1.2 0 (by simp)
  have k_32 : X_22.cell? ⟨X_2.heap.size, 1, none⟩ = some (Value.slice none 0 0) := bx_15.1.2 1 (by simp)
  have k_33 : X_22.cell? ⟨w2.heap.size, 0, none⟩ = some (Value.slice p0 bs.length c0) := bx_28.1.2 0 (by simp)
  have k_34 : X_22.cell? ⟨w2.heap.size, 1, none⟩ = some (Value.slice p1 ls.length c1) := bx_28.1.2 1 (by simp)
  go_wp2_with fail
  clear hX_23 k_29 k_30 k_31 k_32 k_33 k_34
  refine (spec_Live0 _ bs _ ls h _ h0 h1).mono ?_
  rintro e w3 ⟨rfl, b3⟩
  have zz_35 := Below.size b3
  have tt_36 : Below w.heap.size w w3 := Below.trans tt_27 (Below.mono b3 (Below.size tt_27))
  replace bx_8 := BoxF.below bx_8 b3
  replace bx_15 := BoxF.below bx_15 b3
  replace bx_28 := BoxF.below bx_28 b3
  replace o0 := owns_below o0 b3
  replace o1 := owns_below o1 b3
  replace h0 := Flat.below h0 b3
  replace h1 := Flat.below h1 b3
  cases hL : liveF ⟨bs, ls⟩ h
  case false =>
    have HN := hid (show putF ⟨bs, ls⟩ h k x = (⟨bs, ls⟩, false) by simp [putF, hL])
    have k_1037 : w3.cell? ⟨w.heap.size, 0, none⟩ = some (Value.slice a0 bs.length cap0) := bx_8.1.2 0 (by simp)
    have k_1038 : w3.cell? ⟨w.heap.size, 1, none⟩ = some (Value.slice a1 ls.length cap1) := bx_8.1.2 1 (by simp)
    have k_1039 : w3.cell? ⟨X_2.heap.size, 0, none⟩ = some (Value.slice none 0 0) := bx_15.1.2 0 (by simp)
    have k_1040 : w3.frozen? ⟨X_2.heap.size, 0, none⟩ = false := bx_15.2 0 (by simp)
    have k_1041 : w3.cell? ⟨X_2.heap.size, 1, none⟩ = some (Value.slice none 0 0) := bx_15.1.2 1 (by simp)
    have k_1042 : w3.frozen? ⟨X_2.heap.size, 1, none⟩ = false := bx_15.2 1 (by simp)
    have k_1043 : w3.cell? ⟨w2.heap.size, 0, none⟩ = some (Value.slice p0 bs.length c0) := bx_28.1.2 0 (by simp)
    have k_1044 : w3.frozen? ⟨w2.heap.size, 0, none⟩ = false := bx_28.2 0 (by simp)
    have k_1045 : w3.cell? ⟨w2.heap.size, 1, none⟩ = some (Value.slice p1 ls.length c1) := bx_28.1.2 1 (by simp)
    have k_1046 : w3.frozen? ⟨w2.heap.size, 1, none⟩ = false := bx_28.2 1 (by simp)
    have Ho0 := hid o0; clear o0
    have Ho1 := hid o1; clear o1
    go_wp2_with (first | (go_at_call 34; refine (spec_l1In _ _ _ _).mono ?_; rintro e w' ⟨rfl, rfl⟩) | (go_at_call 35; refine (spec_l1Value _ _).mono ?_; rintro e w' ⟨rfl, rfl⟩))
    refine bodyPost_ret (v := .tuple #[.agg #[Value.slice p0 bs.length c0, Value.slice p1 ls.length c1], .bool false]) ?_ rfl ⟨_, _, by rw [HN.out], ?_⟩
    · simp [results, Try.results28, go_sem, k_1037, k_1038, k_1039, k_1040, k_1041, k_1042, k_1043, k_1044, k_1045, k_1046]
    · rw [HN.out]
      refine ⟨by exact Flat.of_owns (owns_setCell (owns_setCell Ho0.out _ _ (by show X_2.heap.size < _; omega)) _ _ (by show X_2.heap.size < _; omega)), Flat.of_owns (owns_setCell (owns_setCell Ho1.out _ _ (by show X_2.heap.size < _; omega)) _ _ (by show X_2.heap.size < _; omega)), (Below.setCell (Below.setCell tt_36 (by show w.heap.size ≤ X_2.heap.size; omega) _) (by show w.heap.size ≤ X_2.heap.size; omega) _)⟩
  cases hK : inB k 0 2
  case false =>
    have HN := hid (show putF ⟨bs, ls⟩ h k x = (⟨bs, ls⟩, false) by simp [putF, hK])
    have k_1037 : w3.cell? ⟨w.heap.size, 0, none⟩ = some (Value.slice a0 bs.length cap0) := bx_8.1.2 0 (by simp)
    have k_1038 : w3.cell? ⟨w.heap.size, 1, none⟩ = some (Value.slice a1 ls.length cap1) := bx_8.1.2 1 (by simp)
    have k_1039 : w3.cell? ⟨X_2.heap.size, 0, none⟩ = some (Value.slice none 0 0) := bx_15.1.2 0 (by simp)
    have k_1040 : w3.frozen? ⟨X_2.heap.size, 0, none⟩ = false := bx_15.2 0 (by simp)
    have k_1041 : w3.cell? ⟨X_2.heap.size, 1, none⟩ = some (Value.slice none 0 0) := bx_15.1.2 1 (by simp)
    have k_1042 : w3.frozen? ⟨X_2.heap.size, 1, none⟩ = false := bx_15.2 1 (by simp)
    have k_1043 : w3.cell? ⟨w2.heap.size, 0, none⟩ = some (Value.slice p0 bs.length c0) := bx_28.1.2 0 (by simp)
    have k_1044 : w3.frozen? ⟨w2.heap.size, 0, none⟩ = false := bx_28.2 0 (by simp)
    have k_1045 : w3.cell? ⟨w2.heap.size, 1, none⟩ = some (Value.slice p1 ls.length c1) := bx_28.1.2 1 (by simp)
    have k_1046 : w3.frozen? ⟨w2.heap.size, 1, none⟩ = false := bx_28.2 1 (by simp)
    have Ho0 := hid o0; clear o0
    have Ho1 := hid o1; clear o1
    go_wp2_with (first | (go_at_call 34; refine (spec_l1In _ _ _ _).mono ?_; rintro e w' ⟨rfl, rfl⟩) | (go_at_call 35; refine (spec_l1Value _ _).mono ?_; rintro e w' ⟨rfl, rfl⟩))
    refine bodyPost_ret (v := .tuple #[.agg #[Value.slice p0 bs.length c0, Value.slice p1 ls.length c1], .bool false]) ?_ rfl ⟨_, _, by rw [HN.out], ?_⟩
    · simp [results, Try.results28, go_sem, k_1037, k_1038, k_1039, k_1040, k_1041, k_1042, k_1043, k_1044, k_1045, k_1046]
    · rw [HN.out]
      refine ⟨by exact Flat.of_owns (owns_setCell (owns_setCell Ho0.out _ _ (by show X_2.heap.size < _; omega)) _ _ (by show X_2.heap.size < _; omega)), Flat.of_owns (owns_setCell (owns_setCell Ho1.out _ _ (by show X_2.heap.size < _; omega)) _ _ (by show X_2.heap.size < _; omega)), (Below.setCell (Below.setCell tt_36 (by show w.heap.size ≤ X_2.heap.size; omega) _) (by show w.heap.size ≤ X_2.heap.size; omega) _)⟩
  cases hX : isVal x
  case false =>
    have HN := hid (show putF ⟨bs, ls⟩ h k x = (⟨bs, ls⟩, false) by simp [putF, hX])
    have k_1037 : w3.cell? ⟨w.heap.size, 0, none⟩ = some (Value.slice a0 bs.length cap0) := bx_8.1.2 0 (by simp)
    have k_1038 : w3.cell? ⟨w.heap.size, 1, none⟩ = some (Value.slice a1 ls.length cap1) := bx_8.1.2 1 (by simp)
    have k_1039 : w3.cell? ⟨X_2.heap.size, 0, none⟩ = some (Value.slice none 0 0) := bx_15.1.2 0 (by simp)
    have k_1040 : w3.frozen? ⟨X_2.heap.size, 0, none⟩ = false := bx_15.2 0 (by simp)
    have k_1041 : w3.cell? ⟨X_2.heap.size, 1, none⟩ = some (Value.slice none 0 0) := bx_15.1.2 1 (by simp)
    have k_1042 : w3.frozen? ⟨X_2.heap.size, 1, none⟩ = false := bx_15.2 1 (by simp)
    have k_1043 : w3.cell? ⟨w2.heap.size, 0, none⟩ = some (Value.slice p0 bs.length c0) := bx_28.1.2 0 (by simp)
    have k_1044 : w3.frozen? ⟨w2.heap.size, 0, none⟩ = false := bx_28.2 0 (by simp)
    have k_1045 : w3.cell? ⟨w2.heap.size, 1, none⟩ = some (Value.slice p1 ls.length c1) := bx_28.1.2 1 (by simp)
    have k_1046 : w3.frozen? ⟨w2.heap.size, 1, none⟩ = false := bx_28.2 1 (by simp)
    have Ho0 := hid o0; clear o0
    have Ho1 := hid o1; clear o1
    go_wp2_with (first | (go_at_call 34; refine (spec_l1In _ _ _ _).mono ?_; rintro e w' ⟨rfl, rfl⟩) | (go_at_call 35; refine (spec_l1Value _ _).mono ?_; rintro e w' ⟨rfl, rfl⟩))
    refine bodyPost_ret (v := .tuple #[.agg #[Value.slice p0 bs.length c0, Value.slice p1 ls.length c1], .bool false]) ?_ rfl ⟨_, _, by rw [HN.out], ?_⟩
    · simp [results, Try.results28, go_sem, k_1037, k_1038, k_1039, k_1040, k_1041, k_1042, k_1043, k_1044, k_1045, k_1046]
    · rw [HN.out]
      refine ⟨by exact Flat.of_owns (owns_setCell (owns_setCell Ho0.out _ _ (by show X_2.heap.size < _; omega)) _ _ (by show X_2.heap.size < _; omega)), Flat.of_owns (owns_setCell (owns_setCell Ho1.out _ _ (by show X_2.heap.size < _; omega)) _ _ (by show X_2.heap.size < _; omega)), (Below.setCell (Below.setCell tt_36 (by show w.heap.size ≤ X_2.heap.size; omega) _) (by show w.heap.size ≤ X_2.heap.size; omega) _)⟩
  obtain ⟨q, rfl, hqn, hA, _, _, hlen24, he⟩ := live_at hL
  have hk : k = 0 ∨ k = 1 ∨ k = 2 := by simp [inB] at hK; omega
  obtain ⟨⟨gg, fr, x0, x1, x2⟩, ho⟩ : ∃ o, Hid (bs[q / 8] = o) := ⟨_, hid rfl⟩
  have HY := hid (show putF ⟨bs, ls⟩ q k x = (⟨bs.set (q / 8) ((bs.getD (q / 8) zeroB).put k x), ls⟩, true) by simp only [putF, hL, hK, hX, he]; rfl)
  clear he
  obtain ⟨g, cg, hv, _, _, hgb, hgs, _, hfr⟩ := owns_at o0 (by omega)
  obtain ⟨rfl, rfl⟩ : p0 = some ⟨g, 0, none⟩ ∧ c0 = cg := by simpa using hv
  obtain ⟨_, hgw⟩ := lt0.out g rfl
  have hel : CellsO w3 g (q / 8 * 5) [Value.int .i64 gg, Value.bool fr, Value.int .i64 x0, Value.int .i64 x1, Value.int .i64 x2] := CellsO.ofBlock o0 (q / 8) hqn _ ho rfl
  clear hfr hv
  rcases hk with rfl | rfl | rfl
  ·
    have k_1037 : w3.cell? ⟨w.heap.size, 0, none⟩ = some (Value.slice a0 bs.length cap0) := bx_8.1.2 0 (by simp)
    have k_1038 : w3.cell? ⟨w.heap.size, 1, none⟩ = some (Value.slice a1 ls.length cap1) := bx_8.1.2 1 (by simp)
    have k_1039 : w3.cell? ⟨X_2.heap.size, 0, none⟩ = some (Value.slice none 0 0) := bx_15.1.2 0 (by simp)
    have k_1040 : w3.frozen? ⟨X_2.heap.size, 0, none⟩ = false := bx_15.2 0 (by simp)
    have k_1041 : w3.cell? ⟨X_2.heap.size, 1, none⟩ = some (Value.slice none 0 0) := bx_15.1.2 1 (by simp)
    have k_1042 : w3.frozen? ⟨X_2.heap.size, 1, none⟩ = false := bx_15.2 1 (by simp)
    have k_1043 : w3.cell? ⟨w2.heap.size, 0, none⟩ = some (Value.slice (some ⟨g, 0, none⟩) bs.length c0) := bx_28.1.2 0 (by simp)
    have k_1044 : w3.frozen? ⟨w2.heap.size, 0, none⟩ = false := bx_28.2 0 (by simp)
    have k_1045 : w3.cell? ⟨w2.heap.size, 1, none⟩ = some (Value.slice p1 ls.length c1) := bx_28.1.2 1 (by simp)
    have k_1046 : w3.frozen? ⟨w2.heap.size, 1, none⟩ = false := bx_28.2 1 (by simp)
    have k_1047 : w3.cell? ⟨g, q / 8 * 5, none⟩ = some (Value.int .i64 gg) := (hel.2 0 (by simp)).1
    have k_1048 : w3.frozen? ⟨g, q / 8 * 5, none⟩ = false := (hel.2 0 (by simp)).2
    have k_1049 : w3.cell? ⟨g, q / 8 * 5 + 1, none⟩ = some (Value.bool fr) := (hel.2 1 (by simp)).1
    have k_1050 : w3.frozen? ⟨g, q / 8 * 5 + 1, none⟩ = false := (hel.2 1 (by simp)).2
    have k_1051 : w3.cell? ⟨g, q / 8 * 5 + 2, none⟩ = some (Value.int .i64 x0) := (hel.2 2 (by simp)).1
    have k_1052 : w3.frozen? ⟨g, q / 8 * 5 + 2, none⟩ = false := (hel.2 2 (by simp)).2
    have k_1053 : w3.cell? ⟨g, q / 8 * 5 + 3, none⟩ = some (Value.int .i64 x1) := (hel.2 3 (by simp)).1
    have k_1054 : w3.frozen? ⟨g, q / 8 * 5 + 3, none⟩ = false := (hel.2 3 (by simp)).2
    have k_1055 : w3.cell? ⟨g, q / 8 * 5 + 4, none⟩ = some (Value.int .i64 x2) := (hel.2 4 (by simp)).1
    have k_1056 : w3.frozen? ⟨g, q / 8 * 5 + 4, none⟩ = false := (hel.2 4 (by simp)).2
    obtain ⟨X_1057, hX_1058⟩ : ∃ X, w3.setCell ⟨g, q / 8 * 5 + 2, none⟩ (Value.int .i64 x) = X := ⟨_, rfl⟩
    have gr_1059 : w3.grownBy X_1057 (some g) := by rw [← hX_1058]; exact (World.ownsRow.stored o0 (q / 8 * 5 + 2) (Value.int .i64 x)).2
    have zz_1060 : w3.heap.size ≤ X_1057.heap.size := by rw [← hX_1058]; simp [World.setCell]
    have tt_1061 : Below w.heap.size w X_1057 := by rw [← hX_1058]; exact Below.setCell tt_36 (by show w.heap.size ≤ g; omega) _
    replace o0 := owns_put o0 (q / 8 * 5 + 2) (Value.int .i64 x)
    rw [hX_1058] at o0
    replace o1 := World.ownsRow.kept o1 gr_1059 ap.2
    rw [set_w0 bs (q / 8) x hqn] at o0
    replace bx_8 : BoxF X_1057 w.heap.size [Value.slice a0 bs.length cap0, Value.slice a1 ls.length cap1] := by rw [← hX_1058]; exact BoxF.other bx_8 _ _ (by show ¬ g = w.heap.size; omega)
    replace bx_15 : BoxF X_1057 X_2.heap.size [Value.slice none 0 0, Value.slice none 0 0] := by rw [← hX_1058]; exact BoxF.other bx_15 _ _ (by show ¬ g = X_2.heap.size; omega)
    replace bx_28 : BoxF X_1057 w2.heap.size [Value.slice (some ⟨g, 0, none⟩) bs.length c0, Value.slice p1 ls.length c1] := by rw [← hX_1058]; exact BoxF.other bx_28 _ _ (by show ¬ g = w2.heap.size; omega)
    replace hel : CellsO X_1057 g (q / 8 * 5) [Value.int .i64 gg, Value.bool fr, Value.int .i64 x, Value.int .i64 x1, Value.int .i64 x2] := by rw [← hX_1058]; exact CellsO.set hel 2 (by simp) _
    have k_1062 : X_1057.cell? ⟨w.heap.size, 0, none⟩ = some (Value.slice a0 bs.length cap0) := bx_8.1.2 0 (by simp)
    have k_1063 : X_1057.cell? ⟨w.heap.size, 1, none⟩ = some (Value.slice a1 ls.length cap1) := bx_8.1.2 1 (by simp)
    have k_1064 : X_1057.cell? ⟨X_2.heap.size, 0, none⟩ = some (Value.slice none 0 0) := bx_15.1.2 0 (by simp)
    have k_1065 : X_1057.frozen? ⟨X_2.heap.size, 0, none⟩ = false := bx_15.2 0 (by simp)
    have k_1066 : X_1057.cell? ⟨X_2.heap.size, 1, none⟩ = some (Value.slice none 0 0) := bx_15.1.2 1 (by simp)
    have k_1067 : X_1057.frozen? ⟨X_2.heap.size, 1, none⟩ = false := bx_15.2 1 (by simp)
    have k_1068 : X_1057.cell? ⟨w2.heap.size, 0, none⟩ = some (Value.slice (some ⟨g, 0, none⟩) bs.length c0) := bx_28.1.2 0 (by simp)
    have k_1069 : X_1057.frozen? ⟨w2.heap.size, 0, none⟩ = false := bx_28.2 0 (by simp)
    have k_1070 : X_1057.cell? ⟨w2.heap.size, 1, none⟩ = some (Value.slice p1 ls.length c1) := bx_28.1.2 1 (by simp)
    have k_1071 : X_1057.frozen? ⟨w2.heap.size, 1, none⟩ = false := bx_28.2 1 (by simp)
    have k_1072 : X_1057.cell? ⟨g, q / 8 * 5, none⟩ = some (Value.int .i64 gg) := (hel.2 0 (by simp)).1
    have k_1073 : X_1057.frozen? ⟨g, q / 8 * 5, none⟩ = false := (hel.2 0 (by simp)).2
    have k_1074 : X_1057.cell? ⟨g, q / 8 * 5 + 1, none⟩ = some (Value.bool fr) := (hel.2 1 (by simp)).1
    have k_1075 : X_1057.frozen? ⟨g, q / 8 * 5 + 1, none⟩ = false := (hel.2 1 (by simp)).2
    have k_1076 : X_1057.cell? ⟨g, q / 8 * 5 + 2, none⟩ = some (Value.int .i64 x) := (hel.2 2 (by simp)).1
    have k_1077 : X_1057.frozen? ⟨g, q / 8 * 5 + 2, none⟩ = false := (hel.2 2 (by simp)).2
    have k_1078 : X_1057.cell? ⟨g, q / 8 * 5 + 3, none⟩ = some (Value.int .i64 x1) := (hel.2 3 (by simp)).1
    have k_1079 : X_1057.frozen? ⟨g, q / 8 * 5 + 3, none⟩ = false := (hel.2 3 (by simp)).2
    have k_1080 : X_1057.cell? ⟨g, q / 8 * 5 + 4, none⟩ = some (Value.int .i64 x2) := (hel.2 4 (by simp)).1
    have k_1081 : X_1057.frozen? ⟨g, q / 8 * 5 + 4, none⟩ = false := (hel.2 4 (by simp)).2
    have Ho0 := hid o0; clear o0
    have Ho1 := hid o1; clear o1
    go_wp2_with (first | (go_at_call 34; refine (spec_l1In _ _ _ _).mono ?_; rintro e w' ⟨rfl, rfl⟩) | (go_at_call 35; refine (spec_l1Value _ _).mono ?_; rintro e w' ⟨rfl, rfl⟩))
    refine bodyPost_ret (v := .tuple #[.agg #[Value.slice (some ⟨g, 0, none⟩) bs.length c0, Value.slice p1 ls.length c1], .bool true]) ?_ rfl ⟨_, _, by rw [HY.out], ?_⟩
    · simp [results, Try.results28, go_sem, k_1037, k_1038, k_1039, k_1040, k_1041, k_1042, k_1043, k_1044, k_1045, k_1046, k_1047, k_1048, k_1049, k_1050, k_1051, k_1052, k_1053, k_1054, k_1055, k_1056, hX_1058, k_1062, k_1063, k_1064, k_1065, k_1066, k_1067, k_1068, k_1069, k_1070, k_1071, k_1072, k_1073, k_1074, k_1075, k_1076, k_1077, k_1078, k_1079, k_1080, k_1081]
    · rw [HY.out]
      have hle : (bs.set (q / 8) ((bs.getD (q / 8) zeroB).put 0 x)).length = bs.length := by simp
      refine ⟨by unfold Blocks; rw [hle]; exact Flat.of_owns (owns_setCell (owns_setCell Ho0.out _ _ (by show X_2.heap.size < _; omega)) _ _ (by show X_2.heap.size < _; omega)), Flat.of_owns (owns_setCell (owns_setCell Ho1.out _ _ (by show X_2.heap.size < _; omega)) _ _ (by show X_2.heap.size < _; omega)), (Below.setCell (Below.setCell tt_1061 (by show w.heap.size ≤ X_2.heap.size; omega) _) (by show w.heap.size ≤ X_2.heap.size; omega) _)⟩
  ·
    have k_1037 : w3.cell? ⟨w.heap.size, 0, none⟩ = some (Value.slice a0 bs.length cap0) := bx_8.1.2 0 (by simp)
    have k_1038 : w3.cell? ⟨w.heap.size, 1, none⟩ = some (Value.slice a1 ls.length cap1) := bx_8.1.2 1 (by simp)
    have k_1039 : w3.cell? ⟨X_2.heap.size, 0, none⟩ = some (Value.slice none 0 0) := bx_15.1.2 0 (by simp)
    have k_1040 : w3.frozen? ⟨X_2.heap.size, 0, none⟩ = false := bx_15.2 0 (by simp)
    have k_1041 : w3.cell? ⟨X_2.heap.size, 1, none⟩ = some (Value.slice none 0 0) := bx_15.1.2 1 (by simp)
    have k_1042 : w3.frozen? ⟨X_2.heap.size, 1, none⟩ = false := bx_15.2 1 (by simp)
    have k_1043 : w3.cell? ⟨w2.heap.size, 0, none⟩ = some (Value.slice (some ⟨g, 0, none⟩) bs.length c0) := bx_28.1.2 0 (by simp)
    have k_1044 : w3.frozen? ⟨w2.heap.size, 0, none⟩ = false := bx_28.2 0 (by simp)
    have k_1045 : w3.cell? ⟨w2.heap.size, 1, none⟩ = some (Value.slice p1 ls.length c1) := bx_28.1.2 1 (by simp)
    have k_1046 : w3.frozen? ⟨w2.heap.size, 1, none⟩ = false := bx_28.2 1 (by simp)
    have k_1047 : w3.cell? ⟨g, q / 8 * 5, none⟩ = some (Value.int .i64 gg) := (hel.2 0 (by simp)).1
    have k_1048 : w3.frozen? ⟨g, q / 8 * 5, none⟩ = false := (hel.2 0 (by simp)).2
    have k_1049 : w3.cell? ⟨g, q / 8 * 5 + 1, none⟩ = some (Value.bool fr) := (hel.2 1 (by simp)).1
    have k_1050 : w3.frozen? ⟨g, q / 8 * 5 + 1, none⟩ = false := (hel.2 1 (by simp)).2
    have k_1051 : w3.cell? ⟨g, q / 8 * 5 + 2, none⟩ = some (Value.int .i64 x0) := (hel.2 2 (by simp)).1
    have k_1052 : w3.frozen? ⟨g, q / 8 * 5 + 2, none⟩ = false := (hel.2 2 (by simp)).2
    have k_1053 : w3.cell? ⟨g, q / 8 * 5 + 3, none⟩ = some (Value.int .i64 x1) := (hel.2 3 (by simp)).1
    have k_1054 : w3.frozen? ⟨g, q / 8 * 5 + 3, none⟩ = false := (hel.2 3 (by simp)).2
    have k_1055 : w3.cell? ⟨g, q / 8 * 5 + 4, none⟩ = some (Value.int .i64 x2) := (hel.2 4 (by simp)).1
    have k_1056 : w3.frozen? ⟨g, q / 8 * 5 + 4, none⟩ = false := (hel.2 4 (by simp)).2
    obtain ⟨X_1057, hX_1058⟩ : ∃ X, w3.setCell ⟨g, q / 8 * 5 + 3, none⟩ (Value.int .i64 x) = X := ⟨_, rfl⟩
    have gr_1059 : w3.grownBy X_1057 (some g) := by rw [← hX_1058]; exact (World.ownsRow.stored o0 (q / 8 * 5 + 3) (Value.int .i64 x)).2
    have zz_1060 : w3.heap.size ≤ X_1057.heap.size := by rw [← hX_1058]; simp [World.setCell]
    have tt_1061 : Below w.heap.size w X_1057 := by rw [← hX_1058]; exact Below.setCell tt_36 (by show w.heap.size ≤ g; omega) _
    replace o0 := owns_put o0 (q / 8 * 5 + 3) (Value.int .i64 x)
    rw [hX_1058] at o0
    replace o1 := World.ownsRow.kept o1 gr_1059 ap.2
    rw [set_w1 bs (q / 8) x hqn] at o0
    replace bx_8 : BoxF X_1057 w.heap.size [Value.slice a0 bs.length cap0, Value.slice a1 ls.length cap1] := by rw [← hX_1058]; exact BoxF.other bx_8 _ _ (by show ¬ g = w.heap.size; omega)
    replace bx_15 : BoxF X_1057 X_2.heap.size [Value.slice none 0 0, Value.slice none 0 0] := by rw [← hX_1058]; exact BoxF.other bx_15 _ _ (by show ¬ g = X_2.heap.size; omega)
    replace bx_28 : BoxF X_1057 w2.heap.size [Value.slice (some ⟨g, 0, none⟩) bs.length c0, Value.slice p1 ls.length c1] := by rw [← hX_1058]; exact BoxF.other bx_28 _ _ (by show ¬ g = w2.heap.size; omega)
    replace hel : CellsO X_1057 g (q / 8 * 5) [Value.int .i64 gg, Value.bool fr, Value.int .i64 x0, Value.int .i64 x, Value.int .i64 x2] := by rw [← hX_1058]; exact CellsO.set hel 3 (by simp) _
    have k_1062 : X_1057.cell? ⟨w.heap.size, 0, none⟩ = some (Value.slice a0 bs.length cap0) := bx_8.1.2 0 (by simp)
    have k_1063 : X_1057.cell? ⟨w.heap.size, 1, none⟩ = some (Value.slice a1 ls.length cap1) := bx_8.1.2 1 (by simp)
    have k_1064 : X_1057.cell? ⟨X_2.heap.size, 0, none⟩ = some (Value.slice none 0 0) := bx_15.1.2 0 (by simp)
    have k_1065 : X_1057.frozen? ⟨X_2.heap.size, 0, none⟩ = false := bx_15.2 0 (by simp)
    have k_1066 : X_1057.cell? ⟨X_2.heap.size, 1, none⟩ = some (Value.slice none 0 0) := bx_15.1.2 1 (by simp)
    have k_1067 : X_1057.frozen? ⟨X_2.heap.size, 1, none⟩ = false := bx_15.2 1 (by simp)
    have k_1068 : X_1057.cell? ⟨w2.heap.size, 0, none⟩ = some (Value.slice (some ⟨g, 0, none⟩) bs.length c0) := bx_28.1.2 0 (by simp)
    have k_1069 : X_1057.frozen? ⟨w2.heap.size, 0, none⟩ = false := bx_28.2 0 (by simp)
    have k_1070 : X_1057.cell? ⟨w2.heap.size, 1, none⟩ = some (Value.slice p1 ls.length c1) := bx_28.1.2 1 (by simp)
    have k_1071 : X_1057.frozen? ⟨w2.heap.size, 1, none⟩ = false := bx_28.2 1 (by simp)
    have k_1072 : X_1057.cell? ⟨g, q / 8 * 5, none⟩ = some (Value.int .i64 gg) := (hel.2 0 (by simp)).1
    have k_1073 : X_1057.frozen? ⟨g, q / 8 * 5, none⟩ = false := (hel.2 0 (by simp)).2
    have k_1074 : X_1057.cell? ⟨g, q / 8 * 5 + 1, none⟩ = some (Value.bool fr) := (hel.2 1 (by simp)).1
    have k_1075 : X_1057.frozen? ⟨g, q / 8 * 5 + 1, none⟩ = false := (hel.2 1 (by simp)).2
    have k_1076 : X_1057.cell? ⟨g, q / 8 * 5 + 2, none⟩ = some (Value.int .i64 x0) := (hel.2 2 (by simp)).1
    have k_1077 : X_1057.frozen? ⟨g, q / 8 * 5 + 2, none⟩ = false := (hel.2 2 (by simp)).2
    have k_1078 : X_1057.cell? ⟨g, q / 8 * 5 + 3, none⟩ = some (Value.int .i64 x) := (hel.2 3 (by simp)).1
    have k_1079 : X_1057.frozen? ⟨g, q / 8 * 5 + 3, none⟩ = false := (hel.2 3 (by simp)).2
    have k_1080 : X_1057.cell? ⟨g, q / 8 * 5 + 4, none⟩ = some (Value.int .i64 x2) := (hel.2 4 (by simp)).1
    have k_1081 : X_1057.frozen? ⟨g, q / 8 * 5 + 4, none⟩ = false := (hel.2 4 (by simp)).2
    have Ho0 := hid o0; clear o0
    have Ho1 := hid o1; clear o1
    go_wp2_with (first | (go_at_call 34; refine (spec_l1In _ _ _ _).mono ?_; rintro e w' ⟨rfl, rfl⟩) | (go_at_call 35; refine (spec_l1Value _ _).mono ?_; rintro e w' ⟨rfl, rfl⟩))
    refine bodyPost_ret (v := .tuple #[.agg #[Value.slice (some ⟨g, 0, none⟩) bs.length c0, Value.slice p1 ls.length c1], .bool true]) ?_ rfl ⟨_, _, by rw [HY.out], ?_⟩
    · simp [results, Try.results28, go_sem, k_1037, k_1038, k_1039, k_1040, k_1041, k_1042, k_1043, k_1044, k_1045, k_1046, k_1047, k_1048, k_1049, k_1050, k_1051, k_1052, k_1053, k_1054, k_1055, k_1056, hX_1058, k_1062, k_1063, k_1064, k_1065, k_1066, k_1067, k_1068, k_1069, k_1070, k_1071, k_1072, k_1073, k_1074, k_1075, k_1076, k_1077, k_1078, k_1079, k_1080, k_1081]
    · rw [HY.out]
      have hle : (bs.set (q / 8) ((bs.getD (q / 8) zeroB).put 1 x)).length = bs.length := by simp
      refine ⟨by unfold Blocks; rw [hle]; exact Flat.of_owns (owns_setCell (owns_setCell Ho0.out _ _ (by show X_2.heap.size < _; omega)) _ _ (by show X_2.heap.size < _; omega)), Flat.of_owns (owns_setCell (owns_setCell Ho1.out _ _ (by show X_2.heap.size < _; omega)) _ _ (by show X_2.heap.size < _; omega)), (Below.setCell (Below.setCell tt_1061 (by show w.heap.size ≤ X_2.heap.size; omega) _) (by show w.heap.size ≤ X_2.heap.size; omega) _)⟩
  ·
    have k_1037 : w3.cell? ⟨w.heap.size, 0, none⟩ = some (Value.slice a0 bs.length cap0) := bx_8.1.2 0 (by simp)
    have k_1038 : w3.cell? ⟨w.heap.size, 1, none⟩ = some (Value.slice a1 ls.length cap1) := bx_8.1.2 1 (by simp)
    have k_1039 : w3.cell? ⟨X_2.heap.size, 0, none⟩ = some (Value.slice none 0 0) := bx_15.1.2 0 (by simp)
    have k_1040 : w3.frozen? ⟨X_2.heap.size, 0, none⟩ = false := bx_15.2 0 (by simp)
    have k_1041 : w3.cell? ⟨X_2.heap.size, 1, none⟩ = some (Value.slice none 0 0) := bx_15.1.2 1 (by simp)
    have k_1042 : w3.frozen? ⟨X_2.heap.size, 1, none⟩ = false := bx_15.2 1 (by simp)
    have k_1043 : w3.cell? ⟨w2.heap.size, 0, none⟩ = some (Value.slice (some ⟨g, 0, none⟩) bs.length c0) := bx_28.1.2 0 (by simp)
    have k_1044 : w3.frozen? ⟨w2.heap.size, 0, none⟩ = false := bx_28.2 0 (by simp)
    have k_1045 : w3.cell? ⟨w2.heap.size, 1, none⟩ = some (Value.slice p1 ls.length c1) := bx_28.1.2 1 (by simp)
    have k_1046 : w3.frozen? ⟨w2.heap.size, 1, none⟩ = false := bx_28.2 1 (by simp)
    have k_1047 : w3.cell? ⟨g, q / 8 * 5, none⟩ = some (Value.int .i64 gg) := (hel.2 0 (by simp)).1
    have k_1048 : w3.frozen? ⟨g, q / 8 * 5, none⟩ = false := (hel.2 0 (by simp)).2
    have k_1049 : w3.cell? ⟨g, q / 8 * 5 + 1, none⟩ = some (Value.bool fr) := (hel.2 1 (by simp)).1
    have k_1050 : w3.frozen? ⟨g, q / 8 * 5 + 1, none⟩ = false := (hel.2 1 (by simp)).2
    have k_1051 : w3.cell? ⟨g, q / 8 * 5 + 2, none⟩ = some (Value.int .i64 x0) := (hel.2 2 (by simp)).1
    have k_1052 : w3.frozen? ⟨g, q / 8 * 5 + 2, none⟩ = false := (hel.2 2 (by simp)).2
    have k_1053 : w3.cell? ⟨g, q / 8 * 5 + 3, none⟩ = some (Value.int .i64 x1) := (hel.2 3 (by simp)).1
    have k_1054 : w3.frozen? ⟨g, q / 8 * 5 + 3, none⟩ = false := (hel.2 3 (by simp)).2
    have k_1055 : w3.cell? ⟨g, q / 8 * 5 + 4, none⟩ = some (Value.int .i64 x2) := (hel.2 4 (by simp)).1
    have k_1056 : w3.frozen? ⟨g, q / 8 * 5 + 4, none⟩ = false := (hel.2 4 (by simp)).2
    obtain ⟨X_1057, hX_1058⟩ : ∃ X, w3.setCell ⟨g, q / 8 * 5 + 4, none⟩ (Value.int .i64 x) = X := ⟨_, rfl⟩
    have gr_1059 : w3.grownBy X_1057 (some g) := by rw [← hX_1058]; exact (World.ownsRow.stored o0 (q / 8 * 5 + 4) (Value.int .i64 x)).2
    have zz_1060 : w3.heap.size ≤ X_1057.heap.size := by rw [← hX_1058]; simp [World.setCell]
    have tt_1061 : Below w.heap.size w X_1057 := by rw [← hX_1058]; exact Below.setCell tt_36 (by show w.heap.size ≤ g; omega) _
    replace o0 := owns_put o0 (q / 8 * 5 + 4) (Value.int .i64 x)
    rw [hX_1058] at o0
    replace o1 := World.ownsRow.kept o1 gr_1059 ap.2
    rw [set_w2 bs (q / 8) x hqn] at o0
    replace bx_8 : BoxF X_1057 w.heap.size [Value.slice a0 bs.length cap0, Value.slice a1 ls.length cap1] := by rw [← hX_1058]; exact BoxF.other bx_8 _ _ (by show ¬ g = w.heap.size; omega)
    replace bx_15 : BoxF X_1057 X_2.heap.size [Value.slice none 0 0, Value.slice none 0 0] := by rw [← hX_1058]; exact BoxF.other bx_15 _ _ (by show ¬ g = X_2.heap.size; omega)
    replace bx_28 : BoxF X_1057 w2.heap.size [Value.slice (some ⟨g, 0, none⟩) bs.length c0, Value.slice p1 ls.length c1] := by rw [← hX_1058]; exact BoxF.other bx_28 _ _ (by show ¬ g = w2.heap.size; omega)
    replace hel : CellsO X_1057 g (q / 8 * 5) [Value.int .i64 gg, Value.bool fr, Value.int .i64 x0, Value.int .i64 x1, Value.int .i64 x] := by rw [← hX_1058]; exact CellsO.set hel 4 (by simp) _
    have k_1062 : X_1057.cell? ⟨w.heap.size, 0, none⟩ = some (Value.slice a0 bs.length cap0) := bx_8.1.2 0 (by simp)
    have k_1063 : X_1057.cell? ⟨w.heap.size, 1, none⟩ = some (Value.slice a1 ls.length cap1) := bx_8.1.2 1 (by simp)
    have k_1064 : X_1057.cell? ⟨X_2.heap.size, 0, none⟩ = some (Value.slice none 0 0) := bx_15.1.2 0 (by simp)
    have k_1065 : X_1057.frozen? ⟨X_2.heap.size, 0, none⟩ = false := bx_15.2 0 (by simp)
    have k_1066 : X_1057.cell? ⟨X_2.heap.size, 1, none⟩ = some (Value.slice none 0 0) := bx_15.1.2 1 (by simp)
    have k_1067 : X_1057.frozen? ⟨X_2.heap.size, 1, none⟩ = false := bx_15.2 1 (by simp)
    have k_1068 : X_1057.cell? ⟨w2.heap.size, 0, none⟩ = some (Value.slice (some ⟨g, 0, none⟩) bs.length c0) := bx_28.1.2 0 (by simp)
    have k_1069 : X_1057.frozen? ⟨w2.heap.size, 0, none⟩ = false := bx_28.2 0 (by simp)
    have k_1070 : X_1057.cell? ⟨w2.heap.size, 1, none⟩ = some (Value.slice p1 ls.length c1) := bx_28.1.2 1 (by simp)
    have k_1071 : X_1057.frozen? ⟨w2.heap.size, 1, none⟩ = false := bx_28.2 1 (by simp)
    have k_1072 : X_1057.cell? ⟨g, q / 8 * 5, none⟩ = some (Value.int .i64 gg) := (hel.2 0 (by simp)).1
    have k_1073 : X_1057.frozen? ⟨g, q / 8 * 5, none⟩ = false := (hel.2 0 (by simp)).2
    have k_1074 : X_1057.cell? ⟨g, q / 8 * 5 + 1, none⟩ = some (Value.bool fr) := (hel.2 1 (by simp)).1
    have k_1075 : X_1057.frozen? ⟨g, q / 8 * 5 + 1, none⟩ = false := (hel.2 1 (by simp)).2
    have k_1076 : X_1057.cell? ⟨g, q / 8 * 5 + 2, none⟩ = some (Value.int .i64 x0) := (hel.2 2 (by simp)).1
    have k_1077 : X_1057.frozen? ⟨g, q / 8 * 5 + 2, none⟩ = false := (hel.2 2 (by simp)).2
    have k_1078 : X_1057.cell? ⟨g, q / 8 * 5 + 3, none⟩ = some (Value.int .i64 x1) := (hel.2 3 (by simp)).1
    have k_1079 : X_1057.frozen? ⟨g, q / 8 * 5 + 3, none⟩ = false := (hel.2 3 (by simp)).2
    have k_1080 : X_1057.cell? ⟨g, q / 8 * 5 + 4, none⟩ = some (Value.int .i64 x) := (hel.2 4 (by simp)).1
    have k_1081 : X_1057.frozen? ⟨g, q / 8 * 5 + 4, none⟩ = false := (hel.2 4 (by simp)).2
    have Ho0 := hid o0; clear o0
    have Ho1 := hid o1; clear o1
    go_wp2_with (first | (go_at_call 34; refine (spec_l1In _ _ _ _).mono ?_; rintro e w' ⟨rfl, rfl⟩) | (go_at_call 35; refine (spec_l1Value _ _).mono ?_; rintro e w' ⟨rfl, rfl⟩))
    refine bodyPost_ret (v := .tuple #[.agg #[Value.slice (some ⟨g, 0, none⟩) bs.length c0, Value.slice p1 ls.length c1], .bool true]) ?_ rfl ⟨_, _, by rw [HY.out], ?_⟩
    · simp [results, Try.results28, go_sem, k_1037, k_1038, k_1039, k_1040, k_1041, k_1042, k_1043, k_1044, k_1045, k_1046, k_1047, k_1048, k_1049, k_1050, k_1051, k_1052, k_1053, k_1054, k_1055, k_1056, hX_1058, k_1062, k_1063, k_1064, k_1065, k_1066, k_1067, k_1068, k_1069, k_1070, k_1071, k_1072, k_1073, k_1074, k_1075, k_1076, k_1077, k_1078, k_1079, k_1080, k_1081]
    · rw [HY.out]
      have hle : (bs.set (q / 8) ((bs.getD (q / 8) zeroB).put 2 x)).length = bs.length := by simp
      refine ⟨by unfold Blocks; rw [hle]; exact Flat.of_owns (owns_setCell (owns_setCell Ho0.out _ _ (by show X_2.heap.size < _; omega)) _ _ (by show X_2.heap.size < _; omega)), Flat.of_owns (owns_setCell (owns_setCell Ho1.out _ _ (by show X_2.heap.size < _; omega)) _ _ (by show X_2.heap.size < _; omega)), (Below.setCell (Below.setCell tt_1061 (by show w.heap.size ≤ X_2.heap.size; omega) _) (by show w.heap.size ≤ X_2.heap.size; omega) _)⟩
end Go.Proofs.Ytiibpgbdnbpmoaa
