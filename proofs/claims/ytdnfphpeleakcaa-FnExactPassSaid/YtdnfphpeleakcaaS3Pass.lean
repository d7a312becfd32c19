/- Chapter 3's model: Pass. -/
import Derived.Test.YtdnfphpeleakcaaY3c
import Derived.Test.YtdnfphpeleakcaaF3d
import Derived.Test.YtdnfphpeleakcaaS2giveO
import Derived.Test.YtdnfphpeleakcaaI3b
namespace Go.Proofs.Ytdnfphpeleakcaa
set_option maxRecDepth 100000
open Go.RowKit Go.Proofs Go.Own
open Go
set_option linter.unusedVariables false
set_option linter.unusedSimpArgs false

set_option maxRecDepth 100000 in set_option maxHeartbeats 2000000 in
theorem spec_Pass (v0 : Value) (bs : List Block) (v1 : Value) (ls : List Int) (v2 : Value) (ps : List Int) (v3 : Value) (gs : List Gone) (n : Int) (w : World) (h0 : Blocks w v0 bs) (hx0 : bs.length ≤ 1048576) (h1 : Ints w v1 ls) (hx1 : ls.length ≤ 1048576) (h2 : Ints w v2 ps) (hx2 : ps.length ≤ 1048576) (h3 : Gones w v3 gs) (hx3 : gs.length ≤ 1048576) :
    Calls Try.prog 32 #[.agg #[v0, v1, v2, v3, .int .i64 n]] w fun e w' => ∃ u0 u1 u2 u3, e = .returned (.tuple #[.agg #[u0, u1, u2, u3, .int .i64 (passF ⟨⟨bs, ls⟩, ps, gs, n⟩).1.passes], .int .i64 (passF ⟨⟨bs, ls⟩, ps, gs, n⟩).2.1, .int .i64 (passF ⟨⟨bs, ls⟩, ps, gs, n⟩).2.2]) ∧ Blocks w' u0 (passF ⟨⟨bs, ls⟩, ps, gs, n⟩).1.arena.blocks ∧ Ints w' u1 (passF ⟨⟨bs, ls⟩, ps, gs, n⟩).1.arena.list ∧ Ints w' u2 (passF ⟨⟨bs, ls⟩, ps, gs, n⟩).1.pins ∧ Gones w' u3 (passF ⟨⟨bs, ls⟩, ps, gs, n⟩).1.retired ∧ Below w.heap.size w w' := by
  have hh0 := h0
  obtain ⟨a0, cap0, rfl, hl0, hm0⟩ := h0.form
  have hh1 := h1
  obtain ⟨a1, cap1, rfl, hl1, hm1⟩ := h1.form
  have hh2 := h2
  obtain ⟨a2, cap2, rfl, hl2, hm2⟩ := h2.form
  have hh3 := h3
  obtain ⟨a3, cap3, rfl, hl3, hm3⟩ := h3.form
  have tt_1 : Below w.heap.size w w := Below.refl _ _
  obtain ⟨X_2, hX_3⟩ : ∃ X, w.alloc (.cells #[Value.slice a0 bs.length cap0, Value.slice a1 ls.length cap1, Value.slice a2 ps.length cap2, Value.slice a3 gs.length cap3, Value.int .i64 n] 30) = X := ⟨_, rfl⟩
  have bX_4 : Below w.heap.size w X_2 := by rw [← hX_3]; exact (Below.refl _ _).alloc (Nat.le_refl _) _
  have zs_5 : w.heap.size + 1 ≤ X_2.heap.size := by rw [← hX_3]; simp
  have zz_6 := Below.size bX_4
  have tt_7 : Below w.heap.size w X_2 := Below.trans tt_1 (Below.mono bX_4 (Below.size tt_1))
  replace h0 := Flat.below h0 bX_4
  replace h1 := Flat.below h1 bX_4
  replace h2 := Flat.below h2 bX_4
  replace h3 := Flat.below h3 bX_4
  have bx_8 : BoxF X_2 w.heap.size [Value.slice a0 bs.length cap0, Value.slice a1 ls.length cap1, Value.slice a2 ps.length cap2, Value.slice a3 gs.length cap3, Value.int .i64 n] := by rw [← hX_3]; exact BoxF.alloc _ _ _
  obtain ⟨X_9, hX_10⟩ : ∃ X, X_2.alloc (.cells #[Value.slice none 0 0, Value.slice none 0 0, Value.slice none 0 0, Value.slice none 0 0, Value.int .i64 0] 30) = X := ⟨_, rfl⟩
  have bX_11 : Below X_2.heap.size X_2 X_9 := by rw [← hX_10]; exact (Below.refl _ _).alloc (Nat.le_refl _) _
  have zs_12 : X_2.heap.size + 1 ≤ X_9.heap.size := by rw [← hX_10]; simp
  have zz_13 := Below.size bX_11
  have tt_14 : Below w.heap.size w X_9 := Below.trans tt_7 (Below.mono bX_11 (Below.size tt_7))
  replace bx_8 := BoxF.below bx_8 bX_11
  replace h0 := Flat.below h0 bX_11
  replace h1 := Flat.below h1 bX_11
  replace h2 := Flat.below h2 bX_11
  replace h3 := Flat.below h3 bX_11
  have bx_15 : BoxF X_9 X_2.heap.size [Value.slice none 0 0, Value.slice none 0 0, Value.slice none 0 0, Value.slice none 0 0, Value.int .i64 0] := by rw [← hX_10]; exact BoxF.alloc _ _ _
  have k_16 : X_9.cell? ⟨w.heap.size, 0, none⟩ = some (Value.slice a0 bs.length cap0) := bx_8.1.2 0 (by simp)
  have k_17 : X_9.cell? ⟨w.heap.size, 1, none⟩ = some (Value.slice a1 ls.length cap1) := bx_8.1.2 1 (by simp)
  have k_18 : X_9.cell? ⟨w.heap.size, 2, none⟩ = some (Value.slice a2 ps.length cap2) := bx_8.1.2 2 (by simp)
  have k_19 : X_9.cell? ⟨w.heap.size, 3, none⟩ = some (Value.slice a3 gs.length cap3) := bx_8.1.2 3 (by simp)
  have k_20 : X_9.cell? ⟨w.heap.size, 4, none⟩ = some (Value.int .i64 n) := bx_8.1.2 4 (by simp)
  have k_21 : X_9.cell? ⟨X_2.heap.size, 0, none⟩ = some (Value.slice none 0 0) := bx_15.1.2 0 (by simp)
  have k_22 : X_9.cell? ⟨X_2.heap.size, 1, none⟩ = some (Value.slice none 0 0) := bx_15.1.2 1 (by simp)
  have k_23 : X_9.cell? ⟨X_2.heap.size, 2, none⟩ = some (Value.slice none 0 0) := bx_15.1.2 2 (by simp)
  have k_24 : X_9.cell? ⟨X_2.heap.size, 3, none⟩ = some (Value.slice none 0 0) := bx_15.1.2 3 (by simp)
  have k_25 : X_9.cell? ⟨X_2.heap.size, 4, none⟩ = some (Value.int .i64 0) := bx_15.1.2 4 (by simp)
  go_enter Try.func32, Try.ntmps32
  go_wp2_with fail
  clear hX_3 hX_10 k_16 k_17 k_18 k_19 k_20 k_21 k_22 k_23 k_24 k_25
  refine (spec_l3Copy _ bs _ ls _ ps _ gs n _ h0 hx0 h1 hx1 h2 hx2 h3 hx3).mono ?_
  rintro e w2 ⟨u0, u1, u2, u3, rfl, o0, o1, o2, o3, ap01, ap02, ap03, ap12, ap13, ap23, b2⟩
  have lt0 := hid (World.ownsRow.lt o0)
  obtain ⟨p0, c0, rfl, hn0, hq0⟩ := owns_form o0
  have lt1 := hid (World.ownsRow.lt o1)
  obtain ⟨p1, c1, rfl, hn1, hq1⟩ := owns_form o1
  have lt2 := hid (World.ownsRow.lt o2)
  obtain ⟨p2, c2, rfl, hn2, hq2⟩ := owns_form o2
  have lt3 := hid (World.ownsRow.lt o3)
  obtain ⟨p3, c3, rfl, hn3, hq3⟩ := owns_form o3
  have zz_26 := Below.size b2
  have tt_27 : Below w.heap.size w w2 := Below.trans tt_14 (Below.mono b2 (Below.size tt_14))
  replace bx_8 := BoxF.below bx_8 b2
  replace bx_15 := BoxF.below bx_15 b2
  replace h0 := Flat.below h0 b2
  replace h1 := Flat.below h1 b2
  replace h2 := Flat.below h2 b2
  replace h3 := Flat.below h3 b2
  obtain ⟨X_28, hX_29⟩ : ∃ X, w2.alloc (.cells #[Value.slice p0 bs.length c0, Value.slice p1 ls.length c1, Value.slice p2 ps.length c2, Value.slice p3 gs.length c3, Value.int .i64 n] 30) = X := ⟨_, rfl⟩
  have bX_30 : Below w2.heap.size w2 X_28 := by rw [← hX_29]; exact (Below.refl _ _).alloc (Nat.le_refl _) _
  have zs_31 : w2.heap.size + 1 ≤ X_28.heap.size := by rw [← hX_29]; simp
  have zz_32 := Below.size bX_30
  have tt_33 : Below w.heap.size w X_28 := Below.trans tt_27 (Below.mono bX_30 (Below.size tt_27))
  replace bx_8 := BoxF.below bx_8 bX_30
  replace bx_15 := BoxF.below bx_15 bX_30
  replace o0 := owns_below o0 bX_30
  replace o1 := owns_below o1 bX_30
  replace o2 := owns_below o2 bX_30
  replace o3 := owns_below o3 bX_30
  replace h0 := Flat.below h0 bX_30
  replace h1 := Flat.below h1 bX_30
  replace h2 := Flat.below h2 bX_30
  replace h3 := Flat.below h3 bX_30
  have bx_34 : BoxF X_28 w2.heap.size [Value.slice p0 bs.length c0, Value.slice p1 ls.length c1, Value.slice p2 ps.length c2, Value.slice p3 gs.length c3, Value.int .i64 n] := by rw [← hX_29]; exact BoxF.alloc _ _ _
  have hOUT := hX_29
  have hbase : X_2.heap.size < X_9.heap.size := by omega
  have k_35 : X_28.cell? ⟨w.heap.size, 0, none⟩ = some (Value.slice a0 bs.length cap0) := bx_8.1.2 0 (by simp)
  have k_36 : X_28.cell? ⟨w.heap.size, 1, none⟩ = some (Value.slice a1 ls.length cap1) := bx_8.1.2 1 (by simp)
  have k_37 : X_28.cell? ⟨w.heap.size, 2, none⟩ = some (Value.slice a2 ps.length cap2) := bx_8.1.2 2 (by simp)
  have k_38 : X_28.cell? ⟨w.heap.size, 3, none⟩ = some (Value.slice a3 gs.length cap3) := bx_8.1.2 3 (by simp)
  have k_39 : X_28.cell? ⟨w.heap.size, 4, none⟩ = some (Value.int .i64 n) := bx_8.1.2 4 (by simp)
  have k_40 : X_28.cell? ⟨X_2.heap.size, 0, none⟩ = some (Value.slice none 0 0) := bx_15.1.2 0 (by simp)
  have k_41 : X_28.cell? ⟨X_2.heap.size, 1, none⟩ = some (Value.slice none 0 0) := bx_15.1.2 1 (by simp)
  have k_42 : X_28.cell? ⟨X_2.heap.size, 2, none⟩ = some (Value.slice none 0 0) := bx_15.1.2 2 (by simp)
  have k_43 : X_28.cell? ⟨X_2.heap.size, 3, none⟩ = some (Value.slice none 0 0) := bx_15.1.2 3 (by simp)
  have k_44 : X_28.cell? ⟨X_2.heap.size, 4, none⟩ = some (Value.int .i64 0) := bx_15.1.2 4 (by simp)
  have k_45 : X_28.cell? ⟨w2.heap.size, 0, none⟩ = some (Value.slice p0 bs.length c0) := bx_34.1.2 0 (by simp)
  have k_46 : X_28.cell? ⟨w2.heap.size, 1, none⟩ = some (Value.slice p1 ls.length c1) := bx_34.1.2 1 (by simp)
  have k_47 : X_28.cell? ⟨w2.heap.size, 2, none⟩ = some (Value.slice p2 ps.length c2) := bx_34.1.2 2 (by simp)
  have k_48 : X_28.cell? ⟨w2.heap.size, 3, none⟩ = some (Value.slice p3 gs.length c3) := bx_34.1.2 3 (by simp)
  have k_49 : X_28.cell? ⟨w2.heap.size, 4, none⟩ = some (Value.int .i64 n) := bx_34.1.2 4 (by simp)
  go_wp2_with fail
  clear hX_29 k_35 k_36 k_37 k_38 k_39 k_40 k_41 k_42 k_43 k_44 k_45 k_46 k_47 k_48 k_49
  have hT : X_28.heap[w2.heap.size]? = some (.cells #[Value.slice p0 bs.length c0, Value.slice p1 ls.length c1, Value.slice p2 ps.length c2, Value.slice p3 gs.length c3, Value.int .i64 n] 30 (0, 0)) := by rw [← hOUT]; exact heap_alloc_new _ _
  clear hOUT
  refine (spec_YardOk0 _ bs _ ls _ ps _ gs n _ h0 h1 h2 h3).mono ?_
  rintro e w3 ⟨rfl, b3⟩
  have zz_50 := Below.size b3
  have tt_51 : Below w.heap.size w w3 := Below.trans tt_33 (Below.mono b3 (Below.size tt_33))
  replace bx_8 := BoxF.below bx_8 b3
  replace bx_15 := BoxF.below bx_15 b3
  replace bx_34 := BoxF.below bx_34 b3
  replace o0 := owns_below o0 b3
  replace o1 := owns_below o1 b3
  replace o2 := owns_below o2 b3
  replace o3 := owns_below o3 b3
  replace h0 := Flat.below h0 b3
  replace h1 := Flat.below h1 b3
  replace h2 := Flat.below h2 b3
  replace h3 := Flat.below h3 b3
  replace hT := (b3.block _ (by omega)).trans hT
  cases hY : yardOk ⟨⟨bs, ls⟩, ps, gs, n⟩
  case false =>
    have HN := hid (show passF ⟨⟨bs, ls⟩, ps, gs, n⟩ = (⟨⟨bs, ls⟩, ps, gs, n⟩, 0, 1) by simp [passF, hY])
    have k_1052 : w3.cell? ⟨w.heap.size, 0, none⟩ = some (Value.slice a0 bs.length cap0) := bx_8.1.2 0 (by simp)
    have k_1053 : w3.cell? ⟨w.heap.size, 1, none⟩ = some (Value.slice a1 ls.length cap1) := bx_8.1.2 1 (by simp)
    have k_1054 : w3.cell? ⟨w.heap.size, 2, none⟩ = some (Value.slice a2 ps.length cap2) := bx_8.1.2 2 (by simp)
    have k_1055 : w3.cell? ⟨w.heap.size, 3, none⟩ = some (Value.slice a3 gs.length cap3) := bx_8.1.2 3 (by simp)
    have k_1056 : w3.cell? ⟨w.heap.size, 4, none⟩ = some (Value.int .i64 n) := bx_8.1.2 4 (by simp)
    have k_1057 : w3.cell? ⟨X_2.heap.size, 0, none⟩ = some (Value.slice none 0 0) := bx_15.1.2 0 (by simp)
    have k_1058 : w3.frozen? ⟨X_2.heap.size, 0, none⟩ = false := bx_15.2 0 (by simp)
    have k_1059 : w3.cell? ⟨X_2.heap.size, 1, none⟩ = some (Value.slice none 0 0) := bx_15.1.2 1 (by simp)
    have k_1060 : w3.frozen? ⟨X_2.heap.size, 1, none⟩ = false := bx_15.2 1 (by simp)
    have k_1061 : w3.cell? ⟨X_2.heap.size, 2, none⟩ = some (Value.slice none 0 0) := bx_15.1.2 2 (by simp)
    have k_1062 : w3.frozen? ⟨X_2.heap.size, 2, none⟩ = false := bx_15.2 2 (by simp)
    have k_1063 : w3.cell? ⟨X_2.heap.size, 3, none⟩ = some (Value.slice none 0 0) := bx_15.1.2 3 (by simp)
    have k_1064 : w3.frozen? ⟨X_2.heap.size, 3, none⟩ = false := bx_15.2 3 (by simp)
    have k_1065 : w3.cell? ⟨X_2.heap.size, 4, none⟩ = some (Value.int .i64 0) := bx_15.1.2 4 (by simp)
    have k_1066 : w3.frozen? ⟨X_2.heap.size, 4, none⟩ = false := bx_15.2 4 (by simp)
    have k_1067 : w3.cell? ⟨w2.heap.size, 0, none⟩ = some (Value.slice p0 bs.length c0) := bx_34.1.2 0 (by simp)
    have k_1068 : w3.frozen? ⟨w2.heap.size, 0, none⟩ = false := bx_34.2 0 (by simp)
    have k_1069 : w3.cell? ⟨w2.heap.size, 1, none⟩ = some (Value.slice p1 ls.length c1) := bx_34.1.2 1 (by simp)
    have k_1070 : w3.frozen? ⟨w2.heap.size, 1, none⟩ = false := bx_34.2 1 (by simp)
    have k_1071 : w3.cell? ⟨w2.heap.size, 2, none⟩ = some (Value.slice p2 ps.length c2) := bx_34.1.2 2 (by simp)
    have k_1072 : w3.frozen? ⟨w2.heap.size, 2, none⟩ = false := bx_34.2 2 (by simp)
    have k_1073 : w3.cell? ⟨w2.heap.size, 3, none⟩ = some (Value.slice p3 gs.length c3) := bx_34.1.2 3 (by simp)
    have k_1074 : w3.frozen? ⟨w2.heap.size, 3, none⟩ = false := bx_34.2 3 (by simp)
    have k_1075 : w3.cell? ⟨w2.heap.size, 4, none⟩ = some (Value.int .i64 n) := bx_34.1.2 4 (by simp)
    have k_1076 : w3.frozen? ⟨w2.heap.size, 4, none⟩ = false := bx_34.2 4 (by simp)
    have H0 := hid o0
    have H1 := hid o1
    have H2 := hid o2
    have H3 := hid o3
    clear o0 o1 o2 o3
    go_wp2_with (fail)
    refine bodyPost_ret (v := .tuple #[.agg #[Value.slice p0 bs.length c0, Value.slice p1 ls.length c1, Value.slice p2 ps.length c2, Value.slice p3 gs.length c3, Value.int .i64 n], .int .i64 0, .int .i64 1]) ?_ rfl ⟨_, _, _, _, by rw [HN.out], ?_⟩
    · simp [results, Try.results32, go_sem, k_1057, k_1059, k_1061, k_1063, k_1065]
    · rw [HN.out]
      dsimp only
      refine ⟨?_, ?_, ?_, ?_, (below_set5 tt_51 (by omega) _ _ _ _ _)⟩
      · unfold Blocks
        exact Flat.of_owns (owns_set5 H0.out hbase _ _ _ _ _)
      · unfold Ints
        exact Flat.of_owns (owns_set5 H1.out hbase _ _ _ _ _)
      · unfold Ints
        exact Flat.of_owns (owns_set5 H2.out hbase _ _ _ _ _)
      · unfold Gones
        exact Flat.of_owns (owns_set5 H3.out hbase _ _ _ _ _)
  cases hM : (n == 1000000)
  case true =>
    have HN := hid (show passF ⟨⟨bs, ls⟩, ps, gs, n⟩ = (⟨⟨bs, ls⟩, ps, gs, n⟩, 0, 1) by simp at hM; simp [passF, hM])
    have k_1052 : w3.cell? ⟨w.heap.size, 0, none⟩ = some (Value.slice a0 bs.length cap0) := bx_8.1.2 0 (by simp)
    have k_1053 : w3.cell? ⟨w.heap.size, 1, none⟩ = some (Value.slice a1 ls.length cap1) := bx_8.1.2 1 (by simp)
    have k_1054 : w3.cell? ⟨w.heap.size, 2, none⟩ = some (Value.slice a2 ps.length cap2) := bx_8.1.2 2 (by simp)
    have k_1055 : w3.cell? ⟨w.heap.size, 3, none⟩ = some (Value.slice a3 gs.length cap3) := bx_8.1.2 3 (by simp)
    have k_1056 : w3.cell? ⟨w.heap.size, 4, none⟩ = some (Value.int .i64 n) := bx_8.1.2 4 (by simp)
    have k_1057 : w3.cell? ⟨X_2.heap.size, 0, none⟩ = some (Value.slice none 0 0) := bx_15.1.2 0 (by simp)
    have k_1058 : w3.frozen? ⟨X_2.heap.size, 0, none⟩ = false := bx_15.2 0 (by simp)
    have k_1059 : w3.cell? ⟨X_2.heap.size, 1, none⟩ = some (Value.slice none 0 0) := bx_15.1.2 1 (by simp)
    have k_1060 : w3.frozen? ⟨X_2.heap.size, 1, none⟩ = false := bx_15.2 1 (by simp)
    have k_1061 : w3.cell? ⟨X_2.heap.size, 2, none⟩ = some (Value.slice none 0 0) := bx_15.1.2 2 (by simp)
    have k_1062 : w3.frozen? ⟨X_2.heap.size, 2, none⟩ = false := bx_15.2 2 (by simp)
    have k_1063 : w3.cell? ⟨X_2.heap.size, 3, none⟩ = some (Value.slice none 0 0) := bx_15.1.2 3 (by simp)
    have k_1064 : w3.frozen? ⟨X_2.heap.size, 3, none⟩ = false := bx_15.2 3 (by simp)
    have k_1065 : w3.cell? ⟨X_2.heap.size, 4, none⟩ = some (Value.int .i64 0) := bx_15.1.2 4 (by simp)
    have k_1066 : w3.frozen? ⟨X_2.heap.size, 4, none⟩ = false := bx_15.2 4 (by simp)
    have k_1067 : w3.cell? ⟨w2.heap.size, 0, none⟩ = some (Value.slice p0 bs.length c0) := bx_34.1.2 0 (by simp)
    have k_1068 : w3.frozen? ⟨w2.heap.size, 0, none⟩ = false := bx_34.2 0 (by simp)
    have k_1069 : w3.cell? ⟨w2.heap.size, 1, none⟩ = some (Value.slice p1 ls.length c1) := bx_34.1.2 1 (by simp)
    have k_1070 : w3.frozen? ⟨w2.heap.size, 1, none⟩ = false := bx_34.2 1 (by simp)
    have k_1071 : w3.cell? ⟨w2.heap.size, 2, none⟩ = some (Value.slice p2 ps.length c2) := bx_34.1.2 2 (by simp)
    have k_1072 : w3.frozen? ⟨w2.heap.size, 2, none⟩ = false := bx_34.2 2 (by simp)
    have k_1073 : w3.cell? ⟨w2.heap.size, 3, none⟩ = some (Value.slice p3 gs.length c3) := bx_34.1.2 3 (by simp)
    have k_1074 : w3.frozen? ⟨w2.heap.size, 3, none⟩ = false := bx_34.2 3 (by simp)
    have k_1075 : w3.cell? ⟨w2.heap.size, 4, none⟩ = some (Value.int .i64 n) := bx_34.1.2 4 (by simp)
    have k_1076 : w3.frozen? ⟨w2.heap.size, 4, none⟩ = false := bx_34.2 4 (by simp)
    have H0 := hid o0
    have H1 := hid o1
    have H2 := hid o2
    have H3 := hid o3
    clear o0 o1 o2 o3
    go_wp2_with (fail)
    refine bodyPost_ret (v := .tuple #[.agg #[Value.slice p0 bs.length c0, Value.slice p1 ls.length c1, Value.slice p2 ps.length c2, Value.slice p3 gs.length c3, Value.int .i64 n], .int .i64 0, .int .i64 1]) ?_ rfl ⟨_, _, _, _, by rw [HN.out], ?_⟩
    · simp [results, Try.results32, go_sem, k_1057, k_1059, k_1061, k_1063, k_1065]
    · rw [HN.out]
      dsimp only
      refine ⟨?_, ?_, ?_, ?_, (below_set5 tt_51 (by omega) _ _ _ _ _)⟩
      · unfold Blocks
        exact Flat.of_owns (owns_set5 H0.out hbase _ _ _ _ _)
      · unfold Ints
        exact Flat.of_owns (owns_set5 H1.out hbase _ _ _ _ _)
      · unfold Ints
        exact Flat.of_owns (owns_set5 H2.out hbase _ _ _ _ _)
      · unfold Gones
        exact Flat.of_owns (owns_set5 H3.out hbase _ _ _ _ _)
  have HN := hid (show passF ⟨⟨bs, ls⟩, ps, gs, n⟩ = (⟨(passAt ⟨⟨bs, ls⟩, ps, gs, n⟩ gs.length).1, ps, (passAt ⟨⟨bs, ls⟩, ps, gs, n⟩ gs.length).2.1, n + 1⟩, (passAt ⟨⟨bs, ls⟩, ps, gs, n⟩ gs.length).2.2, 0) by
    have hn : ¬ n = 1000000 := by simpa using hM
    simp [passF, hY, hn])
  obtain ⟨yb24, yl24, yp6, yg24, yn0, yn1⟩ := yardOk_parts hY
  have hn : ¬ n = 1000000 := by simpa using hM
  have HD : Hid (passAt ⟨⟨bs, ls⟩, ps, gs, n⟩ 0 = (⟨bs, ls⟩, [], 0)) := hid rfl
  have Y0 : YardIn w3 X_9.heap.size w2.heap.size (Value.slice p0 bs.length c0) bs (Value.slice p1 ls.length c1) ls (Value.slice p2 ps.length c2) ps (Value.slice p3 gs.length c3) gs n := ⟨bx_34, ⟨_, hT⟩, o0, o1, o2, o3, ap12⟩
  have HS := hid (show w.heap.size < X_2.heap.size ∧ X_2.heap.size < X_9.heap.size ∧ X_9.heap.size ≤ w2.heap.size ∧ w2.heap.size < w3.heap.size from ⟨by omega, by omega, by omega, by omega⟩)
  have k_52 : w3.cell? ⟨w.heap.size, 0, none⟩ = some (Value.slice a0 bs.length cap0) := bx_8.1.2 0 (by simp)
  have k_53 : w3.cell? ⟨w.heap.size, 1, none⟩ = some (Value.slice a1 ls.length cap1) := bx_8.1.2 1 (by simp)
  have k_54 : w3.cell? ⟨w.heap.size, 2, none⟩ = some (Value.slice a2 ps.length cap2) := bx_8.1.2 2 (by simp)
  have k_55 : w3.cell? ⟨w.heap.size, 3, none⟩ = some (Value.slice a3 gs.length cap3) := bx_8.1.2 3 (by simp)
  have k_56 : w3.cell? ⟨w.heap.size, 4, none⟩ = some (Value.int .i64 n) := bx_8.1.2 4 (by simp)
  have k_57 : w3.cell? ⟨X_2.heap.size, 0, none⟩ = some (Value.slice none 0 0) := bx_15.1.2 0 (by simp)
  have k_58 : w3.frozen? ⟨X_2.heap.size, 0, none⟩ = false := bx_15.2 0 (by simp)
  have k_59 : w3.cell? ⟨X_2.heap.size, 1, none⟩ = some (Value.slice none 0 0) := bx_15.1.2 1 (by simp)
  have k_60 : w3.frozen? ⟨X_2.heap.size, 1, none⟩ = false := bx_15.2 1 (by simp)
  have k_61 : w3.cell? ⟨X_2.heap.size, 2, none⟩ = some (Value.slice none 0 0) := bx_15.1.2 2 (by simp)
  have k_62 : w3.frozen? ⟨X_2.heap.size, 2, none⟩ = false := bx_15.2 2 (by simp)
  have k_63 : w3.cell? ⟨X_2.heap.size, 3, none⟩ = some (Value.slice none 0 0) := bx_15.1.2 3 (by simp)
  have k_64 : w3.frozen? ⟨X_2.heap.size, 3, none⟩ = false := bx_15.2 3 (by simp)
  have k_65 : w3.cell? ⟨X_2.heap.size, 4, none⟩ = some (Value.int .i64 0) := bx_15.1.2 4 (by simp)
  have k_66 : w3.frozen? ⟨X_2.heap.size, 4, none⟩ = false := bx_15.2 4 (by simp)
  have k_67 : w3.cell? ⟨w2.heap.size, 0, none⟩ = some (Value.slice p0 bs.length c0) := bx_34.1.2 0 (by simp)
  have k_68 : w3.frozen? ⟨w2.heap.size, 0, none⟩ = false := bx_34.2 0 (by simp)
  have k_69 : w3.cell? ⟨w2.heap.size, 1, none⟩ = some (Value.slice p1 ls.length c1) := bx_34.1.2 1 (by simp)
  have k_70 : w3.frozen? ⟨w2.heap.size, 1, none⟩ = false := bx_34.2 1 (by simp)
  have k_71 : w3.cell? ⟨w2.heap.size, 2, none⟩ = some (Value.slice p2 ps.length c2) := bx_34.1.2 2 (by simp)
  have k_72 : w3.frozen? ⟨w2.heap.size, 2, none⟩ = false := bx_34.2 2 (by simp)
  have k_73 : w3.cell? ⟨w2.heap.size, 3, none⟩ = some (Value.slice p3 gs.length c3) := bx_34.1.2 3 (by simp)
  have k_74 : w3.frozen? ⟨w2.heap.size, 3, none⟩ = false := bx_34.2 3 (by simp)
  have k_75 : w3.cell? ⟨w2.heap.size, 4, none⟩ = some (Value.int .i64 n) := bx_34.1.2 4 (by simp)
  have k_76 : w3.frozen? ⟨w2.heap.size, 4, none⟩ = false := bx_34.2 4 (by simp)
  have ARG : Box w3 w.heap.size [Value.slice a0 bs.length cap0, Value.slice a1 ls.length cap1, Value.slice a2 ps.length cap2, Value.slice a3 gs.length cap3, Value.int .i64 n] := bx_8.1
  have RES := bx_15
  have TOT := tt_51
  obtain ⟨X, hX⟩ : ∃ X, w3.setCell ⟨w2.heap.size, 3, none⟩ (.slice none 0 0) = X := ⟨_, rfl⟩
  have Y1 : YardIn X X_9.heap.size w2.heap.size (Value.slice p0 bs.length c0) bs (Value.slice p1 ls.length c1) ls (Value.slice p2 ps.length c2) ps (.slice none 0 0) [] n := by rw [← hX]; exact Y0.retired (World.ownsRow_nil _ _ _ _)
  have ARGX : Box X w.heap.size [Value.slice a0 bs.length cap0, Value.slice a1 ls.length cap1, Value.slice a2 ps.length cap2, Value.slice a3 gs.length cap3, Value.int .i64 n] := by rw [← hX]; exact ARG.other _ _ (by show w2.heap.size ≠ w.heap.size; have := HS.out; omega)
  have RESX : BoxF X X_2.heap.size [.slice none 0 0, .slice none 0 0, .slice none 0 0, .slice none 0 0, .int .i64 0] := by rw [← hX]; exact RES.other _ _ (by show w2.heap.size ≠ X_2.heap.size; have := HS.out; omega)
  have TOTX : Below w.heap.size w X := by rw [← hX]; exact TOT.setCell (by show w.heap.size ≤ w2.heap.size; have := HS.out; omega) _
  have hsX : X.heap.size = w3.heap.size := by rw [← hX]; simp [World.setCell]
  have HX := hid (show w3.heap.size ≤ X.heap.size by omega)
  go_wp2
  go_loop [6, 7] (fun m i => ∃ q : Nat, q ≤ ps.length ∧ i = .int .i64 q ∧ m = .int .i64 (leastAt ps q)) (fun _ i => ps.length - (intOf i).toNat)
  case atStart => exact ⟨0, by omega, rfl, rfl⟩
  case round =>
    obtain ⟨q, hq, rfl, rfl⟩ := hrel
    by_cases hlt : q < ps.length
    · obtain ⟨x, hx⟩ : ∃ x, Hid (ps[q] = x) := ⟨_, hid rfl⟩
      have hst := hid (leastAt_succ ps q hlt x hx.out)
      obtain ⟨bb, off, rfl, hbs, ca⟩ := Ints.at h2 q hlt
      rw [hx.out] at ca
      cases h0x : decide (0 ≤ x)
      case false =>
        go_wp2
        go_round
        case rel => exact ⟨q+1, by omega, by go_num, by rw [hst.out, if_neg (by simpa using h0x)]⟩
        case measure => simp [intOf]; omega
      case true =>
        go_wp2_with (first | (go_at_call 74; refine (spec_l1Min _ _ _).mono ?_; rintro e w' ⟨rfl, rfl⟩))
        go_round
        case rel => exact ⟨q+1, by omega, by go_num, by rw [hst.out, if_pos (by simpa using h0x)]⟩
        case measure => simp [intOf]; omega
    · obtain rfl : q = ps.length := by omega
      obtain ⟨Le, hLe⟩ : ∃ m, Hid (leastAt ps ps.length = m) := ⟨_, hid rfl⟩
      have hLf := hid (show leastF ps = Le by rw [← leastAt_all]; exact hLe.out)
      rw [hLe.out]
      clear hlt hq hLe
      go_wp2
      clear hX k_52 k_53 k_54 k_55 k_56 k_57 k_58 k_59 k_60 k_61 k_62 k_63 k_64 k_65 k_66 k_67 k_68 k_69 k_70 k_71 k_72 k_73 k_74 k_75 k_76
      clear Y0 ARG RES TOT hsX hT o0 o1 o2 o3
      go_loopw [8, 9] (fun m i wr => ∃ (K : Nat) (vb vl vr : Value), K ≤ gs.length ∧ i = .int .i64 K ∧ m = .int .i64 (passAt ⟨⟨bs, ls⟩, ps, gs, n⟩ K).2.2 ∧ YardIn wr X_9.heap.size w2.heap.size vb (passAt ⟨⟨bs, ls⟩, ps, gs, n⟩ K).1.blocks vl (passAt ⟨⟨bs, ls⟩, ps, gs, n⟩ K).1.list (Value.slice p2 ps.length c2) ps vr (passAt ⟨⟨bs, ls⟩, ps, gs, n⟩ K).2.1 n ∧ Box wr w.heap.size [Value.slice a0 bs.length cap0, Value.slice a1 ls.length cap1, Value.slice a2 ps.length cap2, Value.slice a3 gs.length cap3, Value.int .i64 n] ∧ BoxF wr X_2.heap.size [.slice none 0 0, .slice none 0 0, .slice none 0 0, .slice none 0 0, .int .i64 0] ∧ Below w.heap.size w wr ∧ w3.heap.size ≤ wr.heap.size) (fun _ i _ => gs.length - (intOf i).toNat)
      case atStart => exact ⟨0, _, _, _, by omega, rfl, rfl, Y1, ARGX, RESX, TOTX, HX.out⟩
      case round =>
        clear Y1 ARGX RESX TOTX
        obtain ⟨K, vb, vl, vr, hK, rfl, rfl, Yr, ARG, RES, TOT, hsz⟩ := hrel
        have hlen := pass_lens ⟨⟨bs, ls⟩, ps, gs, n⟩ K hK
        obtain ⟨PA, hPA⟩ : ∃ p, Hid (passAt ⟨⟨bs, ls⟩, ps, gs, n⟩ K = p) := ⟨_, hid rfl⟩
        rw [hPA.out] at hlen Yr ⊢
        obtain ⟨⟨AB, AL⟩, KL, M⟩ := PA
        dsimp only at hlen Yr ⊢
        obtain ⟨hl1, hl2, hl3, hm0, hm1⟩ := hlen
        have hsh := Yr.rb; obtain ⟨pb, mb, cb, rfl⟩ := owns_form3 hsh
        have hsh2 := Yr.rl; obtain ⟨pl, ml, cl, rfl⟩ := owns_form3 hsh2
        have hsh3 := Yr.rr; obtain ⟨pr, cr, rfl, hnr, hmr⟩ := owns_form hsh3
        clear hsh hsh2 hsh3
        by_cases hlt : K < gs.length
        · obtain ⟨⟨h, p⟩, ho⟩ : ∃ o, Hid (gs[K] = o) := ⟨_, hid rfl⟩
          have hst := hid (passAt_succ ⟨⟨bs, ls⟩, ps, gs, n⟩ K hlt ⟨h, p⟩ ho.out)
          rw [hPA.out, show (⟨⟨bs, ls⟩, ps, gs, n⟩ : Yard).pins = ps from rfl, hLf.out] at hst
          obtain ⟨bb, off, ha3, hbs, c0', c1'⟩ := Gones.at (Gones.below hh3 TOT) K hlt _ ho
          subst ha3
          dsimp only at c0' c1'
          obtain ⟨V, hV⟩ : ∃ X, (wr.alloc (.cells #[.int .i64 h, .int .i64 p] 70)) = X := ⟨_, rfl⟩
          have hBV : Below wr.heap.size wr V := by rw [← hV]; exact (Below.refl _ _).alloc (Nat.le_refl _) _
          have hNV : wr.heap.size + 1 = V.heap.size := by rw [← hV]; simp
          have g0 : V.cell? ⟨wr.heap.size, 0, none⟩ = some (.int .i64 h) := by rw [← hV]; simp [go_sem]
          have g1 : V.cell? ⟨wr.heap.size, 1, none⟩ = some (.int .i64 p) := by rw [← hV]; simp [go_sem]
          have ARV := ARG.below hBV
          have RSV := RES.below hBV
          have YV := Yr.grow hBV
          have TTV : Below w.heap.size w V := TOT.trans (hBV.mono TOT.size)
          have hszV : w3.heap.size ≤ V.heap.size := by omega
          have wc0 := ARG.2 0 (by simp); have wc1 := ARG.2 1 (by simp); have wc2 := ARG.2 2 (by simp); have wc3 := ARG.2 3 (by simp); have wc4 := ARG.2 4 (by simp)
          simp only [List.getElem?_cons_zero, List.getElem?_cons_succ] at wc0 wc1 wc2 wc3 wc4
          have ac0 := ARV.2 0 (by simp); have ac1 := ARV.2 1 (by simp); have ac2 := ARV.2 2 (by simp); have ac3 := ARV.2 3 (by simp); have ac4 := ARV.2 4 (by simp)
          simp only [List.getElem?_cons_zero, List.getElem?_cons_succ] at ac0 ac1 ac2 ac3 ac4
          have uc0 := YV.box.1.2 0 (by simp); have uc1 := YV.box.1.2 1 (by simp); have uc2 := YV.box.1.2 2 (by simp); have uc3 := YV.box.1.2 3 (by simp); have uc4 := YV.box.1.2 4 (by simp)
          have uf0 := YV.box.2 0 (by simp); have uf1 := YV.box.2 1 (by simp); have uf2 := YV.box.2 2 (by simp); have uf3 := YV.box.2 3 (by simp); have uf4 := YV.box.2 4 (by simp)
          simp only [List.getElem?_cons_zero, List.getElem?_cons_succ] at uc0 uc1 uc2 uc3 uc4
          cases hp : decide (p < Le)
          case true =>
            rw [show passStep Le (⟨AB, AL⟩, KL, M) ⟨h, p⟩ = ((giveF ⟨AB, AL⟩ h).1, KL, M + 1) by simp only [passStep]; rw [if_pos (by simpa using hp)]] at hst
            have hw : IntKind.i64.wrap (M + 1) = M + 1 := by rw [IntKind.wrap_i64]; omega
            go_wp2_with fail
            refine (spec_GiveO _ AB _ AL h V (Flat.of_owns YV.rb) (by omega) (Flat.of_owns YV.rl) (by omega)).mono ?_
            rintro e w5 ⟨u0, u1, rfl, r0, l0, r1, l1, apf, b5⟩
            clear hV wc0 wc1 wc2 wc3 wc4 ac0 ac1 ac2 ac3 ac4 uc0 uc1 uc2 uc3 uc4 uf0 uf1 uf2 uf3 uf4
            have hB : X_9.heap.size ≤ V.heap.size := by have := HS.out; omega
            have Y5 := YV.grow b5
            have ap5 := apart YV.rp (Nat.le_refl _) r1
            obtain ⟨q0, n0, d0, rfl⟩ := owns_form3 r0
            obtain ⟨q1, n1, d1, rfl⟩ := owns_form3 r1
            have S0 := hid (Y5.arena (owns_mono r0 hB) (owns_mono r1 hB) ⟨ap5.2, ap5.1⟩)
            have S1 := hid (((ARV.below b5).other ⟨w2.heap.size, 0, none⟩ (.slice q0 n0 d0) (by show w2.heap.size ≠ w.heap.size; have := HS.out; omega)).other ⟨w2.heap.size, 1, none⟩ (.slice q1 n1 d1) (by show w2.heap.size ≠ w.heap.size; have := HS.out; omega))
            have S2 := hid (((RSV.below b5).other ⟨w2.heap.size, 0, none⟩ (.slice q0 n0 d0) (by show w2.heap.size ≠ X_2.heap.size; have := HS.out; omega)).other ⟨w2.heap.size, 1, none⟩ (.slice q1 n1 d1) (by show w2.heap.size ≠ X_2.heap.size; have := HS.out; omega))
            have S3 := hid (((TTV.trans (b5.mono TTV.size)).setCell (p := ⟨w2.heap.size, 0, none⟩) (by show w.heap.size ≤ w2.heap.size; have := HS.out; omega) (.slice q0 n0 d0)).setCell (p := ⟨w2.heap.size, 1, none⟩) (by show w.heap.size ≤ w2.heap.size; have := HS.out; omega) (.slice q1 n1 d1))
            have S4 := hid (show w3.heap.size ≤ w5.heap.size by have := b5.size; omega)
            have uc0 := Y5.box.1.2 0 (by simp); have uc1 := Y5.box.1.2 1 (by simp); have uc2 := Y5.box.1.2 2 (by simp); have uc3 := Y5.box.1.2 3 (by simp); have uc4 := Y5.box.1.2 4 (by simp)
            have uf0 := Y5.box.2 0 (by simp); have uf1 := Y5.box.2 1 (by simp); have uf2 := Y5.box.2 2 (by simp); have uf3 := Y5.box.2 3 (by simp); have uf4 := Y5.box.2 4 (by simp)
            simp only [List.getElem?_cons_zero, List.getElem?_cons_succ] at uc0 uc1 uc2 uc3 uc4
            clear YV ARV RSV TTV Yr ARG RES TOT b5 Y5
            go_wp2
            go_roundw
            case rel => exact ⟨K+1, _, _, _, by omega, by go_num, by rw [hst.out], by rw [hst.out]; exact S0.out, S1.out, S2.out, S3.out, by have := S4.out; simp [World.setCell]; omega⟩
            case measure => simp [intOf]; omega
          case false =>
            rw [show passStep Le (⟨AB, AL⟩, KL, M) ⟨h, p⟩ = (⟨AB, AL⟩, KL ++ [⟨h, p⟩], M) by simp only [passStep]; rw [if_neg (by simpa using hp)]] at hst
            obtain ⟨j0, hj, hy0, hy1, hy2⟩ := info_parts infoGone
            obtain ⟨W, hW⟩ : ∃ X, (V.alloc (.cells #[.int .i64 h, .int .i64 p] 70)) = X := ⟨_, rfl⟩
            have bL : Below V.heap.size V W := by rw [← hW]; exact (Below.refl _ _).alloc (Nat.le_refl _) _
            have ol : W.ownsRow V.heap.size 70 2 (.slice (some ⟨V.heap.size, 0, none⟩) 1 1) 1 [Value.int .i64 h, Value.int .i64 p] := by rw [← hW]; exact owns_litN _ _ _ _ _ _ (Nat.le_refl _) rfl (by decide)
            have YW := YV.grow bL
            have hzW := bL.size
            have xc0 := YW.box.1.2 0 (by simp); have xc1 := YW.box.1.2 1 (by simp); have xc2 := YW.box.1.2 2 (by simp); have xc3 := YW.box.1.2 3 (by simp); have xc4 := YW.box.1.2 4 (by simp)
            have xf0 := YW.box.2 0 (by simp); have xf1 := YW.box.2 1 (by simp); have xf2 := YW.box.2 2 (by simp); have xf3 := YW.box.2 3 (by simp); have xf4 := YW.box.2 4 (by simp)
            simp only [List.getElem?_cons_zero, List.getElem?_cons_succ] at xc0 xc1 xc2 xc3 xc4
            go_wp2_with (first | (at_builtin; refine wpList_append_flat rfl _ _ 28 rfl X_9.heap.size 70 j0 (.agg #[.int .i64 0, .int .i64 0]) 2 16 Try.underlying28 hj hy0 hy1 hy2 rfl (by decide) _ KL.length _ rfl YW.rr _ 1 [Value.int .i64 h, Value.int .i64 p] rfl (Flat.of_owns ol) (by intro c hc; simp at hc; rcases hc with rfl | rfl <;> rfl) (by unfold maxLen; omega) (by omega) (by have := HS.out; omega) ?_))
            intro v6 w6 o6 g6
            clear hV hW wc0 wc1 wc2 wc3 wc4 ac0 ac1 ac2 ac3 ac4 uc0 uc1 uc2 uc3 uc4 uf0 uf1 uf2 uf3 uf4 xc0 xc1 xc2 xc3 xc4 xf0 xf1 xf2 xf3 xf4
            have he6 : KL.flatMap Gone.enc ++ [Value.int .i64 h, Value.int .i64 p] = (KL ++ [(⟨h, p⟩ : Gone)]).flatMap Gone.enc := by simp [Gone.enc]
            rw [he6, show KL.length + 1 = (KL ++ [(⟨h, p⟩ : Gone)]).length by simp] at o6
            obtain ⟨p6, m6, c6, rfl⟩ := owns_form3 o6
            have lt6 := World.ownsRow.lt YW.rr
            have hz6 := g6.size
            have B6 := YW.boxApp g6
            have S0 := hid (YW.append o6 g6)
            have S1 := hid ((((ARV.below bL).grown g6 (fun e => by have := (lt6 _ e).1; have := HS.out; omega))).other ⟨w2.heap.size, 3, none⟩ (.slice p6 m6 c6) (by show w2.heap.size ≠ w.heap.size; have := HS.out; omega))
            have S2 := hid ((((RSV.below bL).grown g6 (fun e => by have := (lt6 _ e).1; have := HS.out; omega))).other ⟨w2.heap.size, 3, none⟩ (.slice p6 m6 c6) (by show w2.heap.size ≠ X_2.heap.size; have := HS.out; omega))
            have S3 := hid (((TTV.trans (bL.mono TTV.size)).trans (below_grown g6 (by have := TTV.size; omega) (fun k e => by have := (lt6 k e).1; have := HS.out; omega))).setCell (p := ⟨w2.heap.size, 3, none⟩) (by show w.heap.size ≤ w2.heap.size; have := HS.out; omega) (.slice p6 m6 c6))
            have S4 := hid (show w3.heap.size ≤ w6.heap.size by omega)
            have uc0 := B6.1.2 0 (by simp); have uc1 := B6.1.2 1 (by simp); have uc2 := B6.1.2 2 (by simp); have uc3 := B6.1.2 3 (by simp); have uc4 := B6.1.2 4 (by simp)
            have uf0 := B6.2 0 (by simp); have uf1 := B6.2 1 (by simp); have uf2 := B6.2 2 (by simp); have uf3 := B6.2 3 (by simp); have uf4 := B6.2 4 (by simp)
            simp only [List.getElem?_cons_zero, List.getElem?_cons_succ] at uc0 uc1 uc2 uc3 uc4
            clear YV ARV RSV TTV Yr ARG RES TOT bL YW o6 g6 B6
            go_wp2
            go_roundw
            case rel => exact ⟨K+1, _, _, _, by omega, by go_num, by rw [hst.out], by rw [hst.out]; exact S0.out, S1.out, S2.out, S3.out, by have := S4.out; simp [World.setCell]; omega⟩
            case measure => simp [intOf]; omega
        · obtain rfl : K = gs.length := by omega
          have hw : IntKind.i64.wrap (n + 1) = n + 1 := by rw [IntKind.wrap_i64]; omega
          have ac0 := ARG.2 0 (by simp); have ac1 := ARG.2 1 (by simp); have ac2 := ARG.2 2 (by simp); have ac3 := ARG.2 3 (by simp); have ac4 := ARG.2 4 (by simp)
          simp only [List.getElem?_cons_zero, List.getElem?_cons_succ] at ac0 ac1 ac2 ac3 ac4
          have uc0 := Yr.box.1.2 0 (by simp); have uc1 := Yr.box.1.2 1 (by simp); have uc2 := Yr.box.1.2 2 (by simp); have uc3 := Yr.box.1.2 3 (by simp); have uc4 := Yr.box.1.2 4 (by simp)
          have uf0 := Yr.box.2 0 (by simp); have uf1 := Yr.box.2 1 (by simp); have uf2 := Yr.box.2 2 (by simp); have uf3 := Yr.box.2 3 (by simp); have uf4 := Yr.box.2 4 (by simp)
          simp only [List.getElem?_cons_zero, List.getElem?_cons_succ] at uc0 uc1 uc2 uc3 uc4
          obtain ⟨Z, hZ⟩ : ∃ X, wr.setCell ⟨w2.heap.size, 4, none⟩ (.int .i64 (n + 1)) = X := ⟨_, rfl⟩
          have YZ := Yr.passes (n + 1)
          rw [hZ] at YZ
          have RSZ : BoxF Z X_2.heap.size [.slice none 0 0, .slice none 0 0, .slice none 0 0, .slice none 0 0, .int .i64 0] := by rw [← hZ]; exact RES.other _ _ (by show w2.heap.size ≠ X_2.heap.size; have := HS.out; omega)
          have TTZ : Below w.heap.size w Z := by rw [← hZ]; exact TOT.setCell (by show w.heap.size ≤ w2.heap.size; have := HS.out; omega) _
          have yc0 := YZ.box.1.2 0 (by simp); have yc1 := YZ.box.1.2 1 (by simp); have yc2 := YZ.box.1.2 2 (by simp); have yc3 := YZ.box.1.2 3 (by simp); have yc4 := YZ.box.1.2 4 (by simp)
          have yf0 := YZ.box.2 0 (by simp); have yf1 := YZ.box.2 1 (by simp); have yf2 := YZ.box.2 2 (by simp); have yf3 := YZ.box.2 3 (by simp); have yf4 := YZ.box.2 4 (by simp)
          simp only [List.getElem?_cons_zero, List.getElem?_cons_succ] at yc0 yc1 yc2 yc3 yc4
          have rc0 := RSZ.1.2 0 (by simp); have rc1 := RSZ.1.2 1 (by simp); have rc2 := RSZ.1.2 2 (by simp); have rc3 := RSZ.1.2 3 (by simp); have rc4 := RSZ.1.2 4 (by simp)
          have rf0 := RSZ.2 0 (by simp); have rf1 := RSZ.2 1 (by simp); have rf2 := RSZ.2 2 (by simp); have rf3 := RSZ.2 3 (by simp); have rf4 := RSZ.2 4 (by simp)
          simp only [List.getElem?_cons_zero, List.getElem?_cons_succ] at rc0 rc1 rc2 rc3 rc4
          have HB := hid YZ.rb; have HL := hid YZ.rl; have HP := hid YZ.rp; have HR := hid YZ.rr
          have HT := hid TTZ
          have hPA' := hid hPA.out
          clear YZ RSZ TTZ Yr ARG RES TOT hPA
          go_wp2
          refine bodyPost_ret (v := .tuple #[.agg #[.slice pb mb cb, .slice pl ml cl, .slice p2 ps.length c2, .slice pr KL.length cr, .int .i64 (n + 1)], .int .i64 M, .int .i64 0]) ?_ rfl ⟨_, _, _, _, by rw [HN.out, hPA'.out], ?_⟩
          · simp [results, Try.results32, go_sem, rc0, rc1, rc2, rc3, rc4]
          · rw [HN.out, hPA'.out]
            dsimp only
            have hbase2 : X_2.heap.size < X_9.heap.size := by have := HS.out; omega
            refine ⟨?_, ?_, ?_, ?_, below_set5 HT.out (by have := HS.out; omega) _ _ _ _ _⟩
            · exact Flat.of_owns (owns_set5 HB.out hbase2 _ _ _ _ _)
            · exact Flat.of_owns (owns_set5 HL.out hbase2 _ _ _ _ _)
            · exact Flat.of_owns (owns_set5 HP.out hbase2 _ _ _ _ _)
            · exact Flat.of_owns (owns_set5 HR.out hbase2 _ _ _ _ _)
end Go.Proofs.Ytdnfphpeleakcaa
