/- Chapter 3's program: Unpin. -/
import Derived.Test.YtdnfphpeleakcaaY3
import Derived.Test.YtdnfphpeleakcaaI3c
import Derived.Test.YtdnfphpeleakcaaI3d
namespace Go.Proofs.Ytdnfphpeleakcaa
set_option maxRecDepth 100000
open Go.RowKit Go.Proofs Go.Own
open Go
set_option linter.unusedVariables false
set_option linter.unusedSimpArgs false

set_option maxRecDepth 100000 in set_option maxHeartbeats 2000000 in
theorem impl_Unpin (v0 : Value) (bs : List Block) (v1 : Value) (ls : List Int) (v2 : Value) (ps : List Int) (v3 : Value) (gs : List Gone) (n : Int) (t : Int) (w : World) (h0 : Blocks w v0 bs) (hx0 : bs.length ≤ 1048576) (h1 : Ints w v1 ls) (hx1 : ls.length ≤ 1048576) (h2 : Ints w v2 ps) (hx2 : ps.length ≤ 1048576) (h3 : Gones w v3 gs) (hx3 : gs.length ≤ 1048576) (hgi : GonesIn gs := by assumption) :
    Calls Try.prog 30 #[.agg #[v0, v1, v2, v3, .int .i64 n], .int .i64 t] w fun e w' => ∃ u0 u1 u2 u3, e = .returned (.tuple #[.agg #[u0, u1, u2, u3, .int .i64 (unpinF ⟨⟨bs, ls⟩, ps, gs, n⟩ t).1.passes], .int .i64 (unpinF ⟨⟨bs, ls⟩, ps, gs, n⟩ t).2]) ∧ w'.ownsRow w.heap.size 64 5 u0 (unpinF ⟨⟨bs, ls⟩, ps, gs, n⟩ t).1.arena.blocks.length ((unpinF ⟨⟨bs, ls⟩, ps, gs, n⟩ t).1.arena.blocks.flatMap Block.enc) ∧ (unpinF ⟨⟨bs, ls⟩, ps, gs, n⟩ t).1.arena.blocks.length ≤ 1099511627776 ∧ w'.ownsRow w.heap.size 3 1 u1 (unpinF ⟨⟨bs, ls⟩, ps, gs, n⟩ t).1.arena.list.length ((unpinF ⟨⟨bs, ls⟩, ps, gs, n⟩ t).1.arena.list.flatMap encI) ∧ (unpinF ⟨⟨bs, ls⟩, ps, gs, n⟩ t).1.arena.list.length ≤ 1099511627776 ∧ w'.ownsRow w.heap.size 3 1 u2 (unpinF ⟨⟨bs, ls⟩, ps, gs, n⟩ t).1.pins.length ((unpinF ⟨⟨bs, ls⟩, ps, gs, n⟩ t).1.pins.flatMap encI) ∧ (unpinF ⟨⟨bs, ls⟩, ps, gs, n⟩ t).1.pins.length ≤ 1099511627776 ∧ w'.ownsRow w.heap.size 70 2 u3 (unpinF ⟨⟨bs, ls⟩, ps, gs, n⟩ t).1.retired.length ((unpinF ⟨⟨bs, ls⟩, ps, gs, n⟩ t).1.retired.flatMap Gone.enc) ∧ (unpinF ⟨⟨bs, ls⟩, ps, gs, n⟩ t).1.retired.length ≤ 1099511627776 ∧ ((u0.ownBlock = none ∨ u0.ownBlock ≠ u1.ownBlock) ∧ (u1.ownBlock = none ∨ u1.ownBlock ≠ u0.ownBlock)) ∧ ((u0.ownBlock = none ∨ u0.ownBlock ≠ u2.ownBlock) ∧ (u2.ownBlock = none ∨ u2.ownBlock ≠ u0.ownBlock)) ∧ ((u0.ownBlock = none ∨ u0.ownBlock ≠ u3.ownBlock) ∧ (u3.ownBlock = none ∨ u3.ownBlock ≠ u0.ownBlock)) ∧ ((u1.ownBlock = none ∨ u1.ownBlock ≠ u2.ownBlock) ∧ (u2.ownBlock = none ∨ u2.ownBlock ≠ u1.ownBlock)) ∧ ((u1.ownBlock = none ∨ u1.ownBlock ≠ u3.ownBlock) ∧ (u3.ownBlock = none ∨ u3.ownBlock ≠ u1.ownBlock)) ∧ ((u2.ownBlock = none ∨ u2.ownBlock ≠ u3.ownBlock) ∧ (u3.ownBlock = none ∨ u3.ownBlock ≠ u2.ownBlock)) ∧ Below w.heap.size w w' := by
  have hh0 := h0
  obtain ⟨a0, cap0, rfl, hl0, hm0⟩ := h0.form
  have hh1 := h1
  obtain ⟨a1, cap1, rfl, hl1, hm1⟩ := h1.form
  have hh2 := h2
  obtain ⟨a2, cap2, rfl, hl2, hm2⟩ := h2.form
  have hh3 := h3
  obtain ⟨a3, cap3, rfl, hl3, hm3⟩ := h3.form
  have tt_1 : Below w.heap.size w w := Below.refl _ _
  obtain ⟨X_2, hX_3⟩ : ∃ X, w.alloc (.cells #[Value.slice a0 bs.length cap0, Value.slice a1 ls.length cap1, Value.slice a2 ps.length cap2, Value.slice a3 gs.length cap3, Value.int .i64 n] 30) = X := ⟨_, rfl⟩
  have bX_4 : Below w.heap.size w X_2 := by rw [← hX_3]; exact (Below.refl _ _).alloc (Nat.le_refl _) _
  have zs_5 : w.heap.size + 1 ≤ X_2.heap.size := by rw [← hX_3]; simp
  have zz_6 := Below.size bX_4
  have tt_7 : Below w.heap.size w X_2 := Below.trans tt_1 (Below.mono bX_4 (Below.size tt_1))
  replace h0 := Flat.below h0 bX_4
  replace h1 := Flat.below h1 bX_4
  replace h2 := Flat.below h2 bX_4
  replace h3 := Flat.below h3 bX_4
  have bx_8 : BoxF X_2 w.heap.size [Value.slice a0 bs.length cap0, Value.slice a1 ls.length cap1, Value.slice a2 ps.length cap2, Value.slice a3 gs.length cap3, Value.int .i64 n] := by rw [← hX_3]; exact BoxF.alloc _ _ _
  obtain ⟨X_9, hX_10⟩ : ∃ X, X_2.alloc (.cells #[Value.slice none 0 0, Value.slice none 0 0, Value.slice none 0 0, Value.slice none 0 0, Value.int .i64 0] 30) = X := ⟨_, rfl⟩
  have bX_11 : Below X_2.heap.size X_2 X_9 := by rw [← hX_10]; exact (Below.refl _ _).alloc (Nat.le_refl _) _
  have zs_12 : X_2.heap.size + 1 ≤ X_9.heap.size := by rw [← hX_10]; simp
  have zz_13 := Below.size bX_11
  have tt_14 : Below w.heap.size w X_9 := Below.trans tt_7 (Below.mono bX_11 (Below.size tt_7))
  replace bx_8 := BoxF.below bx_8 bX_11
  replace h0 := Flat.below h0 bX_11
  replace h1 := Flat.below h1 bX_11
  replace h2 := Flat.below h2 bX_11
  replace h3 := Flat.below h3 bX_11
  have bx_15 : BoxF X_9 X_2.heap.size [Value.slice none 0 0, Value.slice none 0 0, Value.slice none 0 0, Value.slice none 0 0, Value.int .i64 0] := by rw [← hX_10]; exact BoxF.alloc _ _ _
  have k_16 : X_9.cell? ⟨w.heap.size, 0, none⟩ = some (Value.slice a0 bs.length cap0) := bx_8.1.2 0 (by simp)
  have k_17 : X_9.cell? ⟨w.heap.size, 1, none⟩ = some (Value.slice a1 ls.length cap1) := bx_8.1.2 1 (by simp)
  have k_18 : X_9.cell? ⟨w.heap.size, 2, none⟩ = some (Value.slice a2 ps.length cap2) := bx_8.1.2 2 (by simp)
  have k_19 : X_9.cell? ⟨w.heap.size, 3, none⟩ = some (Value.slice a3 gs.length cap3) := bx_8.1.2 3 (by simp)
  have k_20 : X_9.cell? ⟨w.heap.size, 4, none⟩ = some (Value.int .i64 n) := bx_8.1.2 4 (by simp)
  have k_21 : X_9.cell? ⟨X_2.heap.size, 0, none⟩ = some (Value.slice none 0 0) := bx_15.1.2 0 (by simp)
  have k_22 : X_9.cell? ⟨X_2.heap.size, 1, none⟩ = some (Value.slice none 0 0) := bx_15.1.2 1 (by simp)
  have k_23 : X_9.cell? ⟨X_2.heap.size, 2, none⟩ = some (Value.slice none 0 0) := bx_15.1.2 2 (by simp)
  have k_24 : X_9.cell? ⟨X_2.heap.size, 3, none⟩ = some (Value.slice none 0 0) := bx_15.1.2 3 (by simp)
  have k_25 : X_9.cell? ⟨X_2.heap.size, 4, none⟩ = some (Value.int .i64 0) := bx_15.1.2 4 (by simp)
  go_enter Try.func30, Try.ntmps30
  go_wp2_with fail
  clear hX_3 hX_10 k_16 k_17 k_18 k_19 k_20 k_21 k_22 k_23 k_24 k_25
  refine (impl_copyYard _ bs _ ls _ ps _ gs n _ h0 hx0 h1 hx1 h2 hx2 h3 hx3).mono ?_
  rintro e w2 ⟨u0, u1, u2, u3, rfl, o0, o1, o2, o3, ap01, ap02, ap03, ap12, ap13, ap23, b2⟩
  have lt0 := hid (World.ownsRow.lt o0)
  obtain ⟨p0, c0, rfl, hn0, hq0⟩ := owns_form o0
  have lt1 := hid (World.ownsRow.lt o1)
  obtain ⟨p1, c1, rfl, hn1, hq1⟩ := owns_form o1
  have lt2 := hid (World.ownsRow.lt o2)
  obtain ⟨p2, c2, rfl, hn2, hq2⟩ := owns_form o2
  have lt3 := hid (World.ownsRow.lt o3)
  obtain ⟨p3, c3, rfl, hn3, hq3⟩ := owns_form o3
  have zz_26 := Below.size b2
  have tt_27 : Below w.heap.size w w2 := Below.trans tt_14 (Below.mono b2 (Below.size tt_14))
  replace bx_8 := BoxF.below bx_8 b2
  replace bx_15 := BoxF.below bx_15 b2
  replace h0 := Flat.below h0 b2
  replace h1 := Flat.below h1 b2
  replace h2 := Flat.below h2 b2
  replace h3 := Flat.below h3 b2
  obtain ⟨X_28, hX_29⟩ : ∃ X, w2.alloc (.cells #[Value.slice p0 bs.length c0, Value.slice p1 ls.length c1, Value.slice p2 ps.length c2, Value.slice p3 gs.length c3, Value.int .i64 n] 30) = X := ⟨_, rfl⟩
  have bX_30 : Below w2.heap.size w2 X_28 := by rw [← hX_29]; exact (Below.refl _ _).alloc (Nat.le_refl _) _
  have zs_31 : w2.heap.size + 1 ≤ X_28.heap.size := by rw [← hX_29]; simp
  have zz_32 := Below.size bX_30
  have tt_33 : Below w.heap.size w X_28 := Below.trans tt_27 (Below.mono bX_30 (Below.size tt_27))
  replace bx_8 := BoxF.below bx_8 bX_30
  replace bx_15 := BoxF.below bx_15 bX_30
  replace o0 := owns_below o0 bX_30
  replace o1 := owns_below o1 bX_30
  replace o2 := owns_below o2 bX_30
  replace o3 := owns_below o3 bX_30
  replace h0 := Flat.below h0 bX_30
  replace h1 := Flat.below h1 bX_30
  replace h2 := Flat.below h2 bX_30
  replace h3 := Flat.below h3 bX_30
  have bx_34 : BoxF X_28 w2.heap.size [Value.slice p0 bs.length c0, Value.slice p1 ls.length c1, Value.slice p2 ps.length c2, Value.slice p3 gs.length c3, Value.int .i64 n] := by rw [← hX_29]; exact BoxF.alloc _ _ _
  have hbase : X_2.heap.size < X_9.heap.size := by omega
  have k_35 : X_28.cell? ⟨w.heap.size, 0, none⟩ = some (Value.slice a0 bs.length cap0) := bx_8.1.2 0 (by simp)
  have k_36 : X_28.cell? ⟨w.heap.size, 1, none⟩ = some (Value.slice a1 ls.length cap1) := bx_8.1.2 1 (by simp)
  have k_37 : X_28.cell? ⟨w.heap.size, 2, none⟩ = some (Value.slice a2 ps.length cap2) := bx_8.1.2 2 (by simp)
  have k_38 : X_28.cell? ⟨w.heap.size, 3, none⟩ = some (Value.slice a3 gs.length cap3) := bx_8.1.2 3 (by simp)
  have k_39 : X_28.cell? ⟨w.heap.size, 4, none⟩ = some (Value.int .i64 n) := bx_8.1.2 4 (by simp)
  have k_40 : X_28.cell? ⟨X_2.heap.size, 0, none⟩ = some (Value.slice none 0 0) := bx_15.1.2 0 (by simp)
  have k_41 : X_28.cell? ⟨X_2.heap.size, 1, none⟩ = some (Value.slice none 0 0) := bx_15.1.2 1 (by simp)
  have k_42 : X_28.cell? ⟨X_2.heap.size, 2, none⟩ = some (Value.slice none 0 0) := bx_15.1.2 2 (by simp)
  have k_43 : X_28.cell? ⟨X_2.heap.size, 3, none⟩ = some (Value.slice none 0 0) := bx_15.1.2 3 (by simp)
  have k_44 : X_28.cell? ⟨X_2.heap.size, 4, none⟩ = some (Value.int .i64 0) := bx_15.1.2 4 (by simp)
  have k_45 : X_28.cell? ⟨w2.heap.size, 0, none⟩ = some (Value.slice p0 bs.length c0) := bx_34.1.2 0 (by simp)
  have k_46 : X_28.cell? ⟨w2.heap.size, 1, none⟩ = some (Value.slice p1 ls.length c1) := bx_34.1.2 1 (by simp)
  have k_47 : X_28.cell? ⟨w2.heap.size, 2, none⟩ = some (Value.slice p2 ps.length c2) := bx_34.1.2 2 (by simp)
  have k_48 : X_28.cell? ⟨w2.heap.size, 3, none⟩ = some (Value.slice p3 gs.length c3) := bx_34.1.2 3 (by simp)
  have k_49 : X_28.cell? ⟨w2.heap.size, 4, none⟩ = some (Value.int .i64 n) := bx_34.1.2 4 (by simp)
  go_wp2_with fail
  clear hX_29 k_35 k_36 k_37 k_38 k_39 k_40 k_41 k_42 k_43 k_44 k_45 k_46 k_47 k_48 k_49
  refine (impl_YardOk0 _ bs _ ls _ ps _ gs n _ (Flat.of_owns o0) (Flat.of_owns o1) (Flat.of_owns o2) (Flat.of_owns o3) hgi).mono ?_
  rintro e w3 ⟨rfl, b3⟩
  have zz_50 := Below.size b3
  have tt_51 : Below w.heap.size w w3 := Below.trans tt_33 (Below.mono b3 (Below.size tt_33))
  replace bx_8 := BoxF.below bx_8 b3
  replace bx_15 := BoxF.below bx_15 b3
  replace bx_34 := BoxF.below bx_34 b3
  replace o0 := owns_below o0 b3
  replace o1 := owns_below o1 b3
  replace o2 := owns_below o2 b3
  replace o3 := owns_below o3 b3
  replace h0 := Flat.below h0 b3
  replace h1 := Flat.below h1 b3
  replace h2 := Flat.below h2 b3
  replace h3 := Flat.below h3 b3
  cases hY : yardOk ⟨⟨bs, ls⟩, ps, gs, n⟩
  case false =>
    have HN := hid (show unpinF ⟨⟨bs, ls⟩, ps, gs, n⟩ t = (⟨⟨bs, ls⟩, ps, gs, n⟩, 1) by simp [unpinF, hY])
    have k_1052 : w3.cell? ⟨w.heap.size, 0, none⟩ = some (Value.slice a0 bs.length cap0) := bx_8.1.2 0 (by simp)
    have k_1053 : w3.cell? ⟨w.heap.size, 1, none⟩ = some (Value.slice a1 ls.length cap1) := bx_8.1.2 1 (by simp)
    have k_1054 : w3.cell? ⟨w.heap.size, 2, none⟩ = some (Value.slice a2 ps.length cap2) := bx_8.1.2 2 (by simp)
    have k_1055 : w3.cell? ⟨w.heap.size, 3, none⟩ = some (Value.slice a3 gs.length cap3) := bx_8.1.2 3 (by simp)
    have k_1056 : w3.cell? ⟨w.heap.size, 4, none⟩ = some (Value.int .i64 n) := bx_8.1.2 4 (by simp)
    have k_1057 : w3.cell? ⟨X_2.heap.size, 0, none⟩ = some (Value.slice none 0 0) := bx_15.1.2 0 (by simp)
    have k_1058 : w3.frozen? ⟨X_2.heap.size, 0, none⟩ = false := bx_15.2 0 (by simp)
    have k_1059 : w3.cell? ⟨X_2.heap.size, 1, none⟩ = some (Value.slice none 0 0) := bx_15.1.2 1 (by simp)
    have k_1060 : w3.frozen? ⟨X_2.heap.size, 1, none⟩ = false := bx_15.2 1 (by simp)
    have k_1061 : w3.cell? ⟨X_2.heap.size, 2, none⟩ = some (Value.slice none 0 0) := bx_15.1.2 2 (by simp)
    have k_1062 : w3.frozen? ⟨X_2.heap.size, 2, none⟩ = false := bx_15.2 2 (by simp)
    have k_1063 : w3.cell? ⟨X_2.heap.size, 3, none⟩ = some (Value.slice none 0 0) := bx_15.1.2 3 (by simp)
    have k_1064 : w3.frozen? ⟨X_2.heap.size, 3, none⟩ = false := bx_15.2 3 (by simp)
    have k_1065 : w3.cell? ⟨X_2.heap.size, 4, none⟩ = some (Value.int .i64 0) := bx_15.1.2 4 (by simp)
    have k_1066 : w3.frozen? ⟨X_2.heap.size, 4, none⟩ = false := bx_15.2 4 (by simp)
    have k_1067 : w3.cell? ⟨w2.heap.size, 0, none⟩ = some (Value.slice p0 bs.length c0) := bx_34.1.2 0 (by simp)
    have k_1068 : w3.frozen? ⟨w2.heap.size, 0, none⟩ = false := bx_34.2 0 (by simp)
    have k_1069 : w3.cell? ⟨w2.heap.size, 1, none⟩ = some (Value.slice p1 ls.length c1) := bx_34.1.2 1 (by simp)
    have k_1070 : w3.frozen? ⟨w2.heap.size, 1, none⟩ = false := bx_34.2 1 (by simp)
    have k_1071 : w3.cell? ⟨w2.heap.size, 2, none⟩ = some (Value.slice p2 ps.length c2) := bx_34.1.2 2 (by simp)
    have k_1072 : w3.frozen? ⟨w2.heap.size, 2, none⟩ = false := bx_34.2 2 (by simp)
    have k_1073 : w3.cell? ⟨w2.heap.size, 3, none⟩ = some (Value.slice p3 gs.length c3) := bx_34.1.2 3 (by simp)
    have k_1074 : w3.frozen? ⟨w2.heap.size, 3, none⟩ = false := bx_34.2 3 (by simp)
    have k_1075 : w3.cell? ⟨w2.heap.size, 4, none⟩ = some (Value.int .i64 n) := bx_34.1.2 4 (by simp)
    have k_1076 : w3.frozen? ⟨w2.heap.size, 4, none⟩ = false := bx_34.2 4 (by simp)
    have H0 := hid o0
    have H1 := hid o1
    have H2 := hid o2
    have H3 := hid o3
    clear o0 o1 o2 o3
    go_wp2_with (fail)
    refine bodyPost_ret (v := .tuple #[.agg #[Value.slice p0 bs.length c0, Value.slice p1 ls.length c1, Value.slice p2 ps.length c2, Value.slice p3 gs.length c3, Value.int .i64 n], .int .i64 1]) ?_ rfl ⟨_, _, _, _, by rw [HN.out], ?_⟩
    · simp [results, Try.results30, go_sem, k_1057, k_1059, k_1061, k_1063, k_1065]
    · rw [HN.out]
      dsimp only
      refine ⟨?_, ?_, ?_, ?_, ?_, ?_, ?_, ?_, ap01, ap02, ap03, ap12, ap13, ap23, (below_set5 tt_51 (by omega) _ _ _ _ _)⟩
      ·
        exact owns_mono (owns_set5 H0.out hbase _ _ _ _ _) (by omega)
      · first | omega | (simp; omega)
      ·
        exact owns_mono (owns_set5 H1.out hbase _ _ _ _ _) (by omega)
      · first | omega | (simp; omega)
      ·
        exact owns_mono (owns_set5 H2.out hbase _ _ _ _ _) (by omega)
      · first | omega | (simp; omega)
      ·
        exact owns_mono (owns_set5 H3.out hbase _ _ _ _ _) (by omega)
      · first | omega | (simp; omega)
  cases hT : inB t 0 (ps.length - 1)
  case false =>
    have HN := hid (show unpinF ⟨⟨bs, ls⟩, ps, gs, n⟩ t = (⟨⟨bs, ls⟩, ps, gs, n⟩, 1) by simp [unpinF, hY, hT])
    have k_1052 : w3.cell? ⟨w.heap.size, 0, none⟩ = some (Value.slice a0 bs.length cap0) := bx_8.1.2 0 (by simp)
    have k_1053 : w3.cell? ⟨w.heap.size, 1, none⟩ = some (Value.slice a1 ls.length cap1) := bx_8.1.2 1 (by simp)
    have k_1054 : w3.cell? ⟨w.heap.size, 2, none⟩ = some (Value.slice a2 ps.length cap2) := bx_8.1.2 2 (by simp)
    have k_1055 : w3.cell? ⟨w.heap.size, 3, none⟩ = some (Value.slice a3 gs.length cap3) := bx_8.1.2 3 (by simp)
    have k_1056 : w3.cell? ⟨w.heap.size, 4, none⟩ = some (Value.int .i64 n) := bx_8.1.2 4 (by simp)
    have k_1057 : w3.cell? ⟨X_2.heap.size, 0, none⟩ = some (Value.slice none 0 0) := bx_15.1.2 0 (by simp)
    have k_1058 : w3.cell? ⟨X_2.heap.size, 1, none⟩ = some (Value.slice none 0 0) := bx_15.1.2 1 (by simp)
    have k_1059 : w3.cell? ⟨X_2.heap.size, 2, none⟩ = some (Value.slice none 0 0) := bx_15.1.2 2 (by simp)
    have k_1060 : w3.cell? ⟨X_2.heap.size, 3, none⟩ = some (Value.slice none 0 0) := bx_15.1.2 3 (by simp)
    have k_1061 : w3.cell? ⟨X_2.heap.size, 4, none⟩ = some (Value.int .i64 0) := bx_15.1.2 4 (by simp)
    have k_1062 : w3.cell? ⟨w2.heap.size, 0, none⟩ = some (Value.slice p0 bs.length c0) := bx_34.1.2 0 (by simp)
    have k_1063 : w3.cell? ⟨w2.heap.size, 1, none⟩ = some (Value.slice p1 ls.length c1) := bx_34.1.2 1 (by simp)
    have k_1064 : w3.cell? ⟨w2.heap.size, 2, none⟩ = some (Value.slice p2 ps.length c2) := bx_34.1.2 2 (by simp)
    have k_1065 : w3.cell? ⟨w2.heap.size, 3, none⟩ = some (Value.slice p3 gs.length c3) := bx_34.1.2 3 (by simp)
    have k_1066 : w3.cell? ⟨w2.heap.size, 4, none⟩ = some (Value.int .i64 n) := bx_34.1.2 4 (by simp)
    go_wp2_with fail
    clear k_1052 k_1053 k_1054 k_1055 k_1056 k_1057 k_1058 k_1059 k_1060 k_1061 k_1062 k_1063 k_1064 k_1065 k_1066
    refine (impl_isThread _ bs _ ls _ ps _ gs n t _ (Flat.of_owns o0) (Flat.of_owns o1) (Flat.of_owns o2) (Flat.of_owns o3)).mono ?_
    rintro e w4 ⟨rfl, b4⟩
    rw [hT]
    have zz_1067 := Below.size b4
    have tt_1068 : Below w.heap.size w w4 := Below.trans tt_51 (Below.mono b4 (Below.size tt_51))
    replace bx_8 := BoxF.below bx_8 b4
    replace bx_15 := BoxF.below bx_15 b4
    replace bx_34 := BoxF.below bx_34 b4
    replace o0 := owns_below o0 b4
    replace o1 := owns_below o1 b4
    replace o2 := owns_below o2 b4
    replace o3 := owns_below o3 b4
    replace h0 := Flat.below h0 b4
    replace h1 := Flat.below h1 b4
    replace h2 := Flat.below h2 b4
    replace h3 := Flat.below h3 b4
    have k_1069 : w4.cell? ⟨w.heap.size, 0, none⟩ = some (Value.slice a0 bs.length cap0) := bx_8.1.2 0 (by simp)
    have k_1070 : w4.cell? ⟨w.heap.size, 1, none⟩ = some (Value.slice a1 ls.length cap1) := bx_8.1.2 1 (by simp)
    have k_1071 : w4.cell? ⟨w.heap.size, 2, none⟩ = some (Value.slice a2 ps.length cap2) := bx_8.1.2 2 (by simp)
    have k_1072 : w4.cell? ⟨w.heap.size, 3, none⟩ = some (Value.slice a3 gs.length cap3) := bx_8.1.2 3 (by simp)
    have k_1073 : w4.cell? ⟨w.heap.size, 4, none⟩ = some (Value.int .i64 n) := bx_8.1.2 4 (by simp)
    have k_1074 : w4.cell? ⟨X_2.heap.size, 0, none⟩ = some (Value.slice none 0 0) := bx_15.1.2 0 (by simp)
    have k_1075 : w4.frozen? ⟨X_2.heap.size, 0, none⟩ = false := bx_15.2 0 (by simp)
    have k_1076 : w4.cell? ⟨X_2.heap.size, 1, none⟩ = some (Value.slice none 0 0) := bx_15.1.2 1 (by simp)
    have k_1077 : w4.frozen? ⟨X_2.heap.size, 1, none⟩ = false := bx_15.2 1 (by simp)
    have k_1078 : w4.cell? ⟨X_2.heap.size, 2, none⟩ = some (Value.slice none 0 0) := bx_15.1.2 2 (by simp)
    have k_1079 : w4.frozen? ⟨X_2.heap.size, 2, none⟩ = false := bx_15.2 2 (by simp)
    have k_1080 : w4.cell? ⟨X_2.heap.size, 3, none⟩ = some (Value.slice none 0 0) := bx_15.1.2 3 (by simp)
    have k_1081 : w4.frozen? ⟨X_2.heap.size, 3, none⟩ = false := bx_15.2 3 (by simp)
    have k_1082 : w4.cell? ⟨X_2.heap.size, 4, none⟩ = some (Value.int .i64 0) := bx_15.1.2 4 (by simp)
    have k_1083 : w4.frozen? ⟨X_2.heap.size, 4, none⟩ = false := bx_15.2 4 (by simp)
    have k_1084 : w4.cell? ⟨w2.heap.size, 0, none⟩ = some (Value.slice p0 bs.length c0) := bx_34.1.2 0 (by simp)
    have k_1085 : w4.frozen? ⟨w2.heap.size, 0, none⟩ = false := bx_34.2 0 (by simp)
    have k_1086 : w4.cell? ⟨w2.heap.size, 1, none⟩ = some (Value.slice p1 ls.length c1) := bx_34.1.2 1 (by simp)
    have k_1087 : w4.frozen? ⟨w2.heap.size, 1, none⟩ = false := bx_34.2 1 (by simp)
    have k_1088 : w4.cell? ⟨w2.heap.size, 2, none⟩ = some (Value.slice p2 ps.length c2) := bx_34.1.2 2 (by simp)
    have k_1089 : w4.frozen? ⟨w2.heap.size, 2, none⟩ = false := bx_34.2 2 (by simp)
    have k_1090 : w4.cell? ⟨w2.heap.size, 3, none⟩ = some (Value.slice p3 gs.length c3) := bx_34.1.2 3 (by simp)
    have k_1091 : w4.frozen? ⟨w2.heap.size, 3, none⟩ = false := bx_34.2 3 (by simp)
    have k_1092 : w4.cell? ⟨w2.heap.size, 4, none⟩ = some (Value.int .i64 n) := bx_34.1.2 4 (by simp)
    have k_1093 : w4.frozen? ⟨w2.heap.size, 4, none⟩ = false := bx_34.2 4 (by simp)
    have H0 := hid o0
    have H1 := hid o1
    have H2 := hid o2
    have H3 := hid o3
    clear o0 o1 o2 o3
    go_wp2_with (fail)
    refine bodyPost_ret (v := .tuple #[.agg #[Value.slice p0 bs.length c0, Value.slice p1 ls.length c1, Value.slice p2 ps.length c2, Value.slice p3 gs.length c3, Value.int .i64 n], .int .i64 1]) ?_ rfl ⟨_, _, _, _, by rw [HN.out], ?_⟩
    · simp [results, Try.results30, go_sem, k_1074, k_1076, k_1078, k_1080, k_1082]
    · rw [HN.out]
      dsimp only
      refine ⟨?_, ?_, ?_, ?_, ?_, ?_, ?_, ?_, ap01, ap02, ap03, ap12, ap13, ap23, (below_set5 tt_1068 (by omega) _ _ _ _ _)⟩
      ·
        exact owns_mono (owns_set5 H0.out hbase _ _ _ _ _) (by omega)
      · first | omega | (simp; omega)
      ·
        exact owns_mono (owns_set5 H1.out hbase _ _ _ _ _) (by omega)
      · first | omega | (simp; omega)
      ·
        exact owns_mono (owns_set5 H2.out hbase _ _ _ _ _) (by omega)
      · first | omega | (simp; omega)
      ·
        exact owns_mono (owns_set5 H3.out hbase _ _ _ _ _) (by omega)
      · first | omega | (simp; omega)
  have k_52 : w3.cell? ⟨w.heap.size, 0, none⟩ = some (Value.slice a0 bs.length cap0) := bx_8.1.2 0 (by simp)
  have k_53 : w3.cell? ⟨w.heap.size, 1, none⟩ = some (Value.slice a1 ls.length cap1) := bx_8.1.2 1 (by simp)
  have k_54 : w3.cell? ⟨w.heap.size, 2, none⟩ = some (Value.slice a2 ps.length cap2) := bx_8.1.2 2 (by simp)
  have k_55 : w3.cell? ⟨w.heap.size, 3, none⟩ = some (Value.slice a3 gs.length cap3) := bx_8.1.2 3 (by simp)
  have k_56 : w3.cell? ⟨w.heap.size, 4, none⟩ = some (Value.int .i64 n) := bx_8.1.2 4 (by simp)
  have k_57 : w3.cell? ⟨X_2.heap.size, 0, none⟩ = some (Value.slice none 0 0) := bx_15.1.2 0 (by simp)
  have k_58 : w3.cell? ⟨X_2.heap.size, 1, none⟩ = some (Value.slice none 0 0) := bx_15.1.2 1 (by simp)
  have k_59 : w3.cell? ⟨X_2.heap.size, 2, none⟩ = some (Value.slice none 0 0) := bx_15.1.2 2 (by simp)
  have k_60 : w3.cell? ⟨X_2.heap.size, 3, none⟩ = some (Value.slice none 0 0) := bx_15.1.2 3 (by simp)
  have k_61 : w3.cell? ⟨X_2.heap.size, 4, none⟩ = some (Value.int .i64 0) := bx_15.1.2 4 (by simp)
  have k_62 : w3.cell? ⟨w2.heap.size, 0, none⟩ = some (Value.slice p0 bs.length c0) := bx_34.1.2 0 (by simp)
  have k_63 : w3.cell? ⟨w2.heap.size, 1, none⟩ = some (Value.slice p1 ls.length c1) := bx_34.1.2 1 (by simp)
  have k_64 : w3.cell? ⟨w2.heap.size, 2, none⟩ = some (Value.slice p2 ps.length c2) := bx_34.1.2 2 (by simp)
  have k_65 : w3.cell? ⟨w2.heap.size, 3, none⟩ = some (Value.slice p3 gs.length c3) := bx_34.1.2 3 (by simp)
  have k_66 : w3.cell? ⟨w2.heap.size, 4, none⟩ = some (Value.int .i64 n) := bx_34.1.2 4 (by simp)
  go_wp2_with fail
  clear k_52 k_53 k_54 k_55 k_56 k_57 k_58 k_59 k_60 k_61 k_62 k_63 k_64 k_65 k_66
  refine (impl_isThread _ bs _ ls _ ps _ gs n t _ (Flat.of_owns o0) (Flat.of_owns o1) (Flat.of_owns o2) (Flat.of_owns o3)).mono ?_
  rintro e w4 ⟨rfl, b4⟩
  rw [hT]
  have zz_67 := Below.size b4
  have tt_68 : Below w.heap.size w w4 := Below.trans tt_51 (Below.mono b4 (Below.size tt_51))
  replace bx_8 := BoxF.below bx_8 b4
  replace bx_15 := BoxF.below bx_15 b4
  replace bx_34 := BoxF.below bx_34 b4
  replace o0 := owns_below o0 b4
  replace o1 := owns_below o1 b4
  replace o2 := owns_below o2 b4
  replace o3 := owns_below o3 b4
  replace h0 := Flat.below h0 b4
  replace h1 := Flat.below h1 b4
  replace h2 := Flat.below h2 b4
  replace h3 := Flat.below h3 b4
  obtain ⟨q, rfl⟩ : ∃ q : Nat, t = q := ⟨t.toNat, by simp [inB] at hT; omega⟩
  have hqn : q < ps.length := by simp [inB] at hT; omega
  obtain ⟨x, hx⟩ : ∃ x, Hid (ps[q] = x) := ⟨_, hid rfl⟩
  have hgd := hid (show ps.getD q 0 = x by rw [List.getD, List.getElem?_eq_getElem hqn]; exact hx.out)
  have hge := hid (pins_ge hY q hqn x hx.out)
  have hqi : (q : Int) < ps.length := by omega
  obtain ⟨g, cg, hv, _, _, hgb, hgs, hcs, hfr⟩ := owns_at o2 (by omega)
  obtain ⟨rfl, rfl⟩ : p2 = some ⟨g, 0, none⟩ ∧ c2 = cg := by simpa using hv
  obtain ⟨_, hgw⟩ := lt2.out g rfl
  have hel : CellsO w4 g q [Value.int .i64 x] := CellsO.ofInts o2 q (by omega) x hx rfl
  clear hfr hv hcs
  cases hP : (x == -1)
  case false =>
    have hp : 0 ≤ x := by have h9 := hge.out; clear hge; simp at hP; omega
    have HN := hid (show unpinF ⟨⟨bs, ls⟩, ps, gs, n⟩ q = (⟨⟨bs, ls⟩, (ps.set q (-1)), gs, n⟩, 0) by
      simp only [unpinF, hY, hT, Int.toNat_natCast, hgd.out]; simp; omega)
    clear hp
    have k_1069 : w4.cell? ⟨w.heap.size, 0, none⟩ = some (Value.slice a0 bs.length cap0) := bx_8.1.2 0 (by simp)
    have k_1070 : w4.cell? ⟨w.heap.size, 1, none⟩ = some (Value.slice a1 ls.length cap1) := bx_8.1.2 1 (by simp)
    have k_1071 : w4.cell? ⟨w.heap.size, 2, none⟩ = some (Value.slice a2 ps.length cap2) := bx_8.1.2 2 (by simp)
    have k_1072 : w4.cell? ⟨w.heap.size, 3, none⟩ = some (Value.slice a3 gs.length cap3) := bx_8.1.2 3 (by simp)
    have k_1073 : w4.cell? ⟨w.heap.size, 4, none⟩ = some (Value.int .i64 n) := bx_8.1.2 4 (by simp)
    have k_1074 : w4.cell? ⟨X_2.heap.size, 0, none⟩ = some (Value.slice none 0 0) := bx_15.1.2 0 (by simp)
    have k_1075 : w4.frozen? ⟨X_2.heap.size, 0, none⟩ = false := bx_15.2 0 (by simp)
    have k_1076 : w4.cell? ⟨X_2.heap.size, 1, none⟩ = some (Value.slice none 0 0) := bx_15.1.2 1 (by simp)
    have k_1077 : w4.frozen? ⟨X_2.heap.size, 1, none⟩ = false := bx_15.2 1 (by simp)
    have k_1078 : w4.cell? ⟨X_2.heap.size, 2, none⟩ = some (Value.slice none 0 0) := bx_15.1.2 2 (by simp)
    have k_1079 : w4.frozen? ⟨X_2.heap.size, 2, none⟩ = false := bx_15.2 2 (by simp)
    have k_1080 : w4.cell? ⟨X_2.heap.size, 3, none⟩ = some (Value.slice none 0 0) := bx_15.1.2 3 (by simp)
    have k_1081 : w4.frozen? ⟨X_2.heap.size, 3, none⟩ = false := bx_15.2 3 (by simp)
    have k_1082 : w4.cell? ⟨X_2.heap.size, 4, none⟩ = some (Value.int .i64 0) := bx_15.1.2 4 (by simp)
    have k_1083 : w4.frozen? ⟨X_2.heap.size, 4, none⟩ = false := bx_15.2 4 (by simp)
    have k_1084 : w4.cell? ⟨w2.heap.size, 0, none⟩ = some (Value.slice p0 bs.length c0) := bx_34.1.2 0 (by simp)
    have k_1085 : w4.frozen? ⟨w2.heap.size, 0, none⟩ = false := bx_34.2 0 (by simp)
    have k_1086 : w4.cell? ⟨w2.heap.size, 1, none⟩ = some (Value.slice p1 ls.length c1) := bx_34.1.2 1 (by simp)
    have k_1087 : w4.frozen? ⟨w2.heap.size, 1, none⟩ = false := bx_34.2 1 (by simp)
    have k_1088 : w4.cell? ⟨w2.heap.size, 2, none⟩ = some (Value.slice (some ⟨g, 0, none⟩) ps.length c2) := bx_34.1.2 2 (by simp)
    have k_1089 : w4.frozen? ⟨w2.heap.size, 2, none⟩ = false := bx_34.2 2 (by simp)
    have k_1090 : w4.cell? ⟨w2.heap.size, 3, none⟩ = some (Value.slice p3 gs.length c3) := bx_34.1.2 3 (by simp)
    have k_1091 : w4.frozen? ⟨w2.heap.size, 3, none⟩ = false := bx_34.2 3 (by simp)
    have k_1092 : w4.cell? ⟨w2.heap.size, 4, none⟩ = some (Value.int .i64 n) := bx_34.1.2 4 (by simp)
    have k_1093 : w4.frozen? ⟨w2.heap.size, 4, none⟩ = false := bx_34.2 4 (by simp)
    have k_1094 : w4.cell? ⟨g, q, none⟩ = some (Value.int .i64 x) := (hel.2 0 (by simp)).1
    have k_1095 : w4.frozen? ⟨g, q, none⟩ = false := (hel.2 0 (by simp)).2
    obtain ⟨X_1096, hX_1097⟩ : ∃ X, w4.setCell ⟨g, q, none⟩ (Value.int .i64 (-1)) = X := ⟨_, rfl⟩
    have gr_1098 : w4.grownBy X_1096 (some (g)) := by rw [← hX_1097]; exact (World.ownsRow.stored o2 (q) (Value.int .i64 (-1))).2
    have zz_1099 : w4.heap.size ≤ X_1096.heap.size := by rw [← hX_1097]; simp [World.setCell]
    have tt_1100 : Below w.heap.size w X_1096 := by rw [← hX_1097]; exact Below.setCell tt_68 (by show w.heap.size ≤ g; omega) _
    replace o0 := World.ownsRow.kept o0 gr_1098 ap02.1
    replace o1 := World.ownsRow.kept o1 gr_1098 ap12.1
    replace o2 := owns_put o2 (q) (Value.int .i64 (-1))
    rw [hX_1097] at o2
    replace o3 := World.ownsRow.kept o3 gr_1098 ap23.2
    rw [encI_set] at o2
    replace bx_8 : BoxF X_1096 (w.heap.size) [Value.slice a0 bs.length cap0, Value.slice a1 ls.length cap1, Value.slice a2 ps.length cap2, Value.slice a3 gs.length cap3, Value.int .i64 n] := by rw [← hX_1097]; exact BoxF.other bx_8 _ _ (by show ¬ g = w.heap.size; omega)
    replace bx_15 : BoxF X_1096 (X_2.heap.size) [Value.slice none 0 0, Value.slice none 0 0, Value.slice none 0 0, Value.slice none 0 0, Value.int .i64 0] := by rw [← hX_1097]; exact BoxF.other bx_15 _ _ (by show ¬ g = X_2.heap.size; omega)
    replace bx_34 : BoxF X_1096 (w2.heap.size) [Value.slice p0 bs.length c0, Value.slice p1 ls.length c1, Value.slice (some ⟨g, 0, none⟩) ps.length c2, Value.slice p3 gs.length c3, Value.int .i64 n] := by rw [← hX_1097]; exact BoxF.other bx_34 _ _ (by show ¬ g = w2.heap.size; omega)
    replace hel : CellsO X_1096 (g) (q) [Value.int .i64 (-1)] := by rw [← hX_1097]; exact CellsO.set hel 0 (by simp) _
    have k_1101 : X_1096.cell? ⟨w.heap.size, 0, none⟩ = some (Value.slice a0 bs.length cap0) := bx_8.1.2 0 (by simp)
    have k_1102 : X_1096.cell? ⟨w.heap.size, 1, none⟩ = some (Value.slice a1 ls.length cap1) := bx_8.1.2 1 (by simp)
    have k_1103 : X_1096.cell? ⟨w.heap.size, 2, none⟩ = some (Value.slice a2 ps.length cap2) := bx_8.1.2 2 (by simp)
    have k_1104 : X_1096.cell? ⟨w.heap.size, 3, none⟩ = some (Value.slice a3 gs.length cap3) := bx_8.1.2 3 (by simp)
    have k_1105 : X_1096.cell? ⟨w.heap.size, 4, none⟩ = some (Value.int .i64 n) := bx_8.1.2 4 (by simp)
    have k_1106 : X_1096.cell? ⟨X_2.heap.size, 0, none⟩ = some (Value.slice none 0 0) := bx_15.1.2 0 (by simp)
    have k_1107 : X_1096.frozen? ⟨X_2.heap.size, 0, none⟩ = false := bx_15.2 0 (by simp)
    have k_1108 : X_1096.cell? ⟨X_2.heap.size, 1, none⟩ = some (Value.slice none 0 0) := bx_15.1.2 1 (by simp)
    have k_1109 : X_1096.frozen? ⟨X_2.heap.size, 1, none⟩ = false := bx_15.2 1 (by simp)
    have k_1110 : X_1096.cell? ⟨X_2.heap.size, 2, none⟩ = some (Value.slice none 0 0) := bx_15.1.2 2 (by simp)
    have k_1111 : X_1096.frozen? ⟨X_2.heap.size, 2, none⟩ = false := bx_15.2 2 (by simp)
    have k_1112 : X_1096.cell? ⟨X_2.heap.size, 3, none⟩ = some (Value.slice none 0 0) := bx_15.1.2 3 (by simp)
    have k_1113 : X_1096.frozen? ⟨X_2.heap.size, 3, none⟩ = false := bx_15.2 3 (by simp)
    have k_1114 : X_1096.cell? ⟨X_2.heap.size, 4, none⟩ = some (Value.int .i64 0) := bx_15.1.2 4 (by simp)
    have k_1115 : X_1096.frozen? ⟨X_2.heap.size, 4, none⟩ = false := bx_15.2 4 (by simp)
    have k_1116 : X_1096.cell? ⟨w2.heap.size, 0, none⟩ = some (Value.slice p0 bs.length c0) := bx_34.1.2 0 (by simp)
    have k_1117 : X_1096.frozen? ⟨w2.heap.size, 0, none⟩ = false := bx_34.2 0 (by simp)
    have k_1118 : X_1096.cell? ⟨w2.heap.size, 1, none⟩ = some (Value.slice p1 ls.length c1) := bx_34.1.2 1 (by simp)
    have k_1119 : X_1096.frozen? ⟨w2.heap.size, 1, none⟩ = false := bx_34.2 1 (by simp)
    have k_1120 : X_1096.cell? ⟨w2.heap.size, 2, none⟩ = some (Value.slice (some ⟨g, 0, none⟩) ps.length c2) := bx_34.1.2 2 (by simp)
    have k_1121 : X_1096.frozen? ⟨w2.heap.size, 2, none⟩ = false := bx_34.2 2 (by simp)
    have k_1122 : X_1096.cell? ⟨w2.heap.size, 3, none⟩ = some (Value.slice p3 gs.length c3) := bx_34.1.2 3 (by simp)
    have k_1123 : X_1096.frozen? ⟨w2.heap.size, 3, none⟩ = false := bx_34.2 3 (by simp)
    have k_1124 : X_1096.cell? ⟨w2.heap.size, 4, none⟩ = some (Value.int .i64 n) := bx_34.1.2 4 (by simp)
    have k_1125 : X_1096.frozen? ⟨w2.heap.size, 4, none⟩ = false := bx_34.2 4 (by simp)
    have k_1126 : X_1096.cell? ⟨g, q, none⟩ = some (Value.int .i64 (-1)) := (hel.2 0 (by simp)).1
    have k_1127 : X_1096.frozen? ⟨g, q, none⟩ = false := (hel.2 0 (by simp)).2
    have H0 := hid o0
    have H1 := hid o1
    have H2 := hid o2
    have H3 := hid o3
    clear o0 o1 o2 o3
    go_wp2_with (fail)
    refine bodyPost_ret (v := .tuple #[.agg #[Value.slice p0 bs.length c0, Value.slice p1 ls.length c1, Value.slice (some ⟨g, 0, none⟩) ps.length c2, Value.slice p3 gs.length c3, Value.int .i64 n], .int .i64 0]) ?_ rfl ⟨_, _, _, _, by rw [HN.out], ?_⟩
    · simp [results, Try.results30, go_sem, k_1106, k_1108, k_1110, k_1112, k_1114]
    · rw [HN.out]
      dsimp only
      refine ⟨?_, ?_, ?_, ?_, ?_, ?_, ?_, ?_, ap01, ap02, ap03, ap12, ap13, ap23, (below_set5 tt_1100 (by omega) _ _ _ _ _)⟩
      ·
        exact owns_mono (owns_set5 H0.out hbase _ _ _ _ _) (by omega)
      · first | omega | (simp; omega)
      ·
        exact owns_mono (owns_set5 H1.out hbase _ _ _ _ _) (by omega)
      · first | omega | (simp; omega)
      ·
        rw [show (ps.set q (-1)).length = ps.length from by simp]
        exact owns_mono (owns_set5 H2.out hbase _ _ _ _ _) (by omega)
      · first | omega | (simp; omega)
      ·
        exact owns_mono (owns_set5 H3.out hbase _ _ _ _ _) (by omega)
      · first | omega | (simp; omega)
  case true =>
    have hp : ¬ (0 ≤ x) := by have h9 := hge.out; clear hge; simp at hP; omega
    have HN := hid (show unpinF ⟨⟨bs, ls⟩, ps, gs, n⟩ q = (⟨⟨bs, ls⟩, ps, gs, n⟩, 3) by
      simp only [unpinF, hY, hT, Int.toNat_natCast, hgd.out]; simp; omega)
    clear hp
    have k_1069 : w4.cell? ⟨w.heap.size, 0, none⟩ = some (Value.slice a0 bs.length cap0) := bx_8.1.2 0 (by simp)
    have k_1070 : w4.cell? ⟨w.heap.size, 1, none⟩ = some (Value.slice a1 ls.length cap1) := bx_8.1.2 1 (by simp)
    have k_1071 : w4.cell? ⟨w.heap.size, 2, none⟩ = some (Value.slice a2 ps.length cap2) := bx_8.1.2 2 (by simp)
    have k_1072 : w4.cell? ⟨w.heap.size, 3, none⟩ = some (Value.slice a3 gs.length cap3) := bx_8.1.2 3 (by simp)
    have k_1073 : w4.cell? ⟨w.heap.size, 4, none⟩ = some (Value.int .i64 n) := bx_8.1.2 4 (by simp)
    have k_1074 : w4.cell? ⟨X_2.heap.size, 0, none⟩ = some (Value.slice none 0 0) := bx_15.1.2 0 (by simp)
    have k_1075 : w4.frozen? ⟨X_2.heap.size, 0, none⟩ = false := bx_15.2 0 (by simp)
    have k_1076 : w4.cell? ⟨X_2.heap.size, 1, none⟩ = some (Value.slice none 0 0) := bx_15.1.2 1 (by simp)
    have k_1077 : w4.frozen? ⟨X_2.heap.size, 1, none⟩ = false := bx_15.2 1 (by simp)
    have k_1078 : w4.cell? ⟨X_2.heap.size, 2, none⟩ = some (Value.slice none 0 0) := bx_15.1.2 2 (by simp)
    have k_1079 : w4.frozen? ⟨X_2.heap.size, 2, none⟩ = false := bx_15.2 2 (by simp)
    have k_1080 : w4.cell? ⟨X_2.heap.size, 3, none⟩ = some (Value.slice none 0 0) := bx_15.1.2 3 (by simp)
    have k_1081 : w4.frozen? ⟨X_2.heap.size, 3, none⟩ = false := bx_15.2 3 (by simp)
    have k_1082 : w4.cell? ⟨X_2.heap.size, 4, none⟩ = some (Value.int .i64 0) := bx_15.1.2 4 (by simp)
    have k_1083 : w4.frozen? ⟨X_2.heap.size, 4, none⟩ = false := bx_15.2 4 (by simp)
    have k_1084 : w4.cell? ⟨w2.heap.size, 0, none⟩ = some (Value.slice p0 bs.length c0) := bx_34.1.2 0 (by simp)
    have k_1085 : w4.frozen? ⟨w2.heap.size, 0, none⟩ = false := bx_34.2 0 (by simp)
    have k_1086 : w4.cell? ⟨w2.heap.size, 1, none⟩ = some (Value.slice p1 ls.length c1) := bx_34.1.2 1 (by simp)
    have k_1087 : w4.frozen? ⟨w2.heap.size, 1, none⟩ = false := bx_34.2 1 (by simp)
    have k_1088 : w4.cell? ⟨w2.heap.size, 2, none⟩ = some (Value.slice (some ⟨g, 0, none⟩) ps.length c2) := bx_34.1.2 2 (by simp)
    have k_1089 : w4.frozen? ⟨w2.heap.size, 2, none⟩ = false := bx_34.2 2 (by simp)
    have k_1090 : w4.cell? ⟨w2.heap.size, 3, none⟩ = some (Value.slice p3 gs.length c3) := bx_34.1.2 3 (by simp)
    have k_1091 : w4.frozen? ⟨w2.heap.size, 3, none⟩ = false := bx_34.2 3 (by simp)
    have k_1092 : w4.cell? ⟨w2.heap.size, 4, none⟩ = some (Value.int .i64 n) := bx_34.1.2 4 (by simp)
    have k_1093 : w4.frozen? ⟨w2.heap.size, 4, none⟩ = false := bx_34.2 4 (by simp)
    have k_1094 : w4.cell? ⟨g, q, none⟩ = some (Value.int .i64 x) := (hel.2 0 (by simp)).1
    have k_1095 : w4.frozen? ⟨g, q, none⟩ = false := (hel.2 0 (by simp)).2
    have H0 := hid o0
    have H1 := hid o1
    have H2 := hid o2
    have H3 := hid o3
    clear o0 o1 o2 o3
    go_wp2_with (fail)
    refine bodyPost_ret (v := .tuple #[.agg #[Value.slice p0 bs.length c0, Value.slice p1 ls.length c1, Value.slice (some ⟨g, 0, none⟩) ps.length c2, Value.slice p3 gs.length c3, Value.int .i64 n], .int .i64 3]) ?_ rfl ⟨_, _, _, _, by rw [HN.out], ?_⟩
    · simp [results, Try.results30, go_sem, k_1074, k_1076, k_1078, k_1080, k_1082]
    · rw [HN.out]
      dsimp only
      refine ⟨?_, ?_, ?_, ?_, ?_, ?_, ?_, ?_, ap01, ap02, ap03, ap12, ap13, ap23, (below_set5 tt_68 (by omega) _ _ _ _ _)⟩
      ·
        exact owns_mono (owns_set5 H0.out hbase _ _ _ _ _) (by omega)
      · first | omega | (simp; omega)
      ·
        exact owns_mono (owns_set5 H1.out hbase _ _ _ _ _) (by omega)
      · first | omega | (simp; omega)
      ·
        exact owns_mono (owns_set5 H2.out hbase _ _ _ _ _) (by omega)
      · first | omega | (simp; omega)
      ·
        exact owns_mono (owns_set5 H3.out hbase _ _ _ _ _) (by omega)
      · first | omega | (simp; omega)
end Go.Proofs.Ytdnfphpeleakcaa
