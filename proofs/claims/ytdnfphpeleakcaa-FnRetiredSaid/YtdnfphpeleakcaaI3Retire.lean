/- Chapter 3's program: Retire. -/
import Derived.Test.YtdnfphpeleakcaaY3b
import Derived.Test.YtdnfphpeleakcaaI3c
import Derived.Test.YtdnfphpeleakcaaI3d
namespace Go.Proofs.Ytdnfphpeleakcaa
set_option maxRecDepth 100000
open Go.RowKit Go.Proofs Go.Own
open Go
set_option linter.unusedVariables false
set_option linter.unusedSimpArgs false

set_option maxRecDepth 100000 in set_option maxHeartbeats 2000000 in
theorem impl_Retire (v0 : Value) (bs : List Block) (v1 : Value) (ls : List Int) (v2 : Value) (ps : List Int) (v3 : Value) (gs : List Gone) (n : Int) (h : Int) (w : World) (h0 : Blocks w v0 bs) (hx0 : bs.length ≤ 1048576) (h1 : Ints w v1 ls) (hx1 : ls.length ≤ 1048576) (h2 : Ints w v2 ps) (hx2 : ps.length ≤ 1048576) (h3 : Gones w v3 gs) (hx3 : gs.length ≤ 1048576) (hgi : GonesIn gs := by assumption) (hb : InI h := by assumption) :
    Calls Try.prog 16 #[.agg #[v0, v1, v2, v3, .int .i64 n], .int .i64 h] w fun e w' => ∃ u0 u1 u2 u3, e = .returned (.tuple #[.agg #[u0, u1, u2, u3, .int .i64 (retireF ⟨⟨bs, ls⟩, ps, gs, n⟩ h).1.passes], .int .i64 (retireF ⟨⟨bs, ls⟩, ps, gs, n⟩ h).2]) ∧ w'.ownsRow w.heap.size 64 5 u0 (retireF ⟨⟨bs, ls⟩, ps, gs, n⟩ h).1.arena.blocks.length ((retireF ⟨⟨bs, ls⟩, ps, gs, n⟩ h).1.arena.blocks.flatMap Block.enc) ∧ (retireF ⟨⟨bs, ls⟩, ps, gs, n⟩ h).1.arena.blocks.length ≤ 1099511627776 ∧ w'.ownsRow w.heap.size 3 1 u1 (retireF ⟨⟨bs, ls⟩, ps, gs, n⟩ h).1.arena.list.length ((retireF ⟨⟨bs, ls⟩, ps, gs, n⟩ h).1.arena.list.flatMap encI) ∧ (retireF ⟨⟨bs, ls⟩, ps, gs, n⟩ h).1.arena.list.length ≤ 1099511627776 ∧ w'.ownsRow w.heap.size 3 1 u2 (retireF ⟨⟨bs, ls⟩, ps, gs, n⟩ h).1.pins.length ((retireF ⟨⟨bs, ls⟩, ps, gs, n⟩ h).1.pins.flatMap encI) ∧ (retireF ⟨⟨bs, ls⟩, ps, gs, n⟩ h).1.pins.length ≤ 1099511627776 ∧ w'.ownsRow w.heap.size 70 2 u3 (retireF ⟨⟨bs, ls⟩, ps, gs, n⟩ h).1.retired.length ((retireF ⟨⟨bs, ls⟩, ps, gs, n⟩ h).1.retired.flatMap Gone.enc) ∧ (retireF ⟨⟨bs, ls⟩, ps, gs, n⟩ h).1.retired.length ≤ 1099511627776 ∧ ((u0.ownBlock = none ∨ u0.ownBlock ≠ u1.ownBlock) ∧ (u1.ownBlock = none ∨ u1.ownBlock ≠ u0.ownBlock)) ∧ ((u0.ownBlock = none ∨ u0.ownBlock ≠ u2.ownBlock) ∧ (u2.ownBlock = none ∨ u2.ownBlock ≠ u0.ownBlock)) ∧ ((u0.ownBlock = none ∨ u0.ownBlock ≠ u3.ownBlock) ∧ (u3.ownBlock = none ∨ u3.ownBlock ≠ u0.ownBlock)) ∧ ((u1.ownBlock = none ∨ u1.ownBlock ≠ u2.ownBlock) ∧ (u2.ownBlock = none ∨ u2.ownBlock ≠ u1.ownBlock)) ∧ ((u1.ownBlock = none ∨ u1.ownBlock ≠ u3.ownBlock) ∧ (u3.ownBlock = none ∨ u3.ownBlock ≠ u1.ownBlock)) ∧ ((u2.ownBlock = none ∨ u2.ownBlock ≠ u3.ownBlock) ∧ (u3.ownBlock = none ∨ u3.ownBlock ≠ u2.ownBlock)) ∧ Below w.heap.size w w' := by
  have hh0 := h0
  obtain ⟨a0, cap0, rfl, hl0, hm0⟩ := h0.form
  have hh1 := h1
  obtain ⟨a1, cap1, rfl, hl1, hm1⟩ := h1.form
  have hh2 := h2
  obtain ⟨a2, cap2, rfl, hl2, hm2⟩ := h2.form
  have hh3 := h3
  obtain ⟨a3, cap3, rfl, hl3, hm3⟩ := h3.form
  have tt_1 : Below w.heap.size w w := Below.refl _ _
  obtain ⟨X_2, hX_3⟩ : ∃ X, w.alloc (.cells #[Value.slice a0 bs.length cap0, Value.slice a1 ls.length cap1, Value.slice a2 ps.length cap2, Value.slice a3 gs.length cap3, Value.int .i64 n] 30) = X := ⟨_, rfl⟩
  have bX_4 : Below w.heap.size w X_2 := by rw [← hX_3]; exact (Below.refl _ _).alloc (Nat.le_refl _) _
  have zs_5 : w.heap.size + 1 ≤ X_2.heap.size := by rw [← hX_3]; simp
  have zz_6 := Below.size bX_4
  have tt_7 : Below w.heap.size w X_2 := Below.trans tt_1 (Below.mono bX_4 (Below.size tt_1))
  replace h0 := Flat.below h0 bX_4
  replace h1 := Flat.below h1 bX_4
  replace h2 := Flat.below h2 bX_4
  replace h3 := Flat.below h3 bX_4
  have bx_8 : BoxF X_2 w.heap.size [Value.slice a0 bs.length cap0, Value.slice a1 ls.length cap1, Value.slice a2 ps.length cap2, Value.slice a3 gs.length cap3, Value.int .i64 n] := by rw [← hX_3]; exact BoxF.alloc _ _ _
  obtain ⟨X_9, hX_10⟩ : ∃ X, X_2.alloc (.cells #[Value.slice none 0 0, Value.slice none 0 0, Value.slice none 0 0, Value.slice none 0 0, Value.int .i64 0] 30) = X := ⟨_, rfl⟩
  have bX_11 : Below X_2.heap.size X_2 X_9 := by rw [← hX_10]; exact (Below.refl _ _).alloc (Nat.le_refl _) _
  have zs_12 : X_2.heap.size + 1 ≤ X_9.heap.size := by rw [← hX_10]; simp
  have zz_13 := Below.size bX_11
  have tt_14 : Below w.heap.size w X_9 := Below.trans tt_7 (Below.mono bX_11 (Below.size tt_7))
  replace bx_8 := BoxF.below bx_8 bX_11
  replace h0 := Flat.below h0 bX_11
  replace h1 := Flat.below h1 bX_11
  replace h2 := Flat.below h2 bX_11
  replace h3 := Flat.below h3 bX_11
  have bx_15 : BoxF X_9 X_2.heap.size [Value.slice none 0 0, Value.slice none 0 0, Value.slice none 0 0, Value.slice none 0 0, Value.int .i64 0] := by rw [← hX_10]; exact BoxF.alloc _ _ _
  have k_16 : X_9.cell? ⟨w.heap.size, 0, none⟩ = some (Value.slice a0 bs.length cap0) := bx_8.1.2 0 (by simp)
  have k_17 : X_9.cell? ⟨w.heap.size, 1, none⟩ = some (Value.slice a1 ls.length cap1) := bx_8.1.2 1 (by simp)
  have k_18 : X_9.cell? ⟨w.heap.size, 2, none⟩ = some (Value.slice a2 ps.length cap2) := bx_8.1.2 2 (by simp)
  have k_19 : X_9.cell? ⟨w.heap.size, 3, none⟩ = some (Value.slice a3 gs.length cap3) := bx_8.1.2 3 (by simp)
  have k_20 : X_9.cell? ⟨w.heap.size, 4, none⟩ = some (Value.int .i64 n) := bx_8.1.2 4 (by simp)
  have k_21 : X_9.cell? ⟨X_2.heap.size, 0, none⟩ = some (Value.slice none 0 0) := bx_15.1.2 0 (by simp)
  have k_22 : X_9.cell? ⟨X_2.heap.size, 1, none⟩ = some (Value.slice none 0 0) := bx_15.1.2 1 (by simp)
  have k_23 : X_9.cell? ⟨X_2.heap.size, 2, none⟩ = some (Value.slice none 0 0) := bx_15.1.2 2 (by simp)
  have k_24 : X_9.cell? ⟨X_2.heap.size, 3, none⟩ = some (Value.slice none 0 0) := bx_15.1.2 3 (by simp)
  have k_25 : X_9.cell? ⟨X_2.heap.size, 4, none⟩ = some (Value.int .i64 0) := bx_15.1.2 4 (by simp)
  go_enter Try.func16, Try.ntmps16
  go_wp2_with fail
  clear hX_3 hX_10 k_16 k_17 k_18 k_19 k_20 k_21 k_22 k_23 k_24 k_25
  refine (impl_copyYard _ bs _ ls _ ps _ gs n _ h0 hx0 h1 hx1 h2 hx2 h3 hx3).mono ?_
  rintro e w2 ⟨u0, u1, u2, u3, rfl, o0, o1, o2, o3, ap01, ap02, ap03, ap12, ap13, ap23, b2⟩
  have lt0 := hid (World.ownsRow.lt o0)
  obtain ⟨p0, c0, rfl, hn0, hq0⟩ := owns_form o0
  have lt1 := hid (World.ownsRow.lt o1)
  obtain ⟨p1, c1, rfl, hn1, hq1⟩ := owns_form o1
  have lt2 := hid (World.ownsRow.lt o2)
  obtain ⟨p2, c2, rfl, hn2, hq2⟩ := owns_form o2
  have lt3 := hid (World.ownsRow.lt o3)
  obtain ⟨p3, c3, rfl, hn3, hq3⟩ := owns_form o3
  have zz_26 := Below.size b2
  have tt_27 : Below w.heap.size w w2 := Below.trans tt_14 (Below.mono b2 (Below.size tt_14))
  replace bx_8 := BoxF.below bx_8 b2
  replace bx_15 := BoxF.below bx_15 b2
  replace h0 := Flat.below h0 b2
  replace h1 := Flat.below h1 b2
  replace h2 := Flat.below h2 b2
  replace h3 := Flat.below h3 b2
  obtain ⟨X_28, hX_29⟩ : ∃ X, w2.alloc (.cells #[Value.slice p0 bs.length c0, Value.slice p1 ls.length c1, Value.slice p2 ps.length c2, Value.slice p3 gs.length c3, Value.int .i64 n] 30) = X := ⟨_, rfl⟩
  have bX_30 : Below w2.heap.size w2 X_28 := by rw [← hX_29]; exact (Below.refl _ _).alloc (Nat.le_refl _) _
  have zs_31 : w2.heap.size + 1 ≤ X_28.heap.size := by rw [← hX_29]; simp
  have zz_32 := Below.size bX_30
  have tt_33 : Below w.heap.size w X_28 := Below.trans tt_27 (Below.mono bX_30 (Below.size tt_27))
  replace bx_8 := BoxF.below bx_8 bX_30
  replace bx_15 := BoxF.below bx_15 bX_30
  replace o0 := owns_below o0 bX_30
  replace o1 := owns_below o1 bX_30
  replace o2 := owns_below o2 bX_30
  replace o3 := owns_below o3 bX_30
  replace h0 := Flat.below h0 bX_30
  replace h1 := Flat.below h1 bX_30
  replace h2 := Flat.below h2 bX_30
  replace h3 := Flat.below h3 bX_30
  have bx_34 : BoxF X_28 w2.heap.size [Value.slice p0 bs.length c0, Value.slice p1 ls.length c1, Value.slice p2 ps.length c2, Value.slice p3 gs.length c3, Value.int .i64 n] := by rw [← hX_29]; exact BoxF.alloc _ _ _
  have hOUT := hX_29
  have hbase : X_2.heap.size < X_9.heap.size := by omega
  have k_35 : X_28.cell? ⟨w.heap.size, 0, none⟩ = some (Value.slice a0 bs.length cap0) := bx_8.1.2 0 (by simp)
  have k_36 : X_28.cell? ⟨w.heap.size, 1, none⟩ = some (Value.slice a1 ls.length cap1) := bx_8.1.2 1 (by simp)
  have k_37 : X_28.cell? ⟨w.heap.size, 2, none⟩ = some (Value.slice a2 ps.length cap2) := bx_8.1.2 2 (by simp)
  have k_38 : X_28.cell? ⟨w.heap.size, 3, none⟩ = some (Value.slice a3 gs.length cap3) := bx_8.1.2 3 (by simp)
  have k_39 : X_28.cell? ⟨w.heap.size, 4, none⟩ = some (Value.int .i64 n) := bx_8.1.2 4 (by simp)
  have k_40 : X_28.cell? ⟨X_2.heap.size, 0, none⟩ = some (Value.slice none 0 0) := bx_15.1.2 0 (by simp)
  have k_41 : X_28.cell? ⟨X_2.heap.size, 1, none⟩ = some (Value.slice none 0 0) := bx_15.1.2 1 (by simp)
  have k_42 : X_28.cell? ⟨X_2.heap.size, 2, none⟩ = some (Value.slice none 0 0) := bx_15.1.2 2 (by simp)
  have k_43 : X_28.cell? ⟨X_2.heap.size, 3, none⟩ = some (Value.slice none 0 0) := bx_15.1.2 3 (by simp)
  have k_44 : X_28.cell? ⟨X_2.heap.size, 4, none⟩ = some (Value.int .i64 0) := bx_15.1.2 4 (by simp)
  have k_45 : X_28.cell? ⟨w2.heap.size, 0, none⟩ = some (Value.slice p0 bs.length c0) := bx_34.1.2 0 (by simp)
  have k_46 : X_28.cell? ⟨w2.heap.size, 1, none⟩ = some (Value.slice p1 ls.length c1) := bx_34.1.2 1 (by simp)
  have k_47 : X_28.cell? ⟨w2.heap.size, 2, none⟩ = some (Value.slice p2 ps.length c2) := bx_34.1.2 2 (by simp)
  have k_48 : X_28.cell? ⟨w2.heap.size, 3, none⟩ = some (Value.slice p3 gs.length c3) := bx_34.1.2 3 (by simp)
  have k_49 : X_28.cell? ⟨w2.heap.size, 4, none⟩ = some (Value.int .i64 n) := bx_34.1.2 4 (by simp)
  go_wp2_with fail
  clear hX_29 k_35 k_36 k_37 k_38 k_39 k_40 k_41 k_42 k_43 k_44 k_45 k_46 k_47 k_48 k_49
  have hT : X_28.heap[w2.heap.size]? = some (.cells #[Value.slice p0 bs.length c0, Value.slice p1 ls.length c1, Value.slice p2 ps.length c2, Value.slice p3 gs.length c3, Value.int .i64 n] 30 (0, 0)) := by rw [← hOUT]; exact heap_alloc_new _ _
  clear hOUT
  refine (impl_YardOk0 _ bs _ ls _ ps _ gs n _ (Flat.of_owns o0) (Flat.of_owns o1) (Flat.of_owns o2) (Flat.of_owns o3) hgi).mono ?_
  rintro e w3 ⟨rfl, b3⟩
  have zz_50 := Below.size b3
  have tt_51 : Below w.heap.size w w3 := Below.trans tt_33 (Below.mono b3 (Below.size tt_33))
  replace bx_8 := BoxF.below bx_8 b3
  replace bx_15 := BoxF.below bx_15 b3
  replace bx_34 := BoxF.below bx_34 b3
  replace o0 := owns_below o0 b3
  replace o1 := owns_below o1 b3
  replace o2 := owns_below o2 b3
  replace o3 := owns_below o3 b3
  replace h0 := Flat.below h0 b3
  replace h1 := Flat.below h1 b3
  replace h2 := Flat.below h2 b3
  replace h3 := Flat.below h3 b3
  replace hT := (b3.block _ (by omega)).trans hT
  cases hY : yardOk ⟨⟨bs, ls⟩, ps, gs, n⟩
  case false =>
    have HN := hid (show retireF ⟨⟨bs, ls⟩, ps, gs, n⟩ h = (⟨⟨bs, ls⟩, ps, gs, n⟩, 1) by simp [retireF, hY])
    have k_1052 : w3.cell? ⟨w.heap.size, 0, none⟩ = some (Value.slice a0 bs.length cap0) := bx_8.1.2 0 (by simp)
    have k_1053 : w3.cell? ⟨w.heap.size, 1, none⟩ = some (Value.slice a1 ls.length cap1) := bx_8.1.2 1 (by simp)
    have k_1054 : w3.cell? ⟨w.heap.size, 2, none⟩ = some (Value.slice a2 ps.length cap2) := bx_8.1.2 2 (by simp)
    have k_1055 : w3.cell? ⟨w.heap.size, 3, none⟩ = some (Value.slice a3 gs.length cap3) := bx_8.1.2 3 (by simp)
    have k_1056 : w3.cell? ⟨w.heap.size, 4, none⟩ = some (Value.int .i64 n) := bx_8.1.2 4 (by simp)
    have k_1057 : w3.cell? ⟨X_2.heap.size, 0, none⟩ = some (Value.slice none 0 0) := bx_15.1.2 0 (by simp)
    have k_1058 : w3.frozen? ⟨X_2.heap.size, 0, none⟩ = false := bx_15.2 0 (by simp)
    have k_1059 : w3.cell? ⟨X_2.heap.size, 1, none⟩ = some (Value.slice none 0 0) := bx_15.1.2 1 (by simp)
    have k_1060 : w3.frozen? ⟨X_2.heap.size, 1, none⟩ = false := bx_15.2 1 (by simp)
    have k_1061 : w3.cell? ⟨X_2.heap.size, 2, none⟩ = some (Value.slice none 0 0) := bx_15.1.2 2 (by simp)
    have k_1062 : w3.frozen? ⟨X_2.heap.size, 2, none⟩ = false := bx_15.2 2 (by simp)
    have k_1063 : w3.cell? ⟨X_2.heap.size, 3, none⟩ = some (Value.slice none 0 0) := bx_15.1.2 3 (by simp)
    have k_1064 : w3.frozen? ⟨X_2.heap.size, 3, none⟩ = false := bx_15.2 3 (by simp)
    have k_1065 : w3.cell? ⟨X_2.heap.size, 4, none⟩ = some (Value.int .i64 0) := bx_15.1.2 4 (by simp)
    have k_1066 : w3.frozen? ⟨X_2.heap.size, 4, none⟩ = false := bx_15.2 4 (by simp)
    have k_1067 : w3.cell? ⟨w2.heap.size, 0, none⟩ = some (Value.slice p0 bs.length c0) := bx_34.1.2 0 (by simp)
    have k_1068 : w3.frozen? ⟨w2.heap.size, 0, none⟩ = false := bx_34.2 0 (by simp)
    have k_1069 : w3.cell? ⟨w2.heap.size, 1, none⟩ = some (Value.slice p1 ls.length c1) := bx_34.1.2 1 (by simp)
    have k_1070 : w3.frozen? ⟨w2.heap.size, 1, none⟩ = false := bx_34.2 1 (by simp)
    have k_1071 : w3.cell? ⟨w2.heap.size, 2, none⟩ = some (Value.slice p2 ps.length c2) := bx_34.1.2 2 (by simp)
    have k_1072 : w3.frozen? ⟨w2.heap.size, 2, none⟩ = false := bx_34.2 2 (by simp)
    have k_1073 : w3.cell? ⟨w2.heap.size, 3, none⟩ = some (Value.slice p3 gs.length c3) := bx_34.1.2 3 (by simp)
    have k_1074 : w3.frozen? ⟨w2.heap.size, 3, none⟩ = false := bx_34.2 3 (by simp)
    have k_1075 : w3.cell? ⟨w2.heap.size, 4, none⟩ = some (Value.int .i64 n) := bx_34.1.2 4 (by simp)
    have k_1076 : w3.frozen? ⟨w2.heap.size, 4, none⟩ = false := bx_34.2 4 (by simp)
    have H0 := hid o0
    have H1 := hid o1
    have H2 := hid o2
    have H3 := hid o3
    clear o0 o1 o2 o3
    go_wp2_with (fail)
    refine bodyPost_ret (v := .tuple #[.agg #[Value.slice p0 bs.length c0, Value.slice p1 ls.length c1, Value.slice p2 ps.length c2, Value.slice p3 gs.length c3, Value.int .i64 n], .int .i64 1]) ?_ rfl ⟨_, _, _, _, by rw [HN.out], ?_⟩
    · simp [results, Try.results16, go_sem, k_1057, k_1059, k_1061, k_1063, k_1065]
    · rw [HN.out]
      dsimp only
      refine ⟨?_, ?_, ?_, ?_, ?_, ?_, ?_, ?_, ap01, ap02, ap03, ap12, ap13, ap23, (below_set5 tt_51 (by omega) _ _ _ _ _)⟩
      ·
        exact owns_mono (owns_set5 H0.out hbase _ _ _ _ _) (by omega)
      · first | omega | (simp; omega)
      ·
        exact owns_mono (owns_set5 H1.out hbase _ _ _ _ _) (by omega)
      · first | omega | (simp; omega)
      ·
        exact owns_mono (owns_set5 H2.out hbase _ _ _ _ _) (by omega)
      · first | omega | (simp; omega)
      ·
        exact owns_mono (owns_set5 H3.out hbase _ _ _ _ _) (by omega)
      · first | omega | (simp; omega)
  have k_52 : w3.cell? ⟨w.heap.size, 0, none⟩ = some (Value.slice a0 bs.length cap0) := bx_8.1.2 0 (by simp)
  have k_53 : w3.cell? ⟨w.heap.size, 1, none⟩ = some (Value.slice a1 ls.length cap1) := bx_8.1.2 1 (by simp)
  have k_54 : w3.cell? ⟨w.heap.size, 2, none⟩ = some (Value.slice a2 ps.length cap2) := bx_8.1.2 2 (by simp)
  have k_55 : w3.cell? ⟨w.heap.size, 3, none⟩ = some (Value.slice a3 gs.length cap3) := bx_8.1.2 3 (by simp)
  have k_56 : w3.cell? ⟨w.heap.size, 4, none⟩ = some (Value.int .i64 n) := bx_8.1.2 4 (by simp)
  have k_57 : w3.cell? ⟨X_2.heap.size, 0, none⟩ = some (Value.slice none 0 0) := bx_15.1.2 0 (by simp)
  have k_58 : w3.cell? ⟨X_2.heap.size, 1, none⟩ = some (Value.slice none 0 0) := bx_15.1.2 1 (by simp)
  have k_59 : w3.cell? ⟨X_2.heap.size, 2, none⟩ = some (Value.slice none 0 0) := bx_15.1.2 2 (by simp)
  have k_60 : w3.cell? ⟨X_2.heap.size, 3, none⟩ = some (Value.slice none 0 0) := bx_15.1.2 3 (by simp)
  have k_61 : w3.cell? ⟨X_2.heap.size, 4, none⟩ = some (Value.int .i64 0) := bx_15.1.2 4 (by simp)
  have k_62 : w3.cell? ⟨w2.heap.size, 0, none⟩ = some (Value.slice p0 bs.length c0) := bx_34.1.2 0 (by simp)
  have k_63 : w3.cell? ⟨w2.heap.size, 1, none⟩ = some (Value.slice p1 ls.length c1) := bx_34.1.2 1 (by simp)
  have k_64 : w3.cell? ⟨w2.heap.size, 2, none⟩ = some (Value.slice p2 ps.length c2) := bx_34.1.2 2 (by simp)
  have k_65 : w3.cell? ⟨w2.heap.size, 3, none⟩ = some (Value.slice p3 gs.length c3) := bx_34.1.2 3 (by simp)
  have k_66 : w3.cell? ⟨w2.heap.size, 4, none⟩ = some (Value.int .i64 n) := bx_34.1.2 4 (by simp)
  go_wp2_with fail
  clear k_52 k_53 k_54 k_55 k_56 k_57 k_58 k_59 k_60 k_61 k_62 k_63 k_64 k_65 k_66
  refine (impl_Live _ bs _ ls h _ (Flat.of_owns o0) hx0 (Flat.of_owns o1) hx1).mono ?_
  rintro e w4 ⟨rfl, b4⟩
  have zz_67 := Below.size b4
  have tt_68 : Below w.heap.size w w4 := Below.trans tt_51 (Below.mono b4 (Below.size tt_51))
  replace bx_8 := BoxF.below bx_8 b4
  replace bx_15 := BoxF.below bx_15 b4
  replace bx_34 := BoxF.below bx_34 b4
  replace o0 := owns_below o0 b4
  replace o1 := owns_below o1 b4
  replace o2 := owns_below o2 b4
  replace o3 := owns_below o3 b4
  replace h0 := Flat.below h0 b4
  replace h1 := Flat.below h1 b4
  replace h2 := Flat.below h2 b4
  replace h3 := Flat.below h3 b4
  replace hT := (b4.block _ (by omega)).trans hT
  cases hL : liveF ⟨bs, ls⟩ h
  case false =>
    have HN := hid (show retireF ⟨⟨bs, ls⟩, ps, gs, n⟩ h = (⟨⟨bs, ls⟩, ps, gs, n⟩, 4) by simp [retireF, hY, hL])
    have k_1069 : w4.cell? ⟨w.heap.size, 0, none⟩ = some (Value.slice a0 bs.length cap0) := bx_8.1.2 0 (by simp)
    have k_1070 : w4.cell? ⟨w.heap.size, 1, none⟩ = some (Value.slice a1 ls.length cap1) := bx_8.1.2 1 (by simp)
    have k_1071 : w4.cell? ⟨w.heap.size, 2, none⟩ = some (Value.slice a2 ps.length cap2) := bx_8.1.2 2 (by simp)
    have k_1072 : w4.cell? ⟨w.heap.size, 3, none⟩ = some (Value.slice a3 gs.length cap3) := bx_8.1.2 3 (by simp)
    have k_1073 : w4.cell? ⟨w.heap.size, 4, none⟩ = some (Value.int .i64 n) := bx_8.1.2 4 (by simp)
    have k_1074 : w4.cell? ⟨X_2.heap.size, 0, none⟩ = some (Value.slice none 0 0) := bx_15.1.2 0 (by simp)
    have k_1075 : w4.frozen? ⟨X_2.heap.size, 0, none⟩ = false := bx_15.2 0 (by simp)
    have k_1076 : w4.cell? ⟨X_2.heap.size, 1, none⟩ = some (Value.slice none 0 0) := bx_15.1.2 1 (by simp)
    have k_1077 : w4.frozen? ⟨X_2.heap.size, 1, none⟩ = false := bx_15.2 1 (by simp)
    have k_1078 : w4.cell? ⟨X_2.heap.size, 2, none⟩ = some (Value.slice none 0 0) := bx_15.1.2 2 (by simp)
    have k_1079 : w4.frozen? ⟨X_2.heap.size, 2, none⟩ = false := bx_15.2 2 (by simp)
    have k_1080 : w4.cell? ⟨X_2.heap.size, 3, none⟩ = some (Value.slice none 0 0) := bx_15.1.2 3 (by simp)
    have k_1081 : w4.frozen? ⟨X_2.heap.size, 3, none⟩ = false := bx_15.2 3 (by simp)
    have k_1082 : w4.cell? ⟨X_2.heap.size, 4, none⟩ = some (Value.int .i64 0) := bx_15.1.2 4 (by simp)
    have k_1083 : w4.frozen? ⟨X_2.heap.size, 4, none⟩ = false := bx_15.2 4 (by simp)
    have k_1084 : w4.cell? ⟨w2.heap.size, 0, none⟩ = some (Value.slice p0 bs.length c0) := bx_34.1.2 0 (by simp)
    have k_1085 : w4.frozen? ⟨w2.heap.size, 0, none⟩ = false := bx_34.2 0 (by simp)
    have k_1086 : w4.cell? ⟨w2.heap.size, 1, none⟩ = some (Value.slice p1 ls.length c1) := bx_34.1.2 1 (by simp)
    have k_1087 : w4.frozen? ⟨w2.heap.size, 1, none⟩ = false := bx_34.2 1 (by simp)
    have k_1088 : w4.cell? ⟨w2.heap.size, 2, none⟩ = some (Value.slice p2 ps.length c2) := bx_34.1.2 2 (by simp)
    have k_1089 : w4.frozen? ⟨w2.heap.size, 2, none⟩ = false := bx_34.2 2 (by simp)
    have k_1090 : w4.cell? ⟨w2.heap.size, 3, none⟩ = some (Value.slice p3 gs.length c3) := bx_34.1.2 3 (by simp)
    have k_1091 : w4.frozen? ⟨w2.heap.size, 3, none⟩ = false := bx_34.2 3 (by simp)
    have k_1092 : w4.cell? ⟨w2.heap.size, 4, none⟩ = some (Value.int .i64 n) := bx_34.1.2 4 (by simp)
    have k_1093 : w4.frozen? ⟨w2.heap.size, 4, none⟩ = false := bx_34.2 4 (by simp)
    have H0 := hid o0
    have H1 := hid o1
    have H2 := hid o2
    have H3 := hid o3
    clear o0 o1 o2 o3
    go_wp2_with (fail)
    refine bodyPost_ret (v := .tuple #[.agg #[Value.slice p0 bs.length c0, Value.slice p1 ls.length c1, Value.slice p2 ps.length c2, Value.slice p3 gs.length c3, Value.int .i64 n], .int .i64 4]) ?_ rfl ⟨_, _, _, _, by rw [HN.out], ?_⟩
    · simp [results, Try.results16, go_sem, k_1074, k_1076, k_1078, k_1080, k_1082]
    · rw [HN.out]
      dsimp only
      refine ⟨?_, ?_, ?_, ?_, ?_, ?_, ?_, ?_, ap01, ap02, ap03, ap12, ap13, ap23, (below_set5 tt_68 (by omega) _ _ _ _ _)⟩
      ·
        exact owns_mono (owns_set5 H0.out hbase _ _ _ _ _) (by omega)
      · first | omega | (simp; omega)
      ·
        exact owns_mono (owns_set5 H1.out hbase _ _ _ _ _) (by omega)
      · first | omega | (simp; omega)
      ·
        exact owns_mono (owns_set5 H2.out hbase _ _ _ _ _) (by omega)
      · first | omega | (simp; omega)
      ·
        exact owns_mono (owns_set5 H3.out hbase _ _ _ _ _) (by omega)
      · first | omega | (simp; omega)
  have k_69 : w4.cell? ⟨w.heap.size, 0, none⟩ = some (Value.slice a0 bs.length cap0) := bx_8.1.2 0 (by simp)
  have k_70 : w4.cell? ⟨w.heap.size, 1, none⟩ = some (Value.slice a1 ls.length cap1) := bx_8.1.2 1 (by simp)
  have k_71 : w4.cell? ⟨w.heap.size, 2, none⟩ = some (Value.slice a2 ps.length cap2) := bx_8.1.2 2 (by simp)
  have k_72 : w4.cell? ⟨w.heap.size, 3, none⟩ = some (Value.slice a3 gs.length cap3) := bx_8.1.2 3 (by simp)
  have k_73 : w4.cell? ⟨w.heap.size, 4, none⟩ = some (Value.int .i64 n) := bx_8.1.2 4 (by simp)
  have k_74 : w4.cell? ⟨X_2.heap.size, 0, none⟩ = some (Value.slice none 0 0) := bx_15.1.2 0 (by simp)
  have k_75 : w4.cell? ⟨X_2.heap.size, 1, none⟩ = some (Value.slice none 0 0) := bx_15.1.2 1 (by simp)
  have k_76 : w4.cell? ⟨X_2.heap.size, 2, none⟩ = some (Value.slice none 0 0) := bx_15.1.2 2 (by simp)
  have k_77 : w4.cell? ⟨X_2.heap.size, 3, none⟩ = some (Value.slice none 0 0) := bx_15.1.2 3 (by simp)
  have k_78 : w4.cell? ⟨X_2.heap.size, 4, none⟩ = some (Value.int .i64 0) := bx_15.1.2 4 (by simp)
  have k_79 : w4.cell? ⟨w2.heap.size, 0, none⟩ = some (Value.slice p0 bs.length c0) := bx_34.1.2 0 (by simp)
  have k_80 : w4.cell? ⟨w2.heap.size, 1, none⟩ = some (Value.slice p1 ls.length c1) := bx_34.1.2 1 (by simp)
  have k_81 : w4.cell? ⟨w2.heap.size, 2, none⟩ = some (Value.slice p2 ps.length c2) := bx_34.1.2 2 (by simp)
  have k_82 : w4.cell? ⟨w2.heap.size, 3, none⟩ = some (Value.slice p3 gs.length c3) := bx_34.1.2 3 (by simp)
  have k_83 : w4.cell? ⟨w2.heap.size, 4, none⟩ = some (Value.int .i64 n) := bx_34.1.2 4 (by simp)
  go_wp2_with fail
  clear k_69 k_70 k_71 k_72 k_73 k_74 k_75 k_76 k_77 k_78 k_79 k_80 k_81 k_82 k_83
  refine (impl_isRetired _ bs _ ls _ ps _ gs n h _ (Flat.of_owns o0) (Flat.of_owns o1) (Flat.of_owns o2) (Flat.of_owns o3)).mono ?_
  rintro e w5 ⟨rfl, b5⟩
  have zz_84 := Below.size b5
  have tt_85 : Below w.heap.size w w5 := Below.trans tt_68 (Below.mono b5 (Below.size tt_68))
  replace bx_8 := BoxF.below bx_8 b5
  replace bx_15 := BoxF.below bx_15 b5
  replace bx_34 := BoxF.below bx_34 b5
  replace o0 := owns_below o0 b5
  replace o1 := owns_below o1 b5
  replace o2 := owns_below o2 b5
  replace o3 := owns_below o3 b5
  replace h0 := Flat.below h0 b5
  replace h1 := Flat.below h1 b5
  replace h2 := Flat.below h2 b5
  replace h3 := Flat.below h3 b5
  replace hT := (b5.block _ (by omega)).trans hT
  cases hF : decide (0 ≤ findF gs h)
  case true =>
    have HN := hid (show retireF ⟨⟨bs, ls⟩, ps, gs, n⟩ h = (⟨⟨bs, ls⟩, ps, gs, n⟩, 4) by simp only [retireF, hY, hL, hF]; rfl)
    have k_1086 : w5.cell? ⟨w.heap.size, 0, none⟩ = some (Value.slice a0 bs.length cap0) := bx_8.1.2 0 (by simp)
    have k_1087 : w5.cell? ⟨w.heap.size, 1, none⟩ = some (Value.slice a1 ls.length cap1) := bx_8.1.2 1 (by simp)
    have k_1088 : w5.cell? ⟨w.heap.size, 2, none⟩ = some (Value.slice a2 ps.length cap2) := bx_8.1.2 2 (by simp)
    have k_1089 : w5.cell? ⟨w.heap.size, 3, none⟩ = some (Value.slice a3 gs.length cap3) := bx_8.1.2 3 (by simp)
    have k_1090 : w5.cell? ⟨w.heap.size, 4, none⟩ = some (Value.int .i64 n) := bx_8.1.2 4 (by simp)
    have k_1091 : w5.cell? ⟨X_2.heap.size, 0, none⟩ = some (Value.slice none 0 0) := bx_15.1.2 0 (by simp)
    have k_1092 : w5.frozen? ⟨X_2.heap.size, 0, none⟩ = false := bx_15.2 0 (by simp)
    have k_1093 : w5.cell? ⟨X_2.heap.size, 1, none⟩ = some (Value.slice none 0 0) := bx_15.1.2 1 (by simp)
    have k_1094 : w5.frozen? ⟨X_2.heap.size, 1, none⟩ = false := bx_15.2 1 (by simp)
    have k_1095 : w5.cell? ⟨X_2.heap.size, 2, none⟩ = some (Value.slice none 0 0) := bx_15.1.2 2 (by simp)
    have k_1096 : w5.frozen? ⟨X_2.heap.size, 2, none⟩ = false := bx_15.2 2 (by simp)
    have k_1097 : w5.cell? ⟨X_2.heap.size, 3, none⟩ = some (Value.slice none 0 0) := bx_15.1.2 3 (by simp)
    have k_1098 : w5.frozen? ⟨X_2.heap.size, 3, none⟩ = false := bx_15.2 3 (by simp)
    have k_1099 : w5.cell? ⟨X_2.heap.size, 4, none⟩ = some (Value.int .i64 0) := bx_15.1.2 4 (by simp)
    have k_1100 : w5.frozen? ⟨X_2.heap.size, 4, none⟩ = false := bx_15.2 4 (by simp)
    have k_1101 : w5.cell? ⟨w2.heap.size, 0, none⟩ = some (Value.slice p0 bs.length c0) := bx_34.1.2 0 (by simp)
    have k_1102 : w5.frozen? ⟨w2.heap.size, 0, none⟩ = false := bx_34.2 0 (by simp)
    have k_1103 : w5.cell? ⟨w2.heap.size, 1, none⟩ = some (Value.slice p1 ls.length c1) := bx_34.1.2 1 (by simp)
    have k_1104 : w5.frozen? ⟨w2.heap.size, 1, none⟩ = false := bx_34.2 1 (by simp)
    have k_1105 : w5.cell? ⟨w2.heap.size, 2, none⟩ = some (Value.slice p2 ps.length c2) := bx_34.1.2 2 (by simp)
    have k_1106 : w5.frozen? ⟨w2.heap.size, 2, none⟩ = false := bx_34.2 2 (by simp)
    have k_1107 : w5.cell? ⟨w2.heap.size, 3, none⟩ = some (Value.slice p3 gs.length c3) := bx_34.1.2 3 (by simp)
    have k_1108 : w5.frozen? ⟨w2.heap.size, 3, none⟩ = false := bx_34.2 3 (by simp)
    have k_1109 : w5.cell? ⟨w2.heap.size, 4, none⟩ = some (Value.int .i64 n) := bx_34.1.2 4 (by simp)
    have k_1110 : w5.frozen? ⟨w2.heap.size, 4, none⟩ = false := bx_34.2 4 (by simp)
    have H0 := hid o0
    have H1 := hid o1
    have H2 := hid o2
    have H3 := hid o3
    clear o0 o1 o2 o3
    go_wp2_with (fail)
    refine bodyPost_ret (v := .tuple #[.agg #[Value.slice p0 bs.length c0, Value.slice p1 ls.length c1, Value.slice p2 ps.length c2, Value.slice p3 gs.length c3, Value.int .i64 n], .int .i64 4]) ?_ rfl ⟨_, _, _, _, by rw [HN.out], ?_⟩
    · simp [results, Try.results16, go_sem, k_1091, k_1093, k_1095, k_1097, k_1099]
    · rw [HN.out]
      dsimp only
      refine ⟨?_, ?_, ?_, ?_, ?_, ?_, ?_, ?_, ap01, ap02, ap03, ap12, ap13, ap23, (below_set5 tt_85 (by omega) _ _ _ _ _)⟩
      ·
        exact owns_mono (owns_set5 H0.out hbase _ _ _ _ _) (by omega)
      · first | omega | (simp; omega)
      ·
        exact owns_mono (owns_set5 H1.out hbase _ _ _ _ _) (by omega)
      · first | omega | (simp; omega)
      ·
        exact owns_mono (owns_set5 H2.out hbase _ _ _ _ _) (by omega)
      · first | omega | (simp; omega)
      ·
        exact owns_mono (owns_set5 H3.out hbase _ _ _ _ _) (by omega)
      · first | omega | (simp; omega)
  cases h24 : ((gs.length : Int) == 24)
  case true =>
    have HN := hid (show retireF ⟨⟨bs, ls⟩, ps, gs, n⟩ h = (⟨⟨bs, ls⟩, ps, gs, n⟩, 5) by
      have e24 : gs.length = 24 := by simp at h24; omega
      simp only [retireF, hY, hL, hF, e24]; rfl)
    have k_1086 : w5.cell? ⟨w.heap.size, 0, none⟩ = some (Value.slice a0 bs.length cap0) := bx_8.1.2 0 (by simp)
    have k_1087 : w5.cell? ⟨w.heap.size, 1, none⟩ = some (Value.slice a1 ls.length cap1) := bx_8.1.2 1 (by simp)
    have k_1088 : w5.cell? ⟨w.heap.size, 2, none⟩ = some (Value.slice a2 ps.length cap2) := bx_8.1.2 2 (by simp)
    have k_1089 : w5.cell? ⟨w.heap.size, 3, none⟩ = some (Value.slice a3 gs.length cap3) := bx_8.1.2 3 (by simp)
    have k_1090 : w5.cell? ⟨w.heap.size, 4, none⟩ = some (Value.int .i64 n) := bx_8.1.2 4 (by simp)
    have k_1091 : w5.cell? ⟨X_2.heap.size, 0, none⟩ = some (Value.slice none 0 0) := bx_15.1.2 0 (by simp)
    have k_1092 : w5.frozen? ⟨X_2.heap.size, 0, none⟩ = false := bx_15.2 0 (by simp)
    have k_1093 : w5.cell? ⟨X_2.heap.size, 1, none⟩ = some (Value.slice none 0 0) := bx_15.1.2 1 (by simp)
    have k_1094 : w5.frozen? ⟨X_2.heap.size, 1, none⟩ = false := bx_15.2 1 (by simp)
    have k_1095 : w5.cell? ⟨X_2.heap.size, 2, none⟩ = some (Value.slice none 0 0) := bx_15.1.2 2 (by simp)
    have k_1096 : w5.frozen? ⟨X_2.heap.size, 2, none⟩ = false := bx_15.2 2 (by simp)
    have k_1097 : w5.cell? ⟨X_2.heap.size, 3, none⟩ = some (Value.slice none 0 0) := bx_15.1.2 3 (by simp)
    have k_1098 : w5.frozen? ⟨X_2.heap.size, 3, none⟩ = false := bx_15.2 3 (by simp)
    have k_1099 : w5.cell? ⟨X_2.heap.size, 4, none⟩ = some (Value.int .i64 0) := bx_15.1.2 4 (by simp)
    have k_1100 : w5.frozen? ⟨X_2.heap.size, 4, none⟩ = false := bx_15.2 4 (by simp)
    have k_1101 : w5.cell? ⟨w2.heap.size, 0, none⟩ = some (Value.slice p0 bs.length c0) := bx_34.1.2 0 (by simp)
    have k_1102 : w5.frozen? ⟨w2.heap.size, 0, none⟩ = false := bx_34.2 0 (by simp)
    have k_1103 : w5.cell? ⟨w2.heap.size, 1, none⟩ = some (Value.slice p1 ls.length c1) := bx_34.1.2 1 (by simp)
    have k_1104 : w5.frozen? ⟨w2.heap.size, 1, none⟩ = false := bx_34.2 1 (by simp)
    have k_1105 : w5.cell? ⟨w2.heap.size, 2, none⟩ = some (Value.slice p2 ps.length c2) := bx_34.1.2 2 (by simp)
    have k_1106 : w5.frozen? ⟨w2.heap.size, 2, none⟩ = false := bx_34.2 2 (by simp)
    have k_1107 : w5.cell? ⟨w2.heap.size, 3, none⟩ = some (Value.slice p3 gs.length c3) := bx_34.1.2 3 (by simp)
    have k_1108 : w5.frozen? ⟨w2.heap.size, 3, none⟩ = false := bx_34.2 3 (by simp)
    have k_1109 : w5.cell? ⟨w2.heap.size, 4, none⟩ = some (Value.int .i64 n) := bx_34.1.2 4 (by simp)
    have k_1110 : w5.frozen? ⟨w2.heap.size, 4, none⟩ = false := bx_34.2 4 (by simp)
    have H0 := hid o0
    have H1 := hid o1
    have H2 := hid o2
    have H3 := hid o3
    clear o0 o1 o2 o3
    go_wp2_with (fail)
    refine bodyPost_ret (v := .tuple #[.agg #[Value.slice p0 bs.length c0, Value.slice p1 ls.length c1, Value.slice p2 ps.length c2, Value.slice p3 gs.length c3, Value.int .i64 n], .int .i64 5]) ?_ rfl ⟨_, _, _, _, by rw [HN.out], ?_⟩
    · simp [results, Try.results16, go_sem, k_1091, k_1093, k_1095, k_1097, k_1099]
    · rw [HN.out]
      dsimp only
      refine ⟨?_, ?_, ?_, ?_, ?_, ?_, ?_, ?_, ap01, ap02, ap03, ap12, ap13, ap23, (below_set5 tt_85 (by omega) _ _ _ _ _)⟩
      ·
        exact owns_mono (owns_set5 H0.out hbase _ _ _ _ _) (by omega)
      · first | omega | (simp; omega)
      ·
        exact owns_mono (owns_set5 H1.out hbase _ _ _ _ _) (by omega)
      · first | omega | (simp; omega)
      ·
        exact owns_mono (owns_set5 H2.out hbase _ _ _ _ _) (by omega)
      · first | omega | (simp; omega)
      ·
        exact owns_mono (owns_set5 H3.out hbase _ _ _ _ _) (by omega)
      · first | omega | (simp; omega)
  have HN := hid (show retireF ⟨⟨bs, ls⟩, ps, gs, n⟩ h = (⟨⟨bs, ls⟩, ps, gs ++ [⟨h, n⟩], n⟩, 0) by
    have e24 : ¬ gs.length = 24 := by simp at h24; omega
    simp only [retireF, hY, hL, hF]; rw [if_neg (by simp), if_neg (by simp), if_neg e24])
  obtain ⟨j0, hj, hy0, hy1, hy2⟩ := info_parts infoGone
  have k_86 : w5.cell? ⟨w.heap.size, 0, none⟩ = some (Value.slice a0 bs.length cap0) := bx_8.1.2 0 (by simp)
  have k_87 : w5.cell? ⟨w.heap.size, 1, none⟩ = some (Value.slice a1 ls.length cap1) := bx_8.1.2 1 (by simp)
  have k_88 : w5.cell? ⟨w.heap.size, 2, none⟩ = some (Value.slice a2 ps.length cap2) := bx_8.1.2 2 (by simp)
  have k_89 : w5.cell? ⟨w.heap.size, 3, none⟩ = some (Value.slice a3 gs.length cap3) := bx_8.1.2 3 (by simp)
  have k_90 : w5.cell? ⟨w.heap.size, 4, none⟩ = some (Value.int .i64 n) := bx_8.1.2 4 (by simp)
  have k_91 : w5.cell? ⟨X_2.heap.size, 0, none⟩ = some (Value.slice none 0 0) := bx_15.1.2 0 (by simp)
  have k_92 : w5.frozen? ⟨X_2.heap.size, 0, none⟩ = false := bx_15.2 0 (by simp)
  have k_93 : w5.cell? ⟨X_2.heap.size, 1, none⟩ = some (Value.slice none 0 0) := bx_15.1.2 1 (by simp)
  have k_94 : w5.frozen? ⟨X_2.heap.size, 1, none⟩ = false := bx_15.2 1 (by simp)
  have k_95 : w5.cell? ⟨X_2.heap.size, 2, none⟩ = some (Value.slice none 0 0) := bx_15.1.2 2 (by simp)
  have k_96 : w5.frozen? ⟨X_2.heap.size, 2, none⟩ = false := bx_15.2 2 (by simp)
  have k_97 : w5.cell? ⟨X_2.heap.size, 3, none⟩ = some (Value.slice none 0 0) := bx_15.1.2 3 (by simp)
  have k_98 : w5.frozen? ⟨X_2.heap.size, 3, none⟩ = false := bx_15.2 3 (by simp)
  have k_99 : w5.cell? ⟨X_2.heap.size, 4, none⟩ = some (Value.int .i64 0) := bx_15.1.2 4 (by simp)
  have k_100 : w5.frozen? ⟨X_2.heap.size, 4, none⟩ = false := bx_15.2 4 (by simp)
  have k_101 : w5.cell? ⟨w2.heap.size, 0, none⟩ = some (Value.slice p0 bs.length c0) := bx_34.1.2 0 (by simp)
  have k_102 : w5.frozen? ⟨w2.heap.size, 0, none⟩ = false := bx_34.2 0 (by simp)
  have k_103 : w5.cell? ⟨w2.heap.size, 1, none⟩ = some (Value.slice p1 ls.length c1) := bx_34.1.2 1 (by simp)
  have k_104 : w5.frozen? ⟨w2.heap.size, 1, none⟩ = false := bx_34.2 1 (by simp)
  have k_105 : w5.cell? ⟨w2.heap.size, 2, none⟩ = some (Value.slice p2 ps.length c2) := bx_34.1.2 2 (by simp)
  have k_106 : w5.frozen? ⟨w2.heap.size, 2, none⟩ = false := bx_34.2 2 (by simp)
  have k_107 : w5.cell? ⟨w2.heap.size, 3, none⟩ = some (Value.slice p3 gs.length c3) := bx_34.1.2 3 (by simp)
  have k_108 : w5.frozen? ⟨w2.heap.size, 3, none⟩ = false := bx_34.2 3 (by simp)
  have k_109 : w5.cell? ⟨w2.heap.size, 4, none⟩ = some (Value.int .i64 n) := bx_34.1.2 4 (by simp)
  have k_110 : w5.frozen? ⟨w2.heap.size, 4, none⟩ = false := bx_34.2 4 (by simp)
  obtain ⟨X_111, hX_112⟩ : ∃ X, w5.alloc (.cells #[Value.int .i64 h, Value.int .i64 n] 70) = X := ⟨_, rfl⟩
  have bL : Below w5.heap.size w5 X_111 := by rw [← hX_112]; exact (Below.refl _ _).alloc (Nat.le_refl _) _
  have ol : X_111.ownsRow w5.heap.size 70 2 (.slice (some ⟨w5.heap.size, 0, none⟩) 1 1) 1 [Value.int .i64 h, Value.int .i64 n] := by rw [← hX_112]; exact owns_litN _ _ _ _ _ _ (Nat.le_refl _) rfl (by decide)
  have hsX : w5.heap.size + 1 = X_111.heap.size := by rw [← hX_112]; simp
  have zz_113 := Below.size bL
  have tt_114 : Below w.heap.size w X_111 := Below.trans tt_85 (Below.mono bL (Below.size tt_85))
  replace bx_8 := BoxF.below bx_8 bL
  replace bx_15 := BoxF.below bx_15 bL
  replace bx_34 := BoxF.below bx_34 bL
  replace o0 := owns_below o0 bL
  replace o1 := owns_below o1 bL
  replace o2 := owns_below o2 bL
  replace o3 := owns_below o3 bL
  replace h0 := Flat.below h0 bL
  replace h1 := Flat.below h1 bL
  replace h2 := Flat.below h2 bL
  replace h3 := Flat.below h3 bL
  replace hT := (bL.block _ (by omega)).trans hT
  have k_115 : X_111.cell? ⟨w.heap.size, 0, none⟩ = some (Value.slice a0 bs.length cap0) := bx_8.1.2 0 (by simp)
  have k_116 : X_111.cell? ⟨w.heap.size, 1, none⟩ = some (Value.slice a1 ls.length cap1) := bx_8.1.2 1 (by simp)
  have k_117 : X_111.cell? ⟨w.heap.size, 2, none⟩ = some (Value.slice a2 ps.length cap2) := bx_8.1.2 2 (by simp)
  have k_118 : X_111.cell? ⟨w.heap.size, 3, none⟩ = some (Value.slice a3 gs.length cap3) := bx_8.1.2 3 (by simp)
  have k_119 : X_111.cell? ⟨w.heap.size, 4, none⟩ = some (Value.int .i64 n) := bx_8.1.2 4 (by simp)
  have k_120 : X_111.cell? ⟨X_2.heap.size, 0, none⟩ = some (Value.slice none 0 0) := bx_15.1.2 0 (by simp)
  have k_121 : X_111.frozen? ⟨X_2.heap.size, 0, none⟩ = false := bx_15.2 0 (by simp)
  have k_122 : X_111.cell? ⟨X_2.heap.size, 1, none⟩ = some (Value.slice none 0 0) := bx_15.1.2 1 (by simp)
  have k_123 : X_111.frozen? ⟨X_2.heap.size, 1, none⟩ = false := bx_15.2 1 (by simp)
  have k_124 : X_111.cell? ⟨X_2.heap.size, 2, none⟩ = some (Value.slice none 0 0) := bx_15.1.2 2 (by simp)
  have k_125 : X_111.frozen? ⟨X_2.heap.size, 2, none⟩ = false := bx_15.2 2 (by simp)
  have k_126 : X_111.cell? ⟨X_2.heap.size, 3, none⟩ = some (Value.slice none 0 0) := bx_15.1.2 3 (by simp)
  have k_127 : X_111.frozen? ⟨X_2.heap.size, 3, none⟩ = false := bx_15.2 3 (by simp)
  have k_128 : X_111.cell? ⟨X_2.heap.size, 4, none⟩ = some (Value.int .i64 0) := bx_15.1.2 4 (by simp)
  have k_129 : X_111.frozen? ⟨X_2.heap.size, 4, none⟩ = false := bx_15.2 4 (by simp)
  have k_130 : X_111.cell? ⟨w2.heap.size, 0, none⟩ = some (Value.slice p0 bs.length c0) := bx_34.1.2 0 (by simp)
  have k_131 : X_111.frozen? ⟨w2.heap.size, 0, none⟩ = false := bx_34.2 0 (by simp)
  have k_132 : X_111.cell? ⟨w2.heap.size, 1, none⟩ = some (Value.slice p1 ls.length c1) := bx_34.1.2 1 (by simp)
  have k_133 : X_111.frozen? ⟨w2.heap.size, 1, none⟩ = false := bx_34.2 1 (by simp)
  have k_134 : X_111.cell? ⟨w2.heap.size, 2, none⟩ = some (Value.slice p2 ps.length c2) := bx_34.1.2 2 (by simp)
  have k_135 : X_111.frozen? ⟨w2.heap.size, 2, none⟩ = false := bx_34.2 2 (by simp)
  have k_136 : X_111.cell? ⟨w2.heap.size, 3, none⟩ = some (Value.slice p3 gs.length c3) := bx_34.1.2 3 (by simp)
  have k_137 : X_111.frozen? ⟨w2.heap.size, 3, none⟩ = false := bx_34.2 3 (by simp)
  have k_138 : X_111.cell? ⟨w2.heap.size, 4, none⟩ = some (Value.int .i64 n) := bx_34.1.2 4 (by simp)
  have k_139 : X_111.frozen? ⟨w2.heap.size, 4, none⟩ = false := bx_34.2 4 (by simp)
  go_wp2_with (first | (at_builtin; refine wpList_append_flat rfl _ _ 28 rfl X_9.heap.size 70 j0 (.agg #[.int .i64 0, .int .i64 0]) 2 16 Try.underlying28 hj hy0 hy1 hy2 rfl (by decide) _ gs.length _ rfl o3 _ 1 [Value.int .i64 h, Value.int .i64 n] rfl (Flat.of_owns ol) (by intro c hc; simp at hc; rcases hc with rfl | rfl <;> rfl) (by unfold maxLen; omega) (by omega) (by omega) ?_))
  intro v6 w6 o6 g6
  clear k_86 k_87 k_88 k_89 k_90 k_91 k_92 k_93 k_94 k_95 k_96 k_97 k_98 k_99 k_100 k_101 k_102 k_103 k_104 k_105 k_106 k_107 k_108 k_109 k_110 hX_112 k_115 k_116 k_117 k_118 k_119 k_120 k_121 k_122 k_123 k_124 k_125 k_126 k_127 k_128 k_129 k_130 k_131 k_132 k_133 k_134 k_135 k_136 k_137 k_138 k_139
  have zz_140 := World.grownBy.size g6
  have tt_141 : Below w.heap.size w w6 := Below.trans tt_114 (below_grown g6 (Below.size tt_114) (fun k e => by have := (lt3.out k e).1; omega))
  have hT6 : w6.heap[w2.heap.size]? = some (.cells #[Value.slice p0 bs.length c0, Value.slice p1 ls.length c1, Value.slice p2 ps.length c2, Value.slice p3 gs.length c3, Value.int .i64 n] 30 (0, 0)) := (g6.block _ (by omega) (fun e => by have := (lt3.out _ e.symm).2; omega)).trans hT
  replace o0 := World.ownsRow.kept o0 g6 ap03.1
  replace o1 := World.ownsRow.kept o1 g6 ap13.1
  replace o2 := World.ownsRow.kept o2 g6 ap23.1
  replace bx_8 := BoxF.grown bx_8 g6 (fun e => by have := lt3.out _ e; omega)
  replace bx_15 := BoxF.grown bx_15 g6 (fun e => by have := lt3.out _ e; omega)
  replace bx_34 := BoxF.grown bx_34 g6 (fun e => by have := lt3.out _ e; omega)
  have lt6 := hid (fun k (e : v6.ownBlock = some k) => (⟨(World.ownsRow.lt o6 k e).1, (World.ownsRow.lt o6 k e).2, owns_not o6 hT6 (by decide) k e⟩ : X_9.heap.size ≤ k ∧ k < w6.heap.size ∧ k ≠ w2.heap.size))
  have ap06 := apart_types o0 o6 (by decide)
  have ap16 := apart_types o1 o6 (by decide)
  have ap26 := apart_types o2 o6 (by decide)
  obtain ⟨p6, c6, rfl, hn6, hq6⟩ := owns_form o6
  have k_142 : w6.cell? ⟨w.heap.size, 0, none⟩ = some (Value.slice a0 bs.length cap0) := bx_8.1.2 0 (by simp)
  have k_143 : w6.cell? ⟨w.heap.size, 1, none⟩ = some (Value.slice a1 ls.length cap1) := bx_8.1.2 1 (by simp)
  have k_144 : w6.cell? ⟨w.heap.size, 2, none⟩ = some (Value.slice a2 ps.length cap2) := bx_8.1.2 2 (by simp)
  have k_145 : w6.cell? ⟨w.heap.size, 3, none⟩ = some (Value.slice a3 gs.length cap3) := bx_8.1.2 3 (by simp)
  have k_146 : w6.cell? ⟨w.heap.size, 4, none⟩ = some (Value.int .i64 n) := bx_8.1.2 4 (by simp)
  have k_147 : w6.cell? ⟨X_2.heap.size, 0, none⟩ = some (Value.slice none 0 0) := bx_15.1.2 0 (by simp)
  have k_148 : w6.frozen? ⟨X_2.heap.size, 0, none⟩ = false := bx_15.2 0 (by simp)
  have k_149 : w6.cell? ⟨X_2.heap.size, 1, none⟩ = some (Value.slice none 0 0) := bx_15.1.2 1 (by simp)
  have k_150 : w6.frozen? ⟨X_2.heap.size, 1, none⟩ = false := bx_15.2 1 (by simp)
  have k_151 : w6.cell? ⟨X_2.heap.size, 2, none⟩ = some (Value.slice none 0 0) := bx_15.1.2 2 (by simp)
  have k_152 : w6.frozen? ⟨X_2.heap.size, 2, none⟩ = false := bx_15.2 2 (by simp)
  have k_153 : w6.cell? ⟨X_2.heap.size, 3, none⟩ = some (Value.slice none 0 0) := bx_15.1.2 3 (by simp)
  have k_154 : w6.frozen? ⟨X_2.heap.size, 3, none⟩ = false := bx_15.2 3 (by simp)
  have k_155 : w6.cell? ⟨X_2.heap.size, 4, none⟩ = some (Value.int .i64 0) := bx_15.1.2 4 (by simp)
  have k_156 : w6.frozen? ⟨X_2.heap.size, 4, none⟩ = false := bx_15.2 4 (by simp)
  have k_157 : w6.cell? ⟨w2.heap.size, 0, none⟩ = some (Value.slice p0 bs.length c0) := bx_34.1.2 0 (by simp)
  have k_158 : w6.frozen? ⟨w2.heap.size, 0, none⟩ = false := bx_34.2 0 (by simp)
  have k_159 : w6.cell? ⟨w2.heap.size, 1, none⟩ = some (Value.slice p1 ls.length c1) := bx_34.1.2 1 (by simp)
  have k_160 : w6.frozen? ⟨w2.heap.size, 1, none⟩ = false := bx_34.2 1 (by simp)
  have k_161 : w6.cell? ⟨w2.heap.size, 2, none⟩ = some (Value.slice p2 ps.length c2) := bx_34.1.2 2 (by simp)
  have k_162 : w6.frozen? ⟨w2.heap.size, 2, none⟩ = false := bx_34.2 2 (by simp)
  have k_163 : w6.cell? ⟨w2.heap.size, 3, none⟩ = some (Value.slice p3 gs.length c3) := bx_34.1.2 3 (by simp)
  have k_164 : w6.frozen? ⟨w2.heap.size, 3, none⟩ = false := bx_34.2 3 (by simp)
  have k_165 : w6.cell? ⟨w2.heap.size, 4, none⟩ = some (Value.int .i64 n) := bx_34.1.2 4 (by simp)
  have k_166 : w6.frozen? ⟨w2.heap.size, 4, none⟩ = false := bx_34.2 4 (by simp)
  obtain ⟨X_167, hX_168⟩ : ∃ X, w6.setCell ⟨w2.heap.size, 3, none⟩ (Value.slice p6 (gs.length + 1) c6) = X := ⟨_, rfl⟩
  have gr_169 : w6.grownBy X_167 (some (w2.heap.size)) := by rw [← hX_168]; exact grownBy_setCell _ _ _
  have zz_170 : w6.heap.size ≤ X_167.heap.size := by rw [← hX_168]; simp [World.setCell]
  have tt_171 : Below w.heap.size w X_167 := by rw [← hX_168]; exact Below.setCell tt_141 (by show w.heap.size ≤ w2.heap.size; omega) _
  replace o0 := World.ownsRow.kept o0 gr_169 (apart_blk lt0 (by omega))
  replace o1 := World.ownsRow.kept o1 gr_169 (apart_blk lt1 (by omega))
  replace o2 := World.ownsRow.kept o2 gr_169 (apart_blk lt2 (by omega))
  replace o6 := World.ownsRow.kept o6 gr_169 (apart_ne (fun k e => (lt6.out k e).2.2))
  replace bx_8 : BoxF X_167 w.heap.size [Value.slice a0 bs.length cap0, Value.slice a1 ls.length cap1, Value.slice a2 ps.length cap2, Value.slice a3 gs.length cap3, Value.int .i64 n] := by rw [← hX_168]; exact BoxF.other bx_8 _ _ (by show ¬ w2.heap.size = w.heap.size; omega)
  replace bx_15 : BoxF X_167 X_2.heap.size [Value.slice none 0 0, Value.slice none 0 0, Value.slice none 0 0, Value.slice none 0 0, Value.int .i64 0] := by rw [← hX_168]; exact BoxF.other bx_15 _ _ (by show ¬ w2.heap.size = X_2.heap.size; omega)
  replace bx_34 : BoxF X_167 w2.heap.size [Value.slice p0 bs.length c0, Value.slice p1 ls.length c1, Value.slice p2 ps.length c2, Value.slice p6 (gs.length + 1) c6, Value.int .i64 n] := by rw [← hX_168]; exact BoxF.set bx_34 3 (by simp) _
  have he6 : gs.flatMap Gone.enc ++ [Value.int .i64 h, Value.int .i64 n] = (gs ++ [(⟨h, n⟩ : Gone)]).flatMap Gone.enc := by simp [Gone.enc]
  rw [he6] at o6
  clear he6 hT hT6
  have k_172 : X_167.cell? ⟨w.heap.size, 0, none⟩ = some (Value.slice a0 bs.length cap0) := bx_8.1.2 0 (by simp)
  have k_173 : X_167.cell? ⟨w.heap.size, 1, none⟩ = some (Value.slice a1 ls.length cap1) := bx_8.1.2 1 (by simp)
  have k_174 : X_167.cell? ⟨w.heap.size, 2, none⟩ = some (Value.slice a2 ps.length cap2) := bx_8.1.2 2 (by simp)
  have k_175 : X_167.cell? ⟨w.heap.size, 3, none⟩ = some (Value.slice a3 gs.length cap3) := bx_8.1.2 3 (by simp)
  have k_176 : X_167.cell? ⟨w.heap.size, 4, none⟩ = some (Value.int .i64 n) := bx_8.1.2 4 (by simp)
  have k_177 : X_167.cell? ⟨X_2.heap.size, 0, none⟩ = some (Value.slice none 0 0) := bx_15.1.2 0 (by simp)
  have k_178 : X_167.frozen? ⟨X_2.heap.size, 0, none⟩ = false := bx_15.2 0 (by simp)
  have k_179 : X_167.cell? ⟨X_2.heap.size, 1, none⟩ = some (Value.slice none 0 0) := bx_15.1.2 1 (by simp)
  have k_180 : X_167.frozen? ⟨X_2.heap.size, 1, none⟩ = false := bx_15.2 1 (by simp)
  have k_181 : X_167.cell? ⟨X_2.heap.size, 2, none⟩ = some (Value.slice none 0 0) := bx_15.1.2 2 (by simp)
  have k_182 : X_167.frozen? ⟨X_2.heap.size, 2, none⟩ = false := bx_15.2 2 (by simp)
  have k_183 : X_167.cell? ⟨X_2.heap.size, 3, none⟩ = some (Value.slice none 0 0) := bx_15.1.2 3 (by simp)
  have k_184 : X_167.frozen? ⟨X_2.heap.size, 3, none⟩ = false := bx_15.2 3 (by simp)
  have k_185 : X_167.cell? ⟨X_2.heap.size, 4, none⟩ = some (Value.int .i64 0) := bx_15.1.2 4 (by simp)
  have k_186 : X_167.frozen? ⟨X_2.heap.size, 4, none⟩ = false := bx_15.2 4 (by simp)
  have k_187 : X_167.cell? ⟨w2.heap.size, 0, none⟩ = some (Value.slice p0 bs.length c0) := bx_34.1.2 0 (by simp)
  have k_188 : X_167.frozen? ⟨w2.heap.size, 0, none⟩ = false := bx_34.2 0 (by simp)
  have k_189 : X_167.cell? ⟨w2.heap.size, 1, none⟩ = some (Value.slice p1 ls.length c1) := bx_34.1.2 1 (by simp)
  have k_190 : X_167.frozen? ⟨w2.heap.size, 1, none⟩ = false := bx_34.2 1 (by simp)
  have k_191 : X_167.cell? ⟨w2.heap.size, 2, none⟩ = some (Value.slice p2 ps.length c2) := bx_34.1.2 2 (by simp)
  have k_192 : X_167.frozen? ⟨w2.heap.size, 2, none⟩ = false := bx_34.2 2 (by simp)
  have k_193 : X_167.cell? ⟨w2.heap.size, 3, none⟩ = some (Value.slice p6 (gs.length + 1) c6) := bx_34.1.2 3 (by simp)
  have k_194 : X_167.frozen? ⟨w2.heap.size, 3, none⟩ = false := bx_34.2 3 (by simp)
  have k_195 : X_167.cell? ⟨w2.heap.size, 4, none⟩ = some (Value.int .i64 n) := bx_34.1.2 4 (by simp)
  have k_196 : X_167.frozen? ⟨w2.heap.size, 4, none⟩ = false := bx_34.2 4 (by simp)
  have H0 := hid o0
  have H1 := hid o1
  have H2 := hid o2
  have H3 := hid o6
  clear o0 o1 o2 o6
  go_wp2_with (fail)
  refine bodyPost_ret (v := .tuple #[.agg #[Value.slice p0 bs.length c0, Value.slice p1 ls.length c1, Value.slice p2 ps.length c2, Value.slice p6 (gs.length + 1) c6, Value.int .i64 n], .int .i64 0]) ?_ rfl ⟨_, _, _, _, by rw [HN.out], ?_⟩
  · simp [results, Try.results16, go_sem, k_177, k_179, k_181, k_183, k_185]
  · rw [HN.out]
    dsimp only
    refine ⟨?_, ?_, ?_, ?_, ?_, ?_, ?_, ?_, ap01, ap02, ap06, ap12, ap16, ap26, (below_set5 tt_171 (by omega) _ _ _ _ _)⟩
    ·
      exact owns_mono (owns_set5 H0.out hbase _ _ _ _ _) (by omega)
    · first | omega | (simp; omega)
    ·
      exact owns_mono (owns_set5 H1.out hbase _ _ _ _ _) (by omega)
    · first | omega | (simp; omega)
    ·
      exact owns_mono (owns_set5 H2.out hbase _ _ _ _ _) (by omega)
    · first | omega | (simp; omega)
    ·
      rw [show (gs ++ [(⟨h, n⟩ : Gone)]).length = gs.length + 1 from by simp]
      exact owns_mono (owns_set5 H3.out hbase _ _ _ _ _) (by omega)
    · first | omega | (simp; omega)
end Go.Proofs.Ytdnfphpeleakcaa
