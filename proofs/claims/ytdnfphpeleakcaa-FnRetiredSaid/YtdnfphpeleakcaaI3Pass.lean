/- Chapter 3's program: Pass. -/
import Derived.Test.YtdnfphpeleakcaaY3c
import Derived.Test.YtdnfphpeleakcaaF3e
import Derived.Test.YtdnfphpeleakcaaI2give
import Derived.Test.YtdnfphpeleakcaaI3d
import Derived.Test.YtdnfphpeleakcaaI3m
namespace Go.Proofs.Ytdnfphpeleakcaa
set_option maxRecDepth 100000
open Go.RowKit Go.Proofs Go.Own
open Go
set_option linter.unusedVariables false
set_option linter.unusedSimpArgs false

theorem YardIn.turn {wr : World} {B U : Nat} {vb : Value} {bs : List Block} {vl : Value} {ls : List Int} {vp : Value} {ps : List Int} {vr : Value} {gs : List Gone} {n : Int} {w' : World} {bm m : Nat} {D : DG} (h : YardIn wr B U vb bs vl ls vp ps vr gs n) (g : wr.grownBy w' (some bm)) (hm : wr.ownsMap Try.prog 3 gR bm m D) : YardIn w' B U vb bs vl ls vp ps vr gs n := by
  have hU : ¬ (some bm : Option Nat) = some U := fun e => by
    obtain ⟨arr, ha⟩ := h.ty
    obtain ⟨es, clock, hb, _⟩ := hm
    rw [← Option.some.inj e, hb] at ha
    cases ha
  refine ⟨h.box.grown g hU, ?_, World.ownsRow.kept h.rb g (owns_notMap h.rb hm), World.ownsRow.kept h.rl g (owns_notMap h.rl hm), World.ownsRow.kept h.rp g (owns_notMap h.rp hm), World.ownsRow.kept h.rr g (owns_notMap h.rr hm), h.ap⟩
  obtain ⟨arr, ha⟩ := h.ty
  exact ⟨arr, (g.block _ h.box.1.1 (fun e => hU e.symm)).trans ha⟩

set_option maxRecDepth 100000 in set_option maxHeartbeats 2000000 in
theorem impl_Pass (v0 : Value) (bs : List Block) (v1 : Value) (ls : List Int) (v2 : Value) (ps : List Int) (v3 : Value) (gs : List Gone) (n : Int) (w : World) (h0 : Blocks w v0 bs) (hx0 : bs.length ≤ 1048576) (h1 : Ints w v1 ls) (hx1 : ls.length ≤ 1048576) (h2 : Ints w v2 ps) (hx2 : ps.length ≤ 1048576) (h3 : Gones w v3 gs) (hx3 : gs.length ≤ 1048576) (hgi : GonesIn gs := by assumption) :
    Calls Try.prog 18 #[.agg #[v0, v1, v2, v3, .int .i64 n]] w fun e w' => ∃ u0 u1 u2 u3, e = .returned (.tuple #[.agg #[u0, u1, u2, u3, .int .i64 (passF ⟨⟨bs, ls⟩, ps, gs, n⟩).1.passes], .int .i64 (passF ⟨⟨bs, ls⟩, ps, gs, n⟩).2.1, .int .i64 (passF ⟨⟨bs, ls⟩, ps, gs, n⟩).2.2]) ∧ w'.ownsRow w.heap.size 64 5 u0 (passF ⟨⟨bs, ls⟩, ps, gs, n⟩).1.arena.blocks.length ((passF ⟨⟨bs, ls⟩, ps, gs, n⟩).1.arena.blocks.flatMap Block.enc) ∧ (passF ⟨⟨bs, ls⟩, ps, gs, n⟩).1.arena.blocks.length ≤ 1099511627776 ∧ w'.ownsRow w.heap.size 3 1 u1 (passF ⟨⟨bs, ls⟩, ps, gs, n⟩).1.arena.list.length ((passF ⟨⟨bs, ls⟩, ps, gs, n⟩).1.arena.list.flatMap Go.Own.encI) ∧ (passF ⟨⟨bs, ls⟩, ps, gs, n⟩).1.arena.list.length ≤ 1099511627776 ∧ w'.ownsRow w.heap.size 3 1 u2 (passF ⟨⟨bs, ls⟩, ps, gs, n⟩).1.pins.length ((passF ⟨⟨bs, ls⟩, ps, gs, n⟩).1.pins.flatMap Go.Own.encI) ∧ (passF ⟨⟨bs, ls⟩, ps, gs, n⟩).1.pins.length ≤ 1099511627776 ∧ w'.ownsRow w.heap.size 70 2 u3 (passF ⟨⟨bs, ls⟩, ps, gs, n⟩).1.retired.length ((passF ⟨⟨bs, ls⟩, ps, gs, n⟩).1.retired.flatMap Gone.enc) ∧ (passF ⟨⟨bs, ls⟩, ps, gs, n⟩).1.retired.length ≤ 1099511627776 ∧ ((u0.ownBlock = none ∨ u0.ownBlock ≠ u1.ownBlock) ∧ (u1.ownBlock = none ∨ u1.ownBlock ≠ u0.ownBlock)) ∧ ((u0.ownBlock = none ∨ u0.ownBlock ≠ u2.ownBlock) ∧ (u2.ownBlock = none ∨ u2.ownBlock ≠ u0.ownBlock)) ∧ ((u0.ownBlock = none ∨ u0.ownBlock ≠ u3.ownBlock) ∧ (u3.ownBlock = none ∨ u3.ownBlock ≠ u0.ownBlock)) ∧ ((u1.ownBlock = none ∨ u1.ownBlock ≠ u2.ownBlock) ∧ (u2.ownBlock = none ∨ u2.ownBlock ≠ u1.ownBlock)) ∧ ((u1.ownBlock = none ∨ u1.ownBlock ≠ u3.ownBlock) ∧ (u3.ownBlock = none ∨ u3.ownBlock ≠ u1.ownBlock)) ∧ ((u2.ownBlock = none ∨ u2.ownBlock ≠ u3.ownBlock) ∧ (u3.ownBlock = none ∨ u3.ownBlock ≠ u2.ownBlock)) ∧ Below w.heap.size w w' := by
  have hh0 := h0
  obtain ⟨a0, cap0, rfl, hl0, hm0⟩ := h0.form
  have hh1 := h1
  obtain ⟨a1, cap1, rfl, hl1, hm1⟩ := h1.form
  have hh2 := h2
  obtain ⟨a2, cap2, rfl, hl2, hm2⟩ := h2.form
  have hh3 := h3
  obtain ⟨a3, cap3, rfl, hl3, hm3⟩ := h3.form
  have tt_1 : Below w.heap.size w w := Below.refl _ _
  obtain ⟨X_2, hX_3⟩ : ∃ X, w.alloc (.cells #[Value.slice a0 bs.length cap0, Value.slice a1 ls.length cap1, Value.slice a2 ps.length cap2, Value.slice a3 gs.length cap3, Value.int .i64 n] 30) = X := ⟨_, rfl⟩
  have bX_4 : Below w.heap.size w X_2 := by rw [← hX_3]; exact (Below.refl _ _).alloc (Nat.le_refl _) _
  have zs_5 : w.heap.size + 1 ≤ X_2.heap.size := by rw [← hX_3]; simp
  have zz_6 := Below.size bX_4
  have tt_7 : Below w.heap.size w X_2 := Below.trans tt_1 (Below.mono bX_4 (Below.size tt_1))
  replace h0 := Flat.below h0 bX_4
  replace h1 := Flat.below h1 bX_4
  replace h2 := Flat.below h2 bX_4
  replace h3 := Flat.below h3 bX_4
  have bx_8 : BoxF X_2 w.heap.size [Value.slice a0 bs.length cap0, Value.slice a1 ls.length cap1, Value.slice a2 ps.length cap2, Value.slice a3 gs.length cap3, Value.int .i64 n] := by rw [← hX_3]; exact BoxF.alloc _ _ _
  obtain ⟨X_9, hX_10⟩ : ∃ X, X_2.alloc (.cells #[Value.slice none 0 0, Value.slice none 0 0, Value.slice none 0 0, Value.slice none 0 0, Value.int .i64 0] 30) = X := ⟨_, rfl⟩
  have bX_11 : Below X_2.heap.size X_2 X_9 := by rw [← hX_10]; exact (Below.refl _ _).alloc (Nat.le_refl _) _
  have zs_12 : X_2.heap.size + 1 ≤ X_9.heap.size := by rw [← hX_10]; simp
  have zz_13 := Below.size bX_11
  have tt_14 : Below w.heap.size w X_9 := Below.trans tt_7 (Below.mono bX_11 (Below.size tt_7))
  replace bx_8 := BoxF.below bx_8 bX_11
  replace h0 := Flat.below h0 bX_11
  replace h1 := Flat.below h1 bX_11
  replace h2 := Flat.below h2 bX_11
  replace h3 := Flat.below h3 bX_11
  have bx_15 : BoxF X_9 X_2.heap.size [Value.slice none 0 0, Value.slice none 0 0, Value.slice none 0 0, Value.slice none 0 0, Value.int .i64 0] := by rw [← hX_10]; exact BoxF.alloc _ _ _
  have k_16 : X_9.cell? ⟨w.heap.size, 0, none⟩ = some (Value.slice a0 bs.length cap0) := bx_8.1.2 0 (by simp)
  have k_17 : X_9.cell? ⟨w.heap.size, 1, none⟩ = some (Value.slice a1 ls.length cap1) := bx_8.1.2 1 (by simp)
  have k_18 : X_9.cell? ⟨w.heap.size, 2, none⟩ = some (Value.slice a2 ps.length cap2) := bx_8.1.2 2 (by simp)
  have k_19 : X_9.cell? ⟨w.heap.size, 3, none⟩ = some (Value.slice a3 gs.length cap3) := bx_8.1.2 3 (by simp)
  have k_20 : X_9.cell? ⟨w.heap.size, 4, none⟩ = some (Value.int .i64 n) := bx_8.1.2 4 (by simp)
  have k_21 : X_9.cell? ⟨X_2.heap.size, 0, none⟩ = some (Value.slice none 0 0) := bx_15.1.2 0 (by simp)
  have k_22 : X_9.cell? ⟨X_2.heap.size, 1, none⟩ = some (Value.slice none 0 0) := bx_15.1.2 1 (by simp)
  have k_23 : X_9.cell? ⟨X_2.heap.size, 2, none⟩ = some (Value.slice none 0 0) := bx_15.1.2 2 (by simp)
  have k_24 : X_9.cell? ⟨X_2.heap.size, 3, none⟩ = some (Value.slice none 0 0) := bx_15.1.2 3 (by simp)
  have k_25 : X_9.cell? ⟨X_2.heap.size, 4, none⟩ = some (Value.int .i64 0) := bx_15.1.2 4 (by simp)
  go_enter Try.func18, Try.ntmps18
  go_wp2_with fail
  clear hX_3 hX_10 k_16 k_17 k_18 k_19 k_20 k_21 k_22 k_23 k_24 k_25
  refine (impl_copyYard _ bs _ ls _ ps _ gs n _ h0 hx0 h1 hx1 h2 hx2 h3 hx3).mono ?_
  rintro e w2 ⟨u0, u1, u2, u3, rfl, o0, o1, o2, o3, ap01, ap02, ap03, ap12, ap13, ap23, b2⟩
  have lt0 := hid (World.ownsRow.lt o0)
  obtain ⟨p0, c0, rfl, hn0, hq0⟩ := owns_form o0
  have lt1 := hid (World.ownsRow.lt o1)
  obtain ⟨p1, c1, rfl, hn1, hq1⟩ := owns_form o1
  have lt2 := hid (World.ownsRow.lt o2)
  obtain ⟨p2, c2, rfl, hn2, hq2⟩ := owns_form o2
  have lt3 := hid (World.ownsRow.lt o3)
  obtain ⟨p3, c3, rfl, hn3, hq3⟩ := owns_form o3
  have zz_26 := Below.size b2
  have tt_27 : Below w.heap.size w w2 := Below.trans tt_14 (Below.mono b2 (Below.size tt_14))
  replace bx_8 := BoxF.below bx_8 b2
  replace bx_15 := BoxF.below bx_15 b2
  replace h0 := Flat.below h0 b2
  replace h1 := Flat.below h1 b2
  replace h2 := Flat.below h2 b2
  replace h3 := Flat.below h3 b2
  obtain ⟨X_28, hX_29⟩ : ∃ X, w2.alloc (.cells #[Value.slice p0 bs.length c0, Value.slice p1 ls.length c1, Value.slice p2 ps.length c2, Value.slice p3 gs.length c3, Value.int .i64 n] 30) = X := ⟨_, rfl⟩
  have bX_30 : Below w2.heap.size w2 X_28 := by rw [← hX_29]; exact (Below.refl _ _).alloc (Nat.le_refl _) _
  have zs_31 : w2.heap.size + 1 ≤ X_28.heap.size := by rw [← hX_29]; simp
  have zz_32 := Below.size bX_30
  have tt_33 : Below w.heap.size w X_28 := Below.trans tt_27 (Below.mono bX_30 (Below.size tt_27))
  replace bx_8 := BoxF.below bx_8 bX_30
  replace bx_15 := BoxF.below bx_15 bX_30
  replace o0 := owns_below o0 bX_30
  replace o1 := owns_below o1 bX_30
  replace o2 := owns_below o2 bX_30
  replace o3 := owns_below o3 bX_30
  replace h0 := Flat.below h0 bX_30
  replace h1 := Flat.below h1 bX_30
  replace h2 := Flat.below h2 bX_30
  replace h3 := Flat.below h3 bX_30
  have bx_34 : BoxF X_28 w2.heap.size [Value.slice p0 bs.length c0, Value.slice p1 ls.length c1, Value.slice p2 ps.length c2, Value.slice p3 gs.length c3, Value.int .i64 n] := by rw [← hX_29]; exact BoxF.alloc _ _ _
  have hOUT := hX_29
  have hbase : X_2.heap.size < X_9.heap.size := by omega
  have k_35 : X_28.cell? ⟨w.heap.size, 0, none⟩ = some (Value.slice a0 bs.length cap0) := bx_8.1.2 0 (by simp)
  have k_36 : X_28.cell? ⟨w.heap.size, 1, none⟩ = some (Value.slice a1 ls.length cap1) := bx_8.1.2 1 (by simp)
  have k_37 : X_28.cell? ⟨w.heap.size, 2, none⟩ = some (Value.slice a2 ps.length cap2) := bx_8.1.2 2 (by simp)
  have k_38 : X_28.cell? ⟨w.heap.size, 3, none⟩ = some (Value.slice a3 gs.length cap3) := bx_8.1.2 3 (by simp)
  have k_39 : X_28.cell? ⟨w.heap.size, 4, none⟩ = some (Value.int .i64 n) := bx_8.1.2 4 (by simp)
  have k_40 : X_28.cell? ⟨X_2.heap.size, 0, none⟩ = some (Value.slice none 0 0) := bx_15.1.2 0 (by simp)
  have k_41 : X_28.cell? ⟨X_2.heap.size, 1, none⟩ = some (Value.slice none 0 0) := bx_15.1.2 1 (by simp)
  have k_42 : X_28.cell? ⟨X_2.heap.size, 2, none⟩ = some (Value.slice none 0 0) := bx_15.1.2 2 (by simp)
  have k_43 : X_28.cell? ⟨X_2.heap.size, 3, none⟩ = some (Value.slice none 0 0) := bx_15.1.2 3 (by simp)
  have k_44 : X_28.cell? ⟨X_2.heap.size, 4, none⟩ = some (Value.int .i64 0) := bx_15.1.2 4 (by simp)
  have k_45 : X_28.cell? ⟨w2.heap.size, 0, none⟩ = some (Value.slice p0 bs.length c0) := bx_34.1.2 0 (by simp)
  have k_46 : X_28.cell? ⟨w2.heap.size, 1, none⟩ = some (Value.slice p1 ls.length c1) := bx_34.1.2 1 (by simp)
  have k_47 : X_28.cell? ⟨w2.heap.size, 2, none⟩ = some (Value.slice p2 ps.length c2) := bx_34.1.2 2 (by simp)
  have k_48 : X_28.cell? ⟨w2.heap.size, 3, none⟩ = some (Value.slice p3 gs.length c3) := bx_34.1.2 3 (by simp)
  have k_49 : X_28.cell? ⟨w2.heap.size, 4, none⟩ = some (Value.int .i64 n) := bx_34.1.2 4 (by simp)
  go_wp2_with fail
  clear hX_29 k_35 k_36 k_37 k_38 k_39 k_40 k_41 k_42 k_43 k_44 k_45 k_46 k_47 k_48 k_49
  have hT : X_28.heap[w2.heap.size]? = some (.cells #[Value.slice p0 bs.length c0, Value.slice p1 ls.length c1, Value.slice p2 ps.length c2, Value.slice p3 gs.length c3, Value.int .i64 n] 30 (0, 0)) := by rw [← hOUT]; exact heap_alloc_new _ _
  clear hOUT
  refine (impl_YardOk0 _ bs _ ls _ ps _ gs n _ (Flat.of_owns o0) (Flat.of_owns o1) (Flat.of_owns o2) (Flat.of_owns o3) hgi).mono ?_
  rintro e w3 ⟨rfl, b3⟩
  have zz_50 := Below.size b3
  have tt_51 : Below w.heap.size w w3 := Below.trans tt_33 (Below.mono b3 (Below.size tt_33))
  replace bx_8 := BoxF.below bx_8 b3
  replace bx_15 := BoxF.below bx_15 b3
  replace bx_34 := BoxF.below bx_34 b3
  replace o0 := owns_below o0 b3
  replace o1 := owns_below o1 b3
  replace o2 := owns_below o2 b3
  replace o3 := owns_below o3 b3
  replace h0 := Flat.below h0 b3
  replace h1 := Flat.below h1 b3
  replace h2 := Flat.below h2 b3
  replace h3 := Flat.below h3 b3
  replace hT := (b3.block _ (by omega)).trans hT
  cases hY : yardOk ⟨⟨bs, ls⟩, ps, gs, n⟩
  case false =>
    have HN := hid (show passF ⟨⟨bs, ls⟩, ps, gs, n⟩ = (⟨⟨bs, ls⟩, ps, gs, n⟩, 0, 1) by simp [passF, hY])
    have k_1052 : w3.cell? ⟨w.heap.size, 0, none⟩ = some (Value.slice a0 bs.length cap0) := bx_8.1.2 0 (by simp)
    have k_1053 : w3.cell? ⟨w.heap.size, 1, none⟩ = some (Value.slice a1 ls.length cap1) := bx_8.1.2 1 (by simp)
    have k_1054 : w3.cell? ⟨w.heap.size, 2, none⟩ = some (Value.slice a2 ps.length cap2) := bx_8.1.2 2 (by simp)
    have k_1055 : w3.cell? ⟨w.heap.size, 3, none⟩ = some (Value.slice a3 gs.length cap3) := bx_8.1.2 3 (by simp)
    have k_1056 : w3.cell? ⟨w.heap.size, 4, none⟩ = some (Value.int .i64 n) := bx_8.1.2 4 (by simp)
    have k_1057 : w3.cell? ⟨X_2.heap.size, 0, none⟩ = some (Value.slice none 0 0) := bx_15.1.2 0 (by simp)
    have k_1058 : w3.frozen? ⟨X_2.heap.size, 0, none⟩ = false := bx_15.2 0 (by simp)
    have k_1059 : w3.cell? ⟨X_2.heap.size, 1, none⟩ = some (Value.slice none 0 0) := bx_15.1.2 1 (by simp)
    have k_1060 : w3.frozen? ⟨X_2.heap.size, 1, none⟩ = false := bx_15.2 1 (by simp)
    have k_1061 : w3.cell? ⟨X_2.heap.size, 2, none⟩ = some (Value.slice none 0 0) := bx_15.1.2 2 (by simp)
    have k_1062 : w3.frozen? ⟨X_2.heap.size, 2, none⟩ = false := bx_15.2 2 (by simp)
    have k_1063 : w3.cell? ⟨X_2.heap.size, 3, none⟩ = some (Value.slice none 0 0) := bx_15.1.2 3 (by simp)
    have k_1064 : w3.frozen? ⟨X_2.heap.size, 3, none⟩ = false := bx_15.2 3 (by simp)
    have k_1065 : w3.cell? ⟨X_2.heap.size, 4, none⟩ = some (Value.int .i64 0) := bx_15.1.2 4 (by simp)
    have k_1066 : w3.frozen? ⟨X_2.heap.size, 4, none⟩ = false := bx_15.2 4 (by simp)
    have k_1067 : w3.cell? ⟨w2.heap.size, 0, none⟩ = some (Value.slice p0 bs.length c0) := bx_34.1.2 0 (by simp)
    have k_1068 : w3.frozen? ⟨w2.heap.size, 0, none⟩ = false := bx_34.2 0 (by simp)
    have k_1069 : w3.cell? ⟨w2.heap.size, 1, none⟩ = some (Value.slice p1 ls.length c1) := bx_34.1.2 1 (by simp)
    have k_1070 : w3.frozen? ⟨w2.heap.size, 1, none⟩ = false := bx_34.2 1 (by simp)
    have k_1071 : w3.cell? ⟨w2.heap.size, 2, none⟩ = some (Value.slice p2 ps.length c2) := bx_34.1.2 2 (by simp)
    have k_1072 : w3.frozen? ⟨w2.heap.size, 2, none⟩ = false := bx_34.2 2 (by simp)
    have k_1073 : w3.cell? ⟨w2.heap.size, 3, none⟩ = some (Value.slice p3 gs.length c3) := bx_34.1.2 3 (by simp)
    have k_1074 : w3.frozen? ⟨w2.heap.size, 3, none⟩ = false := bx_34.2 3 (by simp)
    have k_1075 : w3.cell? ⟨w2.heap.size, 4, none⟩ = some (Value.int .i64 n) := bx_34.1.2 4 (by simp)
    have k_1076 : w3.frozen? ⟨w2.heap.size, 4, none⟩ = false := bx_34.2 4 (by simp)
    have H0 := hid o0
    have H1 := hid o1
    have H2 := hid o2
    have H3 := hid o3
    clear o0 o1 o2 o3
    go_wp2_with (fail)
    refine bodyPost_ret (v := .tuple #[.agg #[Value.slice p0 bs.length c0, Value.slice p1 ls.length c1, Value.slice p2 ps.length c2, Value.slice p3 gs.length c3, Value.int .i64 n], .int .i64 0, .int .i64 1]) ?_ rfl ⟨_, _, _, _, by rw [HN.out], ?_⟩
    · simp [results, Try.results18, go_sem, k_1057, k_1059, k_1061, k_1063, k_1065]
    · rw [HN.out]
      dsimp only
      refine ⟨?_, ?_, ?_, ?_, ?_, ?_, ?_, ?_, ap01, ap02, ap03, ap12, ap13, ap23, (below_set5 tt_51 (by omega) _ _ _ _ _)⟩
      ·
        exact owns_mono (owns_set5 H0.out hbase _ _ _ _ _) (by omega)
      · first | omega | (simp; omega)
      ·
        exact owns_mono (owns_set5 H1.out hbase _ _ _ _ _) (by omega)
      · first | omega | (simp; omega)
      ·
        exact owns_mono (owns_set5 H2.out hbase _ _ _ _ _) (by omega)
      · first | omega | (simp; omega)
      ·
        exact owns_mono (owns_set5 H3.out hbase _ _ _ _ _) (by omega)
      · first | omega | (simp; omega)
  cases hM : (n == 1000000)
  case true =>
    have HN := hid (show passF ⟨⟨bs, ls⟩, ps, gs, n⟩ = (⟨⟨bs, ls⟩, ps, gs, n⟩, 0, 1) by simp at hM; simp [passF, hM])
    have k_1052 : w3.cell? ⟨w.heap.size, 0, none⟩ = some (Value.slice a0 bs.length cap0) := bx_8.1.2 0 (by simp)
    have k_1053 : w3.cell? ⟨w.heap.size, 1, none⟩ = some (Value.slice a1 ls.length cap1) := bx_8.1.2 1 (by simp)
    have k_1054 : w3.cell? ⟨w.heap.size, 2, none⟩ = some (Value.slice a2 ps.length cap2) := bx_8.1.2 2 (by simp)
    have k_1055 : w3.cell? ⟨w.heap.size, 3, none⟩ = some (Value.slice a3 gs.length cap3) := bx_8.1.2 3 (by simp)
    have k_1056 : w3.cell? ⟨w.heap.size, 4, none⟩ = some (Value.int .i64 n) := bx_8.1.2 4 (by simp)
    have k_1057 : w3.cell? ⟨X_2.heap.size, 0, none⟩ = some (Value.slice none 0 0) := bx_15.1.2 0 (by simp)
    have k_1058 : w3.frozen? ⟨X_2.heap.size, 0, none⟩ = false := bx_15.2 0 (by simp)
    have k_1059 : w3.cell? ⟨X_2.heap.size, 1, none⟩ = some (Value.slice none 0 0) := bx_15.1.2 1 (by simp)
    have k_1060 : w3.frozen? ⟨X_2.heap.size, 1, none⟩ = false := bx_15.2 1 (by simp)
    have k_1061 : w3.cell? ⟨X_2.heap.size, 2, none⟩ = some (Value.slice none 0 0) := bx_15.1.2 2 (by simp)
    have k_1062 : w3.frozen? ⟨X_2.heap.size, 2, none⟩ = false := bx_15.2 2 (by simp)
    have k_1063 : w3.cell? ⟨X_2.heap.size, 3, none⟩ = some (Value.slice none 0 0) := bx_15.1.2 3 (by simp)
    have k_1064 : w3.frozen? ⟨X_2.heap.size, 3, none⟩ = false := bx_15.2 3 (by simp)
    have k_1065 : w3.cell? ⟨X_2.heap.size, 4, none⟩ = some (Value.int .i64 0) := bx_15.1.2 4 (by simp)
    have k_1066 : w3.frozen? ⟨X_2.heap.size, 4, none⟩ = false := bx_15.2 4 (by simp)
    have k_1067 : w3.cell? ⟨w2.heap.size, 0, none⟩ = some (Value.slice p0 bs.length c0) := bx_34.1.2 0 (by simp)
    have k_1068 : w3.frozen? ⟨w2.heap.size, 0, none⟩ = false := bx_34.2 0 (by simp)
    have k_1069 : w3.cell? ⟨w2.heap.size, 1, none⟩ = some (Value.slice p1 ls.length c1) := bx_34.1.2 1 (by simp)
    have k_1070 : w3.frozen? ⟨w2.heap.size, 1, none⟩ = false := bx_34.2 1 (by simp)
    have k_1071 : w3.cell? ⟨w2.heap.size, 2, none⟩ = some (Value.slice p2 ps.length c2) := bx_34.1.2 2 (by simp)
    have k_1072 : w3.frozen? ⟨w2.heap.size, 2, none⟩ = false := bx_34.2 2 (by simp)
    have k_1073 : w3.cell? ⟨w2.heap.size, 3, none⟩ = some (Value.slice p3 gs.length c3) := bx_34.1.2 3 (by simp)
    have k_1074 : w3.frozen? ⟨w2.heap.size, 3, none⟩ = false := bx_34.2 3 (by simp)
    have k_1075 : w3.cell? ⟨w2.heap.size, 4, none⟩ = some (Value.int .i64 n) := bx_34.1.2 4 (by simp)
    have k_1076 : w3.frozen? ⟨w2.heap.size, 4, none⟩ = false := bx_34.2 4 (by simp)
    have H0 := hid o0
    have H1 := hid o1
    have H2 := hid o2
    have H3 := hid o3
    clear o0 o1 o2 o3
    go_wp2_with (fail)
    refine bodyPost_ret (v := .tuple #[.agg #[Value.slice p0 bs.length c0, Value.slice p1 ls.length c1, Value.slice p2 ps.length c2, Value.slice p3 gs.length c3, Value.int .i64 n], .int .i64 0, .int .i64 1]) ?_ rfl ⟨_, _, _, _, by rw [HN.out], ?_⟩
    · simp [results, Try.results18, go_sem, k_1057, k_1059, k_1061, k_1063, k_1065]
    · rw [HN.out]
      dsimp only
      refine ⟨?_, ?_, ?_, ?_, ?_, ?_, ?_, ?_, ap01, ap02, ap03, ap12, ap13, ap23, (below_set5 tt_51 (by omega) _ _ _ _ _)⟩
      ·
        exact owns_mono (owns_set5 H0.out hbase _ _ _ _ _) (by omega)
      · first | omega | (simp; omega)
      ·
        exact owns_mono (owns_set5 H1.out hbase _ _ _ _ _) (by omega)
      · first | omega | (simp; omega)
      ·
        exact owns_mono (owns_set5 H2.out hbase _ _ _ _ _) (by omega)
      · first | omega | (simp; omega)
      ·
        exact owns_mono (owns_set5 H3.out hbase _ _ _ _ _) (by omega)
      · first | omega | (simp; omega)
  have HN := hid (show passF ⟨⟨bs, ls⟩, ps, gs, n⟩ = (⟨(passAt ⟨⟨bs, ls⟩, ps, gs, n⟩ gs.length).1, ps, (passAt ⟨⟨bs, ls⟩, ps, gs, n⟩ gs.length).2.1, n + 1⟩, (passAt ⟨⟨bs, ls⟩, ps, gs, n⟩ gs.length).2.2, 0) by
    have hn : ¬ n = 1000000 := by simpa using hM
    simp [passF, hY, hn])
  obtain ⟨yb24, yl24, yp6, yg24, yn0, yn1⟩ := yardOk_parts hY
  have hn : ¬ n = 1000000 := by simpa using hM
  have hge := hid (fun x (hx : x ∈ ps) => (show -1 ≤ x by obtain ⟨q, hq, rfl⟩ := List.getElem_of_mem hx; exact (pins_ge hY q hq _ rfl).1))
  have hpl := hid (fun K (hK : K < gs.length) g (hg : gs[K] = g) => gone_pass_le hY K hK g hg)
  have hgi' := hid hgi
  obtain ⟨Le, hLe⟩ : ∃ m, Hid (leastF ps = m) := ⟨_, hid rfl⟩
  have Y0 : YardIn w3 X_9.heap.size w2.heap.size (Value.slice p0 bs.length c0) bs (Value.slice p1 ls.length c1) ls (Value.slice p2 ps.length c2) ps (Value.slice p3 gs.length c3) gs n := ⟨bx_34, ⟨_, hT⟩, o0, o1, o2, o3, ap12⟩
  have HS := hid (show w.heap.size < X_2.heap.size ∧ X_2.heap.size < X_9.heap.size ∧ X_9.heap.size ≤ w2.heap.size ∧ w2.heap.size < w3.heap.size from ⟨by omega, by omega, by omega, by omega⟩)
  have k_52 : w3.cell? ⟨w.heap.size, 0, none⟩ = some (Value.slice a0 bs.length cap0) := bx_8.1.2 0 (by simp)
  have k_53 : w3.cell? ⟨w.heap.size, 1, none⟩ = some (Value.slice a1 ls.length cap1) := bx_8.1.2 1 (by simp)
  have k_54 : w3.cell? ⟨w.heap.size, 2, none⟩ = some (Value.slice a2 ps.length cap2) := bx_8.1.2 2 (by simp)
  have k_55 : w3.cell? ⟨w.heap.size, 3, none⟩ = some (Value.slice a3 gs.length cap3) := bx_8.1.2 3 (by simp)
  have k_56 : w3.cell? ⟨w.heap.size, 4, none⟩ = some (Value.int .i64 n) := bx_8.1.2 4 (by simp)
  have k_57 : w3.cell? ⟨X_2.heap.size, 0, none⟩ = some (Value.slice none 0 0) := bx_15.1.2 0 (by simp)
  have k_58 : w3.frozen? ⟨X_2.heap.size, 0, none⟩ = false := bx_15.2 0 (by simp)
  have k_59 : w3.cell? ⟨X_2.heap.size, 1, none⟩ = some (Value.slice none 0 0) := bx_15.1.2 1 (by simp)
  have k_60 : w3.frozen? ⟨X_2.heap.size, 1, none⟩ = false := bx_15.2 1 (by simp)
  have k_61 : w3.cell? ⟨X_2.heap.size, 2, none⟩ = some (Value.slice none 0 0) := bx_15.1.2 2 (by simp)
  have k_62 : w3.frozen? ⟨X_2.heap.size, 2, none⟩ = false := bx_15.2 2 (by simp)
  have k_63 : w3.cell? ⟨X_2.heap.size, 3, none⟩ = some (Value.slice none 0 0) := bx_15.1.2 3 (by simp)
  have k_64 : w3.frozen? ⟨X_2.heap.size, 3, none⟩ = false := bx_15.2 3 (by simp)
  have k_65 : w3.cell? ⟨X_2.heap.size, 4, none⟩ = some (Value.int .i64 0) := bx_15.1.2 4 (by simp)
  have k_66 : w3.frozen? ⟨X_2.heap.size, 4, none⟩ = false := bx_15.2 4 (by simp)
  have k_67 : w3.cell? ⟨w2.heap.size, 0, none⟩ = some (Value.slice p0 bs.length c0) := bx_34.1.2 0 (by simp)
  have k_68 : w3.frozen? ⟨w2.heap.size, 0, none⟩ = false := bx_34.2 0 (by simp)
  have k_69 : w3.cell? ⟨w2.heap.size, 1, none⟩ = some (Value.slice p1 ls.length c1) := bx_34.1.2 1 (by simp)
  have k_70 : w3.frozen? ⟨w2.heap.size, 1, none⟩ = false := bx_34.2 1 (by simp)
  have k_71 : w3.cell? ⟨w2.heap.size, 2, none⟩ = some (Value.slice p2 ps.length c2) := bx_34.1.2 2 (by simp)
  have k_72 : w3.frozen? ⟨w2.heap.size, 2, none⟩ = false := bx_34.2 2 (by simp)
  have k_73 : w3.cell? ⟨w2.heap.size, 3, none⟩ = some (Value.slice p3 gs.length c3) := bx_34.1.2 3 (by simp)
  have k_74 : w3.frozen? ⟨w2.heap.size, 3, none⟩ = false := bx_34.2 3 (by simp)
  have k_75 : w3.cell? ⟨w2.heap.size, 4, none⟩ = some (Value.int .i64 n) := bx_34.1.2 4 (by simp)
  have k_76 : w3.frozen? ⟨w2.heap.size, 4, none⟩ = false := bx_34.2 4 (by simp)
  have ARG : Box w3 w.heap.size [Value.slice a0 bs.length cap0, Value.slice a1 ls.length cap1, Value.slice a2 ps.length cap2, Value.slice a3 gs.length cap3, Value.int .i64 n] := bx_8.1
  have RES := bx_15
  have TOT := tt_51
  go_wp2_with fail
  refine (impl_byPlace _ gs _ (Flat.of_owns o3) yg24).mono ?_
  rintro e w4 ⟨bm, D0, rfl, mo, hbm, hK0, b4⟩
  clear k_52 k_53 k_54 k_55 k_56 k_57 k_58 k_59 k_60 k_61 k_62 k_63 k_64 k_65 k_66 k_67 k_68 k_69 k_70 k_71 k_72 k_73 k_74 k_75 k_76
  have Y4 := Y0.grow b4
  replace ARG := ARG.below b4
  replace RES := RES.below b4
  replace TOT := TOT.trans (b4.mono TOT.size)
  have hz4 := b4.size
  have HX := hid (show w3.heap.size ≤ bm ∧ w3.heap.size ≤ w4.heap.size from ⟨hbm, hz4⟩)
  have KP0 := hid (hK0.congr (fun i _ => (keepS_zero gs Le i).symm))
  clear Y0 o0 o1 o2 o3 hK0 b4 hT
  have uc0 := Y4.box.1.2 0 (by simp); have uc1 := Y4.box.1.2 1 (by simp); have uc2 := Y4.box.1.2 2 (by simp); have uc3 := Y4.box.1.2 3 (by simp); have uc4 := Y4.box.1.2 4 (by simp)
  have uf0 := Y4.box.2 0 (by simp); have uf1 := Y4.box.2 1 (by simp); have uf2 := Y4.box.2 2 (by simp); have uf3 := Y4.box.2 3 (by simp); have uf4 := Y4.box.2 4 (by simp)
  simp only [List.getElem?_cons_zero, List.getElem?_cons_succ] at uc0 uc1 uc2 uc3 uc4
  have ac0 := ARG.2 0 (by simp); have ac1 := ARG.2 1 (by simp); have ac2 := ARG.2 2 (by simp); have ac3 := ARG.2 3 (by simp); have ac4 := ARG.2 4 (by simp)
  simp only [List.getElem?_cons_zero, List.getElem?_cons_succ] at ac0 ac1 ac2 ac3 ac4
  go_wp2
  clear uc0 uc1 uc2 uc3 uc4 uf0 uf1 uf2 uf3 uf4 ac0 ac1 ac2 ac3 ac4
  go_loopw [27] (fun i wr => ∃ (K : Nat) (vb vl : Value) (D : DG), K ≤ gs.length ∧ i = .int .i64 K ∧ YardIn wr X_9.heap.size w2.heap.size vb (passAt ⟨⟨bs, ls⟩, ps, gs, n⟩ K).1.blocks vl (passAt ⟨⟨bs, ls⟩, ps, gs, n⟩ K).1.list (Value.slice p2 ps.length c2) ps (Value.slice p3 gs.length c3) gs n ∧ wr.ownsMap Try.prog 3 gR bm gs.length D ∧ Hid (Kept D gs (keepS gs Le K) gs.length) ∧ Box wr w.heap.size [Value.slice a0 bs.length cap0, Value.slice a1 ls.length cap1, Value.slice a2 ps.length cap2, Value.slice a3 gs.length cap3, Value.int .i64 n] ∧ BoxF wr X_2.heap.size [.slice none 0 0, .slice none 0 0, .slice none 0 0, .slice none 0 0, .int .i64 0] ∧ Below w.heap.size w wr ∧ w3.heap.size ≤ wr.heap.size) (fun i _ => gs.length - (intOf i).toNat)
  case atStart => exact ⟨0, _, _, _, by omega, rfl, Y4, mo, KP0, ARG, RES, TOT, HX.out.2⟩
  case round =>
    clear Y4 mo ARG RES TOT
    obtain ⟨K, vb, vl, D, hK, rfl, Yr, mo, HK, ARG, RES, TOT, hsz⟩ := hrel
    have hlen := pass_lens ⟨⟨bs, ls⟩, ps, gs, n⟩ K hK
    obtain ⟨PA, hPA⟩ : ∃ p, Hid (passAt ⟨⟨bs, ls⟩, ps, gs, n⟩ K = p) := ⟨_, hid rfl⟩
    rw [hPA.out] at hlen Yr
    obtain ⟨⟨AB, AL⟩, KL, M⟩ := PA
    dsimp only at hlen Yr
    obtain ⟨hl1, hl2, hl3, hm0, hm1⟩ := hlen
    have hsh := Yr.rb; obtain ⟨pb, mb, cb, rfl⟩ := owns_form3 hsh
    have hsh2 := Yr.rl; obtain ⟨pl, ml, cl, rfl⟩ := owns_form3 hsh2
    clear hsh hsh2
    by_cases hlt : K < gs.length
    · obtain ⟨⟨h, p⟩, ho⟩ : ∃ o, Hid (gs[K] = o) := ⟨_, hid rfl⟩
      have hst := hid (passAt_succ ⟨⟨bs, ls⟩, ps, gs, n⟩ K hlt ⟨h, p⟩ ho.out)
      rw [hPA.out, show (⟨⟨bs, ls⟩, ps, gs, n⟩ : Yard).pins = ps from rfl, hLe.out] at hst
      have hp6 := hpl.out K hlt _ ho.out
      dsimp only at hp6
      have hin : InI h := by have := hgi'.out gs[K] (List.getElem_mem hlt); rw [ho.out] at this; exact this
      have hwl := watch_least ps p hp6 hge.out
      rw [hLe.out] at hwl
      have hwr := (watchN_le ps p ps.length).1
      obtain ⟨c, hc⟩ : ∃ c, Hid (watchN ps p ps.length = c) := ⟨_, hid rfl⟩
      rw [hc.out] at hwl hwr
      obtain ⟨bb, off, ha3, hbs, c0', c1'⟩ := Gones.at (show Gones wr (Value.slice p3 gs.length c3) gs from Flat.of_owns Yr.rr) K hlt _ ho
      subst ha3
      dsimp only at c0' c1'
      obtain ⟨V, hV⟩ : ∃ X, (wr.alloc (.cells #[.int .i64 h, .int .i64 p] 70)) = X := ⟨_, rfl⟩
      have hBV : Below wr.heap.size wr V := by rw [← hV]; exact (Below.refl _ _).alloc (Nat.le_refl _) _
      have hNV : wr.heap.size + 1 = V.heap.size := by rw [← hV]; simp
      have g0 : V.cell? ⟨wr.heap.size, 0, none⟩ = some (.int .i64 h) := by rw [← hV]; simp [go_sem]
      have g1 : V.cell? ⟨wr.heap.size, 1, none⟩ = some (.int .i64 p) := by rw [← hV]; simp [go_sem]
      have YV := Yr.grow hBV
      have uc0 := YV.box.1.2 0 (by simp); have uc1 := YV.box.1.2 1 (by simp); have uc2 := YV.box.1.2 2 (by simp); have uc3 := YV.box.1.2 3 (by simp); have uc4 := YV.box.1.2 4 (by simp)
      simp only [List.getElem?_cons_zero, List.getElem?_cons_succ] at uc0 uc1 uc2 uc3 uc4
      go_wp2_with fail
      refine (impl_watchers _ ps p _ (Flat.of_owns YV.rp) (by omega)).mono ?_
      rintro e w5 ⟨rfl, b5⟩
      rw [hc.out]
      clear uc0 uc1 uc2 uc3 uc4
      have g0' : w5.cell? ⟨wr.heap.size, 0, none⟩ = some (.int .i64 h) := (b5.cell (p := ⟨wr.heap.size, 0, none⟩) (by show wr.heap.size < V.heap.size; omega)).trans g0
      replace b5 := hBV.trans (b5.mono hBV.size)
      have Y5 := Yr.grow b5
      have mo5 := mo.kept (World.grownBy_of_belowS b5 none) (by simp)
      have A5 := ARG.below b5
      have R5 := RES.below b5
      have T5 : Below w.heap.size w w5 := TOT.trans (b5.mono TOT.size)
      have hz5 := b5.size
      clear hV g0 g1 Yr mo ARG RES TOT YV
      have uc0 := Y5.box.1.2 0 (by simp); have uc1 := Y5.box.1.2 1 (by simp); have uc2 := Y5.box.1.2 2 (by simp); have uc3 := Y5.box.1.2 3 (by simp); have uc4 := Y5.box.1.2 4 (by simp)
      have uf0 := Y5.box.2 0 (by simp); have uf1 := Y5.box.2 1 (by simp); have uf2 := Y5.box.2 2 (by simp); have uf3 := Y5.box.2 3 (by simp); have uf4 := Y5.box.2 4 (by simp)
      simp only [List.getElem?_cons_zero, List.getElem?_cons_succ] at uc0 uc1 uc2 uc3 uc4
      have ac0 := A5.2 0 (by simp); have ac1 := A5.2 1 (by simp); have ac2 := A5.2 2 (by simp); have ac3 := A5.2 3 (by simp); have ac4 := A5.2 4 (by simp)
      simp only [List.getElem?_cons_zero, List.getElem?_cons_succ] at ac0 ac1 ac2 ac3 ac4
      cases hp : decide (p < Le)
      case false =>
        have hp' : ¬ p < Le := by simpa using hp
        have hc0 : (c == 0) = false := by simp; omega
        rw [show passStep Le (⟨AB, AL⟩, KL, M) ⟨h, p⟩ = (⟨AB, AL⟩, KL ++ [⟨h, p⟩], M) by simp only [passStep]; rw [if_neg hp']] at hst
        have HK' := hid (HK.out.congr (fun i _ => keepS_keep gs Le K hlt ⟨h, p⟩ ho.out hp' i))
        have S0 := hid Y5; have S1 := hid A5; have S2 := hid R5; have S3 := hid T5; have S4 := hid mo5
        clear Y5 A5 R5 T5 mo5 hwl hwr hp'
        go_wp2
        go_roundw
        case rel => exact ⟨K+1, _, _, _, by omega, by go_num, by rw [hst.out]; exact S0.out, S4.out, HK', S1.out, S2.out, S3.out, by omega⟩
        case measure => simp [intOf]; omega
      case true =>
        have hp' : p < Le := by simpa using hp
        have hc0 : c = 0 := by omega
        subst hc0
        rw [show passStep Le (⟨AB, AL⟩, KL, M) ⟨h, p⟩ = ((giveF ⟨AB, AL⟩ h).1, KL, M + 1) by simp only [passStep]; rw [if_pos hp']] at hst
        have HK' := hid ((HK.out.del (tidyI mo5) K).congr (fun i _ => keepS_del gs Le K hlt ⟨h, p⟩ ho.out hp' i))
        clear hwl hwr hp'
        go_wp2_with fail
        refine (impl_Give _ AB _ AL h _ (Flat.of_owns Y5.rb) (by omega) (Flat.of_owns Y5.rl) (by omega)).mono ?_
        rintro e w6 ⟨v0, v1, rfl, r0, lb0, r1, lb1, apf, b6⟩
        clear uc0 uc1 uc2 uc3 uc4 uf0 uf1 uf2 uf3 uf4 ac0 ac1 ac2 ac3 ac4
        have hB : X_9.heap.size ≤ w5.heap.size := by have := HS.out; omega
        have Y6 := Y5.grow b6
        have mo6 := mo5.kept (World.grownBy_of_belowS b6 none) (by simp)
        have ap6 := apart Y5.rp (Nat.le_refl _) r1
        obtain ⟨q0, n0, d0, rfl⟩ := owns_form3 r0
        obtain ⟨q1, n1, d1, rfl⟩ := owns_form3 r1
        obtain ⟨Z, hZ⟩ : ∃ X, (w6.setCell ⟨w2.heap.size, 0, none⟩ (.slice q0 n0 d0)).setCell ⟨w2.heap.size, 1, none⟩ (.slice q1 n1 d1) = X := ⟨_, rfl⟩
        have YZ := Y6.arena (owns_mono r0 hB) (owns_mono r1 hB) ⟨ap6.2, ap6.1⟩
        rw [hZ] at YZ
        have AZ : Box Z w.heap.size [Value.slice a0 bs.length cap0, Value.slice a1 ls.length cap1, Value.slice a2 ps.length cap2, Value.slice a3 gs.length cap3, Value.int .i64 n] := by rw [← hZ]; exact ((A5.below b6).other ⟨w2.heap.size, 0, none⟩ (.slice q0 n0 d0) (by show w2.heap.size ≠ w.heap.size; have := HS.out; omega)).other ⟨w2.heap.size, 1, none⟩ (.slice q1 n1 d1) (by show w2.heap.size ≠ w.heap.size; have := HS.out; omega)
        have RZ : BoxF Z X_2.heap.size [.slice none 0 0, .slice none 0 0, .slice none 0 0, .slice none 0 0, .int .i64 0] := by rw [← hZ]; exact ((R5.below b6).other ⟨w2.heap.size, 0, none⟩ (.slice q0 n0 d0) (by show w2.heap.size ≠ X_2.heap.size; have := HS.out; omega)).other ⟨w2.heap.size, 1, none⟩ (.slice q1 n1 d1) (by show w2.heap.size ≠ X_2.heap.size; have := HS.out; omega)
        have TZ : Below w.heap.size w Z := by rw [← hZ]; exact ((T5.trans (b6.mono T5.size)).setCell (p := ⟨w2.heap.size, 0, none⟩) (by show w.heap.size ≤ w2.heap.size; have := HS.out; omega) (.slice q0 n0 d0)).setCell (p := ⟨w2.heap.size, 1, none⟩) (by show w.heap.size ≤ w2.heap.size; have := HS.out; omega) (.slice q1 n1 d1)
        have hU : bm ≠ w2.heap.size := by have := HX.out; have := HS.out; omega
        have mZ : Z.ownsMap Try.prog 3 gR bm gs.length D := by rw [← hZ]; exact (mo6.setCell (a := ⟨w2.heap.size, 0, none⟩) hU _).setCell (a := ⟨w2.heap.size, 1, none⟩) hU _
        have hzZ : w3.heap.size ≤ Z.heap.size := by have := b6.size; rw [← hZ]; simp [World.setCell]; omega
        have hkey := keyI K (by omega)
        have uc0 := Y6.box.1.2 0 (by simp); have uc1 := Y6.box.1.2 1 (by simp); have uc2 := Y6.box.1.2 2 (by simp); have uc3 := Y6.box.1.2 3 (by simp); have uc4 := Y6.box.1.2 4 (by simp)
        have uf0 := Y6.box.2 0 (by simp); have uf1 := Y6.box.2 1 (by simp); have uf2 := Y6.box.2 2 (by simp); have uf3 := Y6.box.2 3 (by simp); have uf4 := Y6.box.2 4 (by simp)
        simp only [List.getElem?_cons_zero, List.getElem?_cons_succ] at uc0 uc1 uc2 uc3 uc4
        clear Y5 A5 R5 T5 mo5 Y6 mo6 b6 r0 r1
        go_wp2_with (first
          | (at_delete; refine wpList_delete_own _ rfl _ _ 72 3 rfl 70 keyedI Try.underlying72 gR bm gs.length _ rfl mZ _ (kI K) rfl hkey ?_; intro w7 hown7 ht7))
        have hg7 := ht7.grown
        have S0 := hid (YZ.turn hg7 mZ)
        have S1 := hid (AZ.grown hg7 (fun e => by have := HX.out; have := HS.out; have := Option.some.inj e; omega))
        have S2 := hid (RZ.grown hg7 (fun e => by have := HX.out; have := HS.out; have := Option.some.inj e; omega))
        have S3 := hid (TZ.trans (below_grown hg7 (by have := TZ.size; omega) (fun j e => by have := HX.out; have := HS.out; have := Option.some.inj e; omega)))
        have S4 := hid hown7
        have S5 := hid (show w3.heap.size ≤ w7.heap.size by have := hg7.size; omega)
        clear YZ AZ RZ TZ mZ hZ hown7 ht7 hg7 uc0 uc1 uc2 uc3 uc4 uf0 uf1 uf2 uf3 uf4
        go_wp2
        go_roundw
        case rel => exact ⟨K+1, _, _, _, by omega, by go_num, by rw [hst.out]; exact S0.out, S4.out, HK', S1.out, S2.out, S3.out, S5.out⟩
        case measure => simp [intOf]; omega
    · obtain rfl : K = gs.length := by omega
      have hlen := mo.len (t := 72) (e := 70) Try.underlying72
      have hks := kept_size HK.out
      have hpk := hid (pass_kept ⟨⟨bs, ls⟩, ps, gs, n⟩)
      rw [show (⟨⟨bs, ls⟩, ps, gs, n⟩ : Yard).retired = gs from rfl, show (⟨⟨bs, ls⟩, ps, gs, n⟩ : Yard).pins = ps from rfl, hLe.out, hPA.out] at hpk
      obtain ⟨KG, hKG⟩ : ∃ l, Hid (keptGs gs (keepS gs Le gs.length) gs.length = l) := ⟨_, hid rfl⟩
      rw [hKG.out] at hks hpk
      have hkl : KL = KG := hpk.out.1
      have hml : M = (gs.length : Int) - KG.length := hpk.out.2
      rw [hks] at hlen
      have hkl24 : KG.length ≤ gs.length := by omega
      have hw0 : IntKind.i64.wrap ((gs.length : Int) - KG.length) = (gs.length : Int) - KG.length := by rw [IntKind.wrap_i64]; omega
      have hw : IntKind.i64.wrap (n + 1) = n + 1 := by rw [IntKind.wrap_i64]; omega
      have uc0 := Yr.box.1.2 0 (by simp); have uc1 := Yr.box.1.2 1 (by simp); have uc2 := Yr.box.1.2 2 (by simp); have uc3 := Yr.box.1.2 3 (by simp); have uc4 := Yr.box.1.2 4 (by simp)
      have uf0 := Yr.box.2 0 (by simp); have uf1 := Yr.box.2 1 (by simp); have uf2 := Yr.box.2 2 (by simp); have uf3 := Yr.box.2 3 (by simp); have uf4 := Yr.box.2 4 (by simp)
      simp only [List.getElem?_cons_zero, List.getElem?_cons_succ] at uc0 uc1 uc2 uc3 uc4
      go_wp2_with fail
      refine (impl_inOrder bm gs.length D gs _ _ mo yg24 HK.out).mono ?_
      rintro e w5 ⟨ur, rfl, rr5, b5⟩
      rw [hKG.out] at rr5
      clear uc0 uc1 uc2 uc3 uc4 uf0 uf1 uf2 uf3 uf4 hlen
      obtain ⟨p5, c5, rfl, hn5, hq5⟩ := owns_form rr5
      have hB : X_9.heap.size ≤ wr.heap.size := by have := HS.out; omega
      have Y5 := Yr.grow b5
      have A5 := ARG.below b5
      obtain ⟨X, hX⟩ : ∃ X, w5.setCell ⟨w2.heap.size, 3, none⟩ (.slice p5 KG.length c5) = X := ⟨_, rfl⟩
      have YX := Y5.retired (owns_mono rr5 hB)
      rw [hX] at YX
      obtain ⟨Z, hZ⟩ : ∃ Y, X.setCell ⟨w2.heap.size, 4, none⟩ (.int .i64 (n + 1)) = Y := ⟨_, rfl⟩
      have YZ := YX.passes (n + 1)
      rw [hZ] at YZ
      have RSZ : BoxF Z X_2.heap.size [.slice none 0 0, .slice none 0 0, .slice none 0 0, .slice none 0 0, .int .i64 0] := by rw [← hZ, ← hX]; exact ((RES.below b5).other _ _ (by show w2.heap.size ≠ X_2.heap.size; have := HS.out; omega)).other _ _ (by show w2.heap.size ≠ X_2.heap.size; have := HS.out; omega)
      have TTZ : Below w.heap.size w Z := by rw [← hZ, ← hX]; exact ((TOT.trans (b5.mono TOT.size)).setCell (by show w.heap.size ≤ w2.heap.size; have := HS.out; omega) _).setCell (by show w.heap.size ≤ w2.heap.size; have := HS.out; omega) _
      have uc0 := Y5.box.1.2 0 (by simp); have uc1 := Y5.box.1.2 1 (by simp); have uc2 := Y5.box.1.2 2 (by simp); have uc3 := Y5.box.1.2 3 (by simp); have uc4 := Y5.box.1.2 4 (by simp)
      have uf0 := Y5.box.2 0 (by simp); have uf1 := Y5.box.2 1 (by simp); have uf2 := Y5.box.2 2 (by simp); have uf3 := Y5.box.2 3 (by simp); have uf4 := Y5.box.2 4 (by simp)
      simp only [List.getElem?_cons_zero, List.getElem?_cons_succ] at uc0 uc1 uc2 uc3 uc4
      have xc0 := YX.box.1.2 0 (by simp); have xc1 := YX.box.1.2 1 (by simp); have xc2 := YX.box.1.2 2 (by simp); have xc3 := YX.box.1.2 3 (by simp); have xc4 := YX.box.1.2 4 (by simp)
      have xf0 := YX.box.2 0 (by simp); have xf1 := YX.box.2 1 (by simp); have xf2 := YX.box.2 2 (by simp); have xf3 := YX.box.2 3 (by simp); have xf4 := YX.box.2 4 (by simp)
      simp only [List.getElem?_cons_zero, List.getElem?_cons_succ] at xc0 xc1 xc2 xc3 xc4
      have yc0 := YZ.box.1.2 0 (by simp); have yc1 := YZ.box.1.2 1 (by simp); have yc2 := YZ.box.1.2 2 (by simp); have yc3 := YZ.box.1.2 3 (by simp); have yc4 := YZ.box.1.2 4 (by simp)
      have yf0 := YZ.box.2 0 (by simp); have yf1 := YZ.box.2 1 (by simp); have yf2 := YZ.box.2 2 (by simp); have yf3 := YZ.box.2 3 (by simp); have yf4 := YZ.box.2 4 (by simp)
      simp only [List.getElem?_cons_zero, List.getElem?_cons_succ] at yc0 yc1 yc2 yc3 yc4
      have rc0 := RSZ.1.2 0 (by simp); have rc1 := RSZ.1.2 1 (by simp); have rc2 := RSZ.1.2 2 (by simp); have rc3 := RSZ.1.2 3 (by simp); have rc4 := RSZ.1.2 4 (by simp)
      have rf0 := RSZ.2 0 (by simp); have rf1 := RSZ.2 1 (by simp); have rf2 := RSZ.2 2 (by simp); have rf3 := RSZ.2 3 (by simp); have rf4 := RSZ.2 4 (by simp)
      simp only [List.getElem?_cons_zero, List.getElem?_cons_succ] at rc0 rc1 rc2 rc3 rc4
      have HB := hid YZ.rb; have HL := hid YZ.rl; have HP := hid YZ.rp; have HR := hid YZ.rr
      have HA := hid YZ.ap
      have HT := hid TTZ
      have hPA' := hid hPA.out
      clear YZ YX Y5 RSZ TTZ Yr ARG RES TOT hPA A5 mo
      subst hkl hml
      go_wp2
      refine bodyPost_ret (v := .tuple #[.agg #[.slice pb mb cb, .slice pl ml cl, .slice p2 ps.length c2, .slice p5 KL.length c5, .int .i64 (n + 1)], .int .i64 ((gs.length : Int) - KL.length), .int .i64 0]) ?_ rfl ⟨_, _, _, _, by rw [HN.out, hPA'.out], ?_⟩
      · simp [results, Try.results18, go_sem, rc0, rc1, rc2, rc3, rc4]
      · rw [HN.out, hPA'.out]
        dsimp only
        have hbase2 : X_2.heap.size < X_9.heap.size := by have := HS.out; omega
        have ab := apart_types HB.out HL.out (by decide)
        have ac := apart_types HB.out HP.out (by decide)
        have ad := apart_types HB.out HR.out (by decide)
        have bd := apart_types HL.out HR.out (by decide)
        have cd := apart_types HP.out HR.out (by decide)
        refine ⟨owns_mono (owns_set5 HB.out hbase2 _ _ _ _ _) (by have := HS.out; omega), by omega, owns_mono (owns_set5 HL.out hbase2 _ _ _ _ _) (by have := HS.out; omega), by omega, owns_mono (owns_set5 HP.out hbase2 _ _ _ _ _) (by have := HS.out; omega), by omega, owns_mono (owns_set5 HR.out hbase2 _ _ _ _ _) (by have := HS.out; omega), by omega, ab, ac, ad, HA.out, bd, cd, below_set5 HT.out (by have := HS.out; omega) _ _ _ _ _⟩
end Go.Proofs.Ytdnfphpeleakcaa
