/- Chapter 1's exact laws, walked. -/
import Derived.Test.YtfhkngmankmehaaS1
import Derived.Test.YtfhkngmankmehaaI1b
namespace Go.Proofs.Ytfhkngmankmehaa
open Go.RowKit Go.Proofs Go.Own

theorem law_MemoryOk (v_aM : Value) (x_aM : List Int) (w : World) (h_aM : Ints w v_aM x_aM) :
    Calls Try.prog 3 #[v_aM] w fun e w' => e = .returned (.bool true) ∧ Below w.heap.size w w' := by
  obtain ⟨ad_aM, cap_aM, hv_aM, hl_aM, hm_aM⟩ := Flat.form h_aM
  by_cases big_aM : 1048576 < x_aM.length
  · subst hv_aM
    clear h_aM
    go_enter Try.func3, Try.ntmps3
    go_wp2
    go_ret
    exact ⟨rfl, (by repeat (first | exact Below.refl _ _ | refine Below.alloc ?_ (by simp; try omega) _))⟩
  have hx_aM : x_aM.length ≤ 1048576 := by omega
  have Hv_aM := hid hv_aM; clear hv_aM
  rw [Hv_aM.out] at h_aM ⊢
  have hB0 : Below w.heap.size w w := Below.refl _ _
  go_enter Try.func3, Try.ntmps3
  go_wp2_with fail
  refine (toIntS_c _ x_aM _ hx_aM (FlatB.flat (FlatB.below h_aM (Below.refl _ _ : Below w.heap.size w w)) (Below.refl _ _ : Below w.heap.size w w).size)).mono ?_
  rintro e w2 ⟨v1, rfl, o3, b4⟩
  have t5 := Below.trans (Below.refl _ _ : Below w.heap.size w w) (Below.mono b4 (Below.refl _ _ : Below w.heap.size w w).size)
  go_wp2_with fail
  refine (spec_MemoryOk _ x_aM _ (Flat.of_owns o3) hx_aM).mono ?_
  rintro e w6 ⟨rfl, b7⟩
  have t8 := Below.trans t5 (Below.mono b7 t5.size)
  have s9 : Below w6.heap.size w6 w6 := Below.refl _ _
  go_wp2_with fail
  refine (toIntS_c _ x_aM _ hx_aM (FlatB.flat (FlatB.below h_aM t8) t8.size)).mono ?_
  rintro e w11 ⟨v10, rfl, o12, b13⟩
  have t14 := Below.trans t8 (Below.mono b13 t8.size)
  have s15 := Below.trans s9 (Below.mono b13 s9.size)
  have tb16 := Below.size t8
  have hb17 := Below.size s9
  go_wp2_with fail
  refine (impl_MemoryOk _ x_aM _ (Flat.of_owns o12) hx_aM).mono ?_
  have p18 := o12
  rintro e w19 ⟨rfl, b20⟩
  have t21 := Below.trans t14 (Below.mono b20 t14.size)
  have s22 := Below.trans s15 (Below.mono b20 s15.size)
  replace o12 := owns_below o12 b20
  go_wp2_with fail
  refine (toIntS_c _ x_aM _ hx_aM (FlatB.flat (FlatB.below h_aM t21) t21.size)).mono ?_
  rintro e w24 ⟨v23, rfl, o25, b26⟩
  have t27 := Below.trans t21 (Below.mono b26 t21.size)
  have s28 := Below.trans s22 (Below.mono b26 s22.size)
  replace o12 := owns_below o12 b26
  go_wp2_with fail
  refine (eqIntS_c _ _ _ _ (Flat.of_owns o12) (Flat.of_owns o25)).mono ?_
  rintro e w29 ⟨rfl, b30⟩
  have t31 := Below.trans t27 (Below.mono b30 t27.size)
  have s32 := Below.trans s28 (Below.mono b30 s28.size)
  replace o12 := owns_below o12 b30
  go_wp2_with fail
  try go_wp2
  go_ret
  exact ⟨rfl, hB0.trans (Below.mono t31 hB0.size)⟩

theorem law_Word (v_aM : Value) (x_aM : List Int) (o_aOp : WordOp) (w : World) (h_aM : Ints w v_aM x_aM) :
    Calls Try.prog 4 #[v_aM, o_aOp.val] w fun e w' => e = .returned (.bool true) ∧ Below w.heap.size w w' := by
  obtain ⟨ad_aM, cap_aM, hv_aM, hl_aM, hm_aM⟩ := Flat.form h_aM
  by_cases big_aM : 1048576 < x_aM.length
  · subst hv_aM
    clear h_aM
    unfold WordOp.val
    go_enter Try.func4, Try.ntmps4
    go_wp2
    go_ret
    exact ⟨rfl, (by repeat (first | exact Below.refl _ _ | refine Below.alloc ?_ (by simp; try omega) _))⟩
  have hx_aM : x_aM.length ≤ 1048576 := by omega
  have Hv_aM := hid hv_aM; clear hv_aM
  rw [Hv_aM.out] at h_aM ⊢
  obtain ⟨W1, hW1⟩ : ∃ X, w.alloc (.cells #[Value.int .i64 o_aOp.kind_, Value.int .i64 o_aOp.at_, Value.int .i64 o_aOp.old_, Value.int .i64 o_aOp.new_] 27) = X := ⟨_, rfl⟩
  have hbx1 : Below w.heap.size w W1 := by rw [← hW1]; exact (Below.refl _ _).alloc (Nat.le_refl _) _
  have hN1 : w.heap.size + 1 = W1.heap.size := by rw [← hW1]; simp
  have c1_0 : W1.cell? ⟨w.heap.size, 0, none⟩ = some (.int .i64 o_aOp.kind_) := by rw [← hW1]; simp
  have c1_1 : W1.cell? ⟨w.heap.size, 1, none⟩ = some (.int .i64 o_aOp.at_) := by rw [← hW1]; simp
  have c1_2 : W1.cell? ⟨w.heap.size, 2, none⟩ = some (.int .i64 o_aOp.old_) := by rw [← hW1]; simp
  have c1_3 : W1.cell? ⟨w.heap.size, 3, none⟩ = some (.int .i64 o_aOp.new_) := by rw [← hW1]; simp
  have hB0 : Below w.heap.size w W1 := hbx1
  have h_aM := Flat.below h_aM hB0
  have HW1 := hid hW1
  unfold WordOp.val
  go_enter Try.func4, Try.ntmps4
  go_wp2_with fail
  clear hW1
  go_region_held3 (fun w' => Below W1.heap.size W1 w' ∧ W1.heap.size ≤ w'.heap.size ∧ w'.cell? ⟨w.heap.size, 0, none⟩ = some (.int .i64 o_aOp.kind_) ∧ w'.cell? ⟨w.heap.size, 1, none⟩ = some (.int .i64 o_aOp.at_) ∧ w'.cell? ⟨w.heap.size, 2, none⟩ = some (.int .i64 o_aOp.old_) ∧ w'.cell? ⟨w.heap.size, 3, none⟩ = some (.int .i64 o_aOp.new_))
    (first | exact ⟨(Below.refl _ _).drew, Nat.le_refl _, c1_0, c1_1, c1_2, c1_3⟩ | exact keepBox4 (by omega) ‹_› ‹_›)
    (first
    | (go_at_call 10; refine (toIntS_c _ x_aM _ hx_aM (Flat.below h_aM (by first | exact (Below.refl _ _).drew | exact And.left ‹_›))).mono ?_; rintro e w2 ⟨v1, rfl, o3, b4⟩)
    | (go_at_call 14; refine (toWordOp_c o_aOp _).mono ?_; rintro e w5 ⟨rfl, b6⟩)
    | (go_at_call 13; refine (spec_Word _ x_aM o_aOp _ (Flat.below (Flat.of_owns o3) b6) hx_aM).mono ?_; rintro e w7 ⟨v9, rfl, o10, b8⟩))
  have d12 : Below W1.heap.size W1 W1.drew := (Below.refl _ _).drew
  have t13 := Below.trans (Below.refl _ _ : Below W1.heap.size W1 W1) (Below.mono d12 (Below.refl _ _ : Below W1.heap.size W1 W1).size)
  have t14 := Below.trans t13 (Below.mono b4 t13.size)
  have t15 := Below.trans t14 (Below.mono b6 t14.size)
  have t16 := Below.trans t15 (Below.mono b8 t15.size)
  have s17 : Below w7.heap.size w7 w7 := Below.refl _ _
  have lb18 := Below.size t16
  have k19 : w7.cell? ⟨w.heap.size, 0, none⟩ = some (.int .i64 o_aOp.kind_) := by rw [Below.cell (p := ⟨w.heap.size, 0, none⟩) t16 (by show w.heap.size < _; omega)]; exact c1_0
  have k20 : w7.cell? ⟨w.heap.size, 1, none⟩ = some (.int .i64 o_aOp.at_) := by rw [Below.cell (p := ⟨w.heap.size, 1, none⟩) t16 (by show w.heap.size < _; omega)]; exact c1_1
  have k21 : w7.cell? ⟨w.heap.size, 2, none⟩ = some (.int .i64 o_aOp.old_) := by rw [Below.cell (p := ⟨w.heap.size, 2, none⟩) t16 (by show w.heap.size < _; omega)]; exact c1_2
  have k22 : w7.cell? ⟨w.heap.size, 3, none⟩ = some (.int .i64 o_aOp.new_) := by rw [Below.cell (p := ⟨w.heap.size, 3, none⟩) t16 (by show w.heap.size < _; omega)]; exact c1_3
  go_wp2_with fail
  clear lb18 k19 k20 k21 k22
  refine (toIntS_c _ x_aM _ hx_aM (FlatB.flat (FlatB.below h_aM t16) t16.size)).mono ?_
  rintro e w24 ⟨v23, rfl, o25, b26⟩
  have t27 := Below.trans t16 (Below.mono b26 t16.size)
  have s28 := Below.trans s17 (Below.mono b26 s17.size)
  have tb29 := Below.size t16
  have hb30 := Below.size s17
  have lb31 := Below.size t27
  have k32 : w24.cell? ⟨w.heap.size, 0, none⟩ = some (.int .i64 o_aOp.kind_) := by rw [Below.cell (p := ⟨w.heap.size, 0, none⟩) t27 (by show w.heap.size < _; omega)]; exact c1_0
  have k33 : w24.cell? ⟨w.heap.size, 1, none⟩ = some (.int .i64 o_aOp.at_) := by rw [Below.cell (p := ⟨w.heap.size, 1, none⟩) t27 (by show w.heap.size < _; omega)]; exact c1_1
  have k34 : w24.cell? ⟨w.heap.size, 2, none⟩ = some (.int .i64 o_aOp.old_) := by rw [Below.cell (p := ⟨w.heap.size, 2, none⟩) t27 (by show w.heap.size < _; omega)]; exact c1_2
  have k35 : w24.cell? ⟨w.heap.size, 3, none⟩ = some (.int .i64 o_aOp.new_) := by rw [Below.cell (p := ⟨w.heap.size, 3, none⟩) t27 (by show w.heap.size < _; omega)]; exact c1_3
  go_wp2_with fail
  clear lb31 k32 k33 k34 k35
  refine (toWordOp_c o_aOp _).mono ?_
  rintro e w36 ⟨rfl, b37⟩
  have t38 := Below.trans t27 (Below.mono b37 t27.size)
  have s39 := Below.trans s28 (Below.mono b37 s28.size)
  replace o25 := owns_below o25 b37
  have lb40 := Below.size t38
  have k41 : w36.cell? ⟨w.heap.size, 0, none⟩ = some (.int .i64 o_aOp.kind_) := by rw [Below.cell (p := ⟨w.heap.size, 0, none⟩) t38 (by show w.heap.size < _; omega)]; exact c1_0
  have k42 : w36.cell? ⟨w.heap.size, 1, none⟩ = some (.int .i64 o_aOp.at_) := by rw [Below.cell (p := ⟨w.heap.size, 1, none⟩) t38 (by show w.heap.size < _; omega)]; exact c1_1
  have k43 : w36.cell? ⟨w.heap.size, 2, none⟩ = some (.int .i64 o_aOp.old_) := by rw [Below.cell (p := ⟨w.heap.size, 2, none⟩) t38 (by show w.heap.size < _; omega)]; exact c1_2
  have k44 : w36.cell? ⟨w.heap.size, 3, none⟩ = some (.int .i64 o_aOp.new_) := by rw [Below.cell (p := ⟨w.heap.size, 3, none⟩) t38 (by show w.heap.size < _; omega)]; exact c1_3
  go_wp2_with fail
  clear lb40 k41 k42 k43 k44
  refine (impl_Word _ x_aM o_aOp _ (Flat.of_owns o25) hx_aM).mono ?_
  have p45 := o25
  rintro e w46 ⟨v48, rfl, o49, l50, b47⟩
  have ap51 := apart p45 (Nat.le_refl _) o49
  have tb52 := Below.size t38
  have hb53 := Below.size s39
  have t54 := Below.trans t38 (Below.mono b47 t38.size)
  have s55 := Below.trans s39 (Below.mono b47 s39.size)
  replace o25 := owns_below o25 b47
  have lb56 := Below.size t54
  have k57 : w46.cell? ⟨w.heap.size, 0, none⟩ = some (.int .i64 o_aOp.kind_) := by rw [Below.cell (p := ⟨w.heap.size, 0, none⟩) t54 (by show w.heap.size < _; omega)]; exact c1_0
  have k58 : w46.cell? ⟨w.heap.size, 1, none⟩ = some (.int .i64 o_aOp.at_) := by rw [Below.cell (p := ⟨w.heap.size, 1, none⟩) t54 (by show w.heap.size < _; omega)]; exact c1_1
  have k59 : w46.cell? ⟨w.heap.size, 2, none⟩ = some (.int .i64 o_aOp.old_) := by rw [Below.cell (p := ⟨w.heap.size, 2, none⟩) t54 (by show w.heap.size < _; omega)]; exact c1_2
  have k60 : w46.cell? ⟨w.heap.size, 3, none⟩ = some (.int .i64 o_aOp.new_) := by rw [Below.cell (p := ⟨w.heap.size, 3, none⟩) t54 (by show w.heap.size < _; omega)]; exact c1_3
  go_wp2_with fail
  clear lb56 k57 k58 k59 k60
  refine (eqIntS_c _ _ _ _ (Flat.of_owns o49) (FlatB.flat (FlatB.below o10 s55) s55.size)).mono ?_
  rintro e w61 ⟨rfl, b62⟩
  have t63 := Below.trans t54 (Below.mono b62 t54.size)
  have s64 := Below.trans s55 (Below.mono b62 s55.size)
  replace o25 := owns_below o25 b62
  replace o49 := owns_below o49 b62
  have lb65 := Below.size t63
  have k66 : w61.cell? ⟨w.heap.size, 0, none⟩ = some (.int .i64 o_aOp.kind_) := by rw [Below.cell (p := ⟨w.heap.size, 0, none⟩) t63 (by show w.heap.size < _; omega)]; exact c1_0
  have k67 : w61.cell? ⟨w.heap.size, 1, none⟩ = some (.int .i64 o_aOp.at_) := by rw [Below.cell (p := ⟨w.heap.size, 1, none⟩) t63 (by show w.heap.size < _; omega)]; exact c1_1
  have k68 : w61.cell? ⟨w.heap.size, 2, none⟩ = some (.int .i64 o_aOp.old_) := by rw [Below.cell (p := ⟨w.heap.size, 2, none⟩) t63 (by show w.heap.size < _; omega)]; exact c1_2
  have k69 : w61.cell? ⟨w.heap.size, 3, none⟩ = some (.int .i64 o_aOp.new_) := by rw [Below.cell (p := ⟨w.heap.size, 3, none⟩) t63 (by show w.heap.size < _; omega)]; exact c1_3
  go_wp2_with fail
  clear lb65 k66 k67 k68 k69
  refine (toIntS_c _ x_aM _ hx_aM (FlatB.flat (FlatB.below h_aM t63) t63.size)).mono ?_
  rintro e w71 ⟨v70, rfl, o72, b73⟩
  have t74 := Below.trans t63 (Below.mono b73 t63.size)
  have s75 := Below.trans s64 (Below.mono b73 s64.size)
  replace o25 := owns_below o25 b73
  replace o49 := owns_below o49 b73
  have lb76 := Below.size t74
  have k77 : w71.cell? ⟨w.heap.size, 0, none⟩ = some (.int .i64 o_aOp.kind_) := by rw [Below.cell (p := ⟨w.heap.size, 0, none⟩) t74 (by show w.heap.size < _; omega)]; exact c1_0
  have k78 : w71.cell? ⟨w.heap.size, 1, none⟩ = some (.int .i64 o_aOp.at_) := by rw [Below.cell (p := ⟨w.heap.size, 1, none⟩) t74 (by show w.heap.size < _; omega)]; exact c1_1
  have k79 : w71.cell? ⟨w.heap.size, 2, none⟩ = some (.int .i64 o_aOp.old_) := by rw [Below.cell (p := ⟨w.heap.size, 2, none⟩) t74 (by show w.heap.size < _; omega)]; exact c1_2
  have k80 : w71.cell? ⟨w.heap.size, 3, none⟩ = some (.int .i64 o_aOp.new_) := by rw [Below.cell (p := ⟨w.heap.size, 3, none⟩) t74 (by show w.heap.size < _; omega)]; exact c1_3
  go_wp2_with fail
  clear lb76 k77 k78 k79 k80
  refine (eqIntS_c _ _ _ _ (Flat.of_owns o25) (Flat.of_owns o72)).mono ?_
  rintro e w81 ⟨rfl, b82⟩
  have t83 := Below.trans t74 (Below.mono b82 t74.size)
  have s84 := Below.trans s75 (Below.mono b82 s75.size)
  replace o25 := owns_below o25 b82
  replace o49 := owns_below o49 b82
  have lb85 := Below.size t83
  have k86 : w81.cell? ⟨w.heap.size, 0, none⟩ = some (.int .i64 o_aOp.kind_) := by rw [Below.cell (p := ⟨w.heap.size, 0, none⟩) t83 (by show w.heap.size < _; omega)]; exact c1_0
  have k87 : w81.cell? ⟨w.heap.size, 1, none⟩ = some (.int .i64 o_aOp.at_) := by rw [Below.cell (p := ⟨w.heap.size, 1, none⟩) t83 (by show w.heap.size < _; omega)]; exact c1_1
  have k88 : w81.cell? ⟨w.heap.size, 2, none⟩ = some (.int .i64 o_aOp.old_) := by rw [Below.cell (p := ⟨w.heap.size, 2, none⟩) t83 (by show w.heap.size < _; omega)]; exact c1_2
  have k89 : w81.cell? ⟨w.heap.size, 3, none⟩ = some (.int .i64 o_aOp.new_) := by rw [Below.cell (p := ⟨w.heap.size, 3, none⟩) t83 (by show w.heap.size < _; omega)]; exact c1_3
  go_wp2_with fail
  clear lb85 k86 k87 k88 k89
  refine (markIntS_c _ _ _ _ _ _ _ (by omega) (by omega) (by omega) o25).mono ?_
  rintro e w90 ⟨rfl, o92, g91⟩
  have t93 := Below.trans t83 (below_of_mark o25 g91 tb29 (Below.size t83))
  have s94 := Below.trans s84 (below_of_mark o25 g91 hb30 (Below.size s84))
  replace o49 := World.ownsRow.kept o49 g91 ap51.2
  have lb95 := Below.size t93
  have k96 : w90.cell? ⟨w.heap.size, 0, none⟩ = some (.int .i64 o_aOp.kind_) := by rw [Below.cell (p := ⟨w.heap.size, 0, none⟩) t93 (by show w.heap.size < _; omega)]; exact c1_0
  have k97 : w90.cell? ⟨w.heap.size, 1, none⟩ = some (.int .i64 o_aOp.at_) := by rw [Below.cell (p := ⟨w.heap.size, 1, none⟩) t93 (by show w.heap.size < _; omega)]; exact c1_1
  have k98 : w90.cell? ⟨w.heap.size, 2, none⟩ = some (.int .i64 o_aOp.old_) := by rw [Below.cell (p := ⟨w.heap.size, 2, none⟩) t93 (by show w.heap.size < _; omega)]; exact c1_2
  have k99 : w90.cell? ⟨w.heap.size, 3, none⟩ = some (.int .i64 o_aOp.new_) := by rw [Below.cell (p := ⟨w.heap.size, 3, none⟩) t93 (by show w.heap.size < _; omega)]; exact c1_3
  go_wp2_with fail
  clear lb95 k96 k97 k98 k99
  refine (eqIntS_c _ _ _ _ (Flat.of_owns o49) (FlatB.flat (FlatB.below o10 s94) s94.size)).mono ?_
  rintro e w100 ⟨rfl, b101⟩
  have t102 := Below.trans t93 (Below.mono b101 t93.size)
  have s103 := Below.trans s94 (Below.mono b101 s94.size)
  replace o92 := owns_below o92 b101
  replace o49 := owns_below o49 b101
  have lb104 := Below.size t102
  have k105 : w100.cell? ⟨w.heap.size, 0, none⟩ = some (.int .i64 o_aOp.kind_) := by rw [Below.cell (p := ⟨w.heap.size, 0, none⟩) t102 (by show w.heap.size < _; omega)]; exact c1_0
  have k106 : w100.cell? ⟨w.heap.size, 1, none⟩ = some (.int .i64 o_aOp.at_) := by rw [Below.cell (p := ⟨w.heap.size, 1, none⟩) t102 (by show w.heap.size < _; omega)]; exact c1_1
  have k107 : w100.cell? ⟨w.heap.size, 2, none⟩ = some (.int .i64 o_aOp.old_) := by rw [Below.cell (p := ⟨w.heap.size, 2, none⟩) t102 (by show w.heap.size < _; omega)]; exact c1_2
  have k108 : w100.cell? ⟨w.heap.size, 3, none⟩ = some (.int .i64 o_aOp.new_) := by rw [Below.cell (p := ⟨w.heap.size, 3, none⟩) t102 (by show w.heap.size < _; omega)]; exact c1_3
  go_wp2_with fail
  clear lb104 k105 k106 k107 k108
  refine (markIntS_c _ _ _ _ _ _ _ (by omega) (by omega) (by omega) o49).mono ?_
  rintro e w109 ⟨rfl, o111, g110⟩
  have t112 := Below.trans t102 (below_of_mark o49 g110 tb52 (Below.size t102))
  have s113 := Below.trans s103 (below_of_mark o49 g110 hb53 (Below.size s103))
  replace o92 := World.ownsRow.kept o92 g110 ap51.1
  have lb114 := Below.size t112
  have k115 : w109.cell? ⟨w.heap.size, 0, none⟩ = some (.int .i64 o_aOp.kind_) := by rw [Below.cell (p := ⟨w.heap.size, 0, none⟩) t112 (by show w.heap.size < _; omega)]; exact c1_0
  have k116 : w109.cell? ⟨w.heap.size, 1, none⟩ = some (.int .i64 o_aOp.at_) := by rw [Below.cell (p := ⟨w.heap.size, 1, none⟩) t112 (by show w.heap.size < _; omega)]; exact c1_1
  have k117 : w109.cell? ⟨w.heap.size, 2, none⟩ = some (.int .i64 o_aOp.old_) := by rw [Below.cell (p := ⟨w.heap.size, 2, none⟩) t112 (by show w.heap.size < _; omega)]; exact c1_2
  have k118 : w109.cell? ⟨w.heap.size, 3, none⟩ = some (.int .i64 o_aOp.new_) := by rw [Below.cell (p := ⟨w.heap.size, 3, none⟩) t112 (by show w.heap.size < _; omega)]; exact c1_3
  go_wp2_with fail
  clear lb114 k115 k116 k117 k118
  refine (heldIntS_c _ _ _ _ (by omega) (by omega) (by omega) (Flat.of_owns o111)).mono ?_
  rintro e w119 ⟨rfl, b120⟩
  have t121 := Below.trans t112 (Below.mono b120 t112.size)
  have s122 := Below.trans s113 (Below.mono b120 s113.size)
  replace o92 := owns_below o92 b120
  replace o111 := owns_below o111 b120
  have lb123 := Below.size t121
  have k124 : w119.cell? ⟨w.heap.size, 0, none⟩ = some (.int .i64 o_aOp.kind_) := by rw [Below.cell (p := ⟨w.heap.size, 0, none⟩) t121 (by show w.heap.size < _; omega)]; exact c1_0
  have k125 : w119.cell? ⟨w.heap.size, 1, none⟩ = some (.int .i64 o_aOp.at_) := by rw [Below.cell (p := ⟨w.heap.size, 1, none⟩) t121 (by show w.heap.size < _; omega)]; exact c1_1
  have k126 : w119.cell? ⟨w.heap.size, 2, none⟩ = some (.int .i64 o_aOp.old_) := by rw [Below.cell (p := ⟨w.heap.size, 2, none⟩) t121 (by show w.heap.size < _; omega)]; exact c1_2
  have k127 : w119.cell? ⟨w.heap.size, 3, none⟩ = some (.int .i64 o_aOp.new_) := by rw [Below.cell (p := ⟨w.heap.size, 3, none⟩) t121 (by show w.heap.size < _; omega)]; exact c1_3
  go_wp2_with fail
  clear lb123 k124 k125 k126 k127
  have lb := Below.size t121
  go_region_held3 (fun w' => Below w119.heap.size w119 w' ∧ w119.heap.size ≤ w'.heap.size ∧ w'.cell? ⟨w.heap.size, 0, none⟩ = some (.int .i64 o_aOp.kind_) ∧ w'.cell? ⟨w.heap.size, 1, none⟩ = some (.int .i64 o_aOp.at_) ∧ w'.cell? ⟨w.heap.size, 2, none⟩ = some (.int .i64 o_aOp.old_) ∧ w'.cell? ⟨w.heap.size, 3, none⟩ = some (.int .i64 o_aOp.new_))
    (first | exact ⟨(Below.refl _ _).drew, Nat.le_refl _, (by rw [World.cell?_drew, Below.cell (p := ⟨w.heap.size, 0, none⟩) t121 (by show w.heap.size < _; omega)]; exact c1_0), (by rw [World.cell?_drew, Below.cell (p := ⟨w.heap.size, 1, none⟩) t121 (by show w.heap.size < _; omega)]; exact c1_1), (by rw [World.cell?_drew, Below.cell (p := ⟨w.heap.size, 2, none⟩) t121 (by show w.heap.size < _; omega)]; exact c1_2), (by rw [World.cell?_drew, Below.cell (p := ⟨w.heap.size, 3, none⟩) t121 (by show w.heap.size < _; omega)]; exact c1_3)⟩ | exact keepBox4 (by omega) ‹_› ‹_›)
    (first
    | (go_at_call 10; refine (toIntS_c _ x_aM _ hx_aM (Flat.below (FlatB.flat (FlatB.below h_aM t121) t121.size) (by first | exact (Below.refl _ _).drew | exact And.left ‹_›))).mono ?_; rintro e w129 ⟨v128, rfl, o130, b131⟩)
    | (go_at_call 14; refine (toWordOp_c o_aOp _).mono ?_; rintro e w132 ⟨rfl, b133⟩)
    | (go_at_call 15; refine (impl_Word _ x_aM o_aOp _ (Flat.below (Flat.of_owns o130) b133) hx_aM).mono ?_; rintro e w134 ⟨v136, rfl, o137, l138, b135⟩))
  have d139 : Below w119.heap.size w119 w119.drew := (Below.refl _ _).drew
  have t140 := Below.trans t121 (Below.mono d139 t121.size)
  have s141 := Below.trans s122 (Below.mono d139 s122.size)
  replace o92 := owns_below o92 d139
  replace o111 := owns_below o111 d139
  have t142 := Below.trans t140 (Below.mono b131 t140.size)
  have s143 := Below.trans s141 (Below.mono b131 s141.size)
  replace o92 := owns_below o92 b131
  replace o111 := owns_below o111 b131
  have t144 := Below.trans t142 (Below.mono b133 t142.size)
  have s145 := Below.trans s143 (Below.mono b133 s143.size)
  replace o92 := owns_below o92 b133
  replace o111 := owns_below o111 b133
  have p146 := o92
  have p147 := o111
  have ap148 := apart p146 (Nat.le_refl _) o137
  have ap149 := apart p147 (Nat.le_refl _) o137
  have tb150 := Below.size t144
  have hb151 := Below.size s145
  have t152 := Below.trans t144 (Below.mono b135 t144.size)
  have s153 := Below.trans s145 (Below.mono b135 s145.size)
  replace o92 := owns_below o92 b135
  replace o111 := owns_below o111 b135
  have lb154 := Below.size t152
  have k155 : w134.cell? ⟨w.heap.size, 0, none⟩ = some (.int .i64 o_aOp.kind_) := by rw [Below.cell (p := ⟨w.heap.size, 0, none⟩) t152 (by show w.heap.size < _; omega)]; exact c1_0
  have k156 : w134.cell? ⟨w.heap.size, 1, none⟩ = some (.int .i64 o_aOp.at_) := by rw [Below.cell (p := ⟨w.heap.size, 1, none⟩) t152 (by show w.heap.size < _; omega)]; exact c1_1
  have k157 : w134.cell? ⟨w.heap.size, 2, none⟩ = some (.int .i64 o_aOp.old_) := by rw [Below.cell (p := ⟨w.heap.size, 2, none⟩) t152 (by show w.heap.size < _; omega)]; exact c1_2
  have k158 : w134.cell? ⟨w.heap.size, 3, none⟩ = some (.int .i64 o_aOp.new_) := by rw [Below.cell (p := ⟨w.heap.size, 3, none⟩) t152 (by show w.heap.size < _; omega)]; exact c1_3
  go_wp2_with fail
  clear lb154 k155 k156 k157 k158
  refine (eqIntS_c _ _ _ _ (Flat.of_owns o137) (FlatB.flat (FlatB.below o10 s153) s153.size)).mono ?_
  rintro e w159 ⟨rfl, b160⟩
  have t161 := Below.trans t152 (Below.mono b160 t152.size)
  have s162 := Below.trans s153 (Below.mono b160 s153.size)
  replace o92 := owns_below o92 b160
  replace o111 := owns_below o111 b160
  replace o137 := owns_below o137 b160
  have lb163 := Below.size t161
  have k164 : w159.cell? ⟨w.heap.size, 0, none⟩ = some (.int .i64 o_aOp.kind_) := by rw [Below.cell (p := ⟨w.heap.size, 0, none⟩) t161 (by show w.heap.size < _; omega)]; exact c1_0
  have k165 : w159.cell? ⟨w.heap.size, 1, none⟩ = some (.int .i64 o_aOp.at_) := by rw [Below.cell (p := ⟨w.heap.size, 1, none⟩) t161 (by show w.heap.size < _; omega)]; exact c1_1
  have k166 : w159.cell? ⟨w.heap.size, 2, none⟩ = some (.int .i64 o_aOp.old_) := by rw [Below.cell (p := ⟨w.heap.size, 2, none⟩) t161 (by show w.heap.size < _; omega)]; exact c1_2
  have k167 : w159.cell? ⟨w.heap.size, 3, none⟩ = some (.int .i64 o_aOp.new_) := by rw [Below.cell (p := ⟨w.heap.size, 3, none⟩) t161 (by show w.heap.size < _; omega)]; exact c1_3
  go_wp2_with fail
  clear lb163 k164 k165 k166 k167
  refine (heldIntS_c _ _ _ _ (by omega) (by omega) (by omega) (Flat.of_owns o111)).mono ?_
  rintro e w168 ⟨rfl, b169⟩
  have t170 := Below.trans t161 (Below.mono b169 t161.size)
  have s171 := Below.trans s162 (Below.mono b169 s162.size)
  replace o92 := owns_below o92 b169
  replace o111 := owns_below o111 b169
  replace o137 := owns_below o137 b169
  have lb172 := Below.size t170
  have k173 : w168.cell? ⟨w.heap.size, 0, none⟩ = some (.int .i64 o_aOp.kind_) := by rw [Below.cell (p := ⟨w.heap.size, 0, none⟩) t170 (by show w.heap.size < _; omega)]; exact c1_0
  have k174 : w168.cell? ⟨w.heap.size, 1, none⟩ = some (.int .i64 o_aOp.at_) := by rw [Below.cell (p := ⟨w.heap.size, 1, none⟩) t170 (by show w.heap.size < _; omega)]; exact c1_1
  have k175 : w168.cell? ⟨w.heap.size, 2, none⟩ = some (.int .i64 o_aOp.old_) := by rw [Below.cell (p := ⟨w.heap.size, 2, none⟩) t170 (by show w.heap.size < _; omega)]; exact c1_2
  have k176 : w168.cell? ⟨w.heap.size, 3, none⟩ = some (.int .i64 o_aOp.new_) := by rw [Below.cell (p := ⟨w.heap.size, 3, none⟩) t170 (by show w.heap.size < _; omega)]; exact c1_3
  go_wp2_with fail
  clear lb172 k173 k174 k175 k176
  try go_wp2
  go_ret
  exact ⟨rfl, hB0.trans (Below.mono t170 hB0.size)⟩

end Go.Proofs.Ytfhkngmankmehaa
