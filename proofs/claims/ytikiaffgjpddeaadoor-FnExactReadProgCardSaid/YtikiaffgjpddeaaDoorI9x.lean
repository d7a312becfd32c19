/- Chapter 9's program: the names, an instruction's text. (printed by tools/mk_i9x.py) -/
import Derived.Test.YtikiaffgjpddeaaDoorI9w
import Derived.Test.YtikiaffgjpddeaaDoorS9l
namespace Go.Proofs.YtikiaffgjpddeaaDoor
set_option maxRecDepth 100000
open Go.RowKit Go.Proofs Go.Own
open Go Go.BigFrame Go.Shelf
set_option linter.unusedVariables false
set_option linter.unusedSimpArgs false
theorem impl_opNames (w : World) :
    Calls Tryd.prog 31 #[] w fun e w' => e = .returned (.agg namesV) ∧ Below w.heap.size w w' := by
  go_enter Tryd.func31, Tryd.ntmps31
  go_wp2
  exact bodyPost_ret (v := .agg namesV) (by simp [results, Tryd.results31, go_sem, namesV]; (repeat' apply And.intro) <;> rfl) rfl ⟨rfl, (by repeat (first | exact Below.refl _ _ | refine below_drewN ?_ _ | refine Below.drew ?_ | refine Below.setCell ?_ (by simp; try omega) _ | refine Below.alloc ?_ (by simp; try omega) _))⟩
theorem tszS : ∀ (h : 9 < Tryd.prog.types.size), (Tryd.prog.types[9]'h).size = 1 := fun _ => by kernel_rfl
set_option maxHeartbeats 8000000 in
theorem impl_instrText (i : Instr) (n : Int) (w : World) (hi : instrOk i n = true) (hn : n ≤ 1000000000) (htw : Tab w) :
    Calls Tryd.prog 18 #[.agg #[.int .i64 i.op_, .int .i64 i.a_, .int .i64 i.b_]] w fun e w' => e = .returned (.string (BA (lineL i))) ∧ Below w.heap.size w w' := by
  have hr := instrOk_rng hi hn
  have ho := op_of hi
  obtain ⟨k, a, b⟩ := i
  dsimp only at hr ho
  dsimp only
  obtain ⟨⟨ha1, ha2⟩, hb1, hb2⟩ := hr
  have za := itoaB_size ha1 ha2
  have zb := itoaB_size hb1 hb2
  have sp : (⟨#[32]⟩ : ByteArray).size = 1 := rfl
  have hB0 : Below w.heap.size w (w.alloc (.cells #[.int .i64 k, .int .i64 a, .int .i64 b] 37)) := (Below.refl _ _).alloc (Nat.le_refl _) _
  obtain ⟨V, hV⟩ : ∃ X, w.alloc (.cells #[.int .i64 k, .int .i64 a, .int .i64 b] 37) = X := ⟨_, rfl⟩
  have hN : w.heap.size < V.heap.size := by rw [← hV]; simp
  have k0 : V.cell? ⟨w.heap.size, 0, none⟩ = some (.int .i64 k) := by rw [← hV]; simp [go_sem]
  have k1 : V.cell? ⟨w.heap.size, 1, none⟩ = some (.int .i64 a) := by rw [← hV]; simp [go_sem]
  have k2 : V.cell? ⟨w.heap.size, 2, none⟩ = some (.int .i64 b) := by rw [← hV]; simp [go_sem]
  rw [hV] at hB0
  have HB0 := hid hB0
  have HV := hid hV
  clear hB0 hV hi
  rcases ho with rfl | rfl | rfl | rfl | rfl | rfl | rfl | rfl
  · have hT : typed ⟨1, a, b⟩ = .iface 73 (.agg #[.int .i64 1, .int .i64 a, .int .i64 b]) := rfl
    obtain ⟨N, hNm⟩ : ∃ X, BA (nmL 1) = X := ⟨_, rfl⟩
    have zN : N.size ≤ 6 := by rw [← hNm]; exact nmL_len 1
    have hE := hid (show BA (lineL ⟨1, a, b⟩) = (N ++ wordT 1 a) ++ wordT 2 b by
      rw [← hNm]; simp only [lineL, wordT, itoaB_BA]; simp [show (⟨#[32]⟩ : ByteArray) = BA [32] from rfl, BA_app])
    go_enter Tryd.func18, Tryd.ntmps18
    go_wp2_with fail
    rw [HV.out]
    refine (impl_instructionOf ⟨1, a, b⟩ _).mono ?_
    rintro e w2 ⟨rfl, b2⟩
    rw [hT]
    have B2 := hid (HB0.out.trans (b2.mono (Nat.le_of_lt hN)))
    have hm := im_read (.agg #[.int .i64 1, .int .i64 a, .int .i64 b])
    go_wp2_with fail
    refine (ops_read _ _ _ _).mono ?_
    rintro e w3 ⟨rfl, b3⟩
    have B3 := hid (B2.out.trans (b3.mono B2.out.size))
    have bV3 := b2.trans (b3.mono b2.size)
    have hN3 : w.heap.size < w3.heap.size := Nat.lt_of_lt_of_le hN bV3.size
    have x0 := Ext.cell hN3 ((bV3.cell (p := ⟨w.heap.size, 0, none⟩) hN).trans k0)
    have x1 := Ext.cell hN3 ((bV3.cell (p := ⟨w.heap.size, 1, none⟩) hN).trans k1)
    have x2 := Ext.cell hN3 ((bV3.cell (p := ⟨w.heap.size, 2, none⟩) hN).trans k2)
    have ht : Tab w3 := tab_below htw B3.out
    have hix : ∀ w : World, (Instr.index 60 (.agg namesV) (.int .i64 1)).run Tryd.prog w = .ok (.string N) w := fun _ => by rw [← hNm]; kernel_rfl
    have zA := wordT_size 1 a ha1 ha2
    have zB := wordT_size 2 b hb1 hb2
    have y1 : ¬ (9223372036854775807 < N.size + (wordT 1 a).size) := by omega
    have y2 : ¬ (9223372036854775807 < N.size + (wordT 1 a).size + (wordT 2 b).size) := by omega
    clear k0 k1 k2 hm b2 b3 hT bV3 zN hNm
    go_wp2_with fail
    refine wp_region_ext w3 (Below.refl _ _) (by kernel_rfl) (by kernel_rfl) ?_
    repeat (go_big_quiet_step (first | (go_at_call 31; exact call_ext _ (impl_opNames _)) | (go_at_call 32; exact call_ext _ (impl_wordG _ _ _ (by assumption) (by assumption) (Ext.tab ht _)))))
    refine wpQuiet_nil ?_; rintro _ ⟨E, rfl⟩
    go_wp2
    go_ret
    exact ⟨ret_str (by rw [hE.out]), B3.out.trans (E.h.mono B3.out.size)⟩
  · have hT : typed ⟨2, a, b⟩ = .iface 74 (.agg #[.int .i64 2, .int .i64 a, .int .i64 b]) := rfl
    obtain ⟨N, hNm⟩ : ∃ X, BA (nmL 2) = X := ⟨_, rfl⟩
    have zN : N.size ≤ 6 := by rw [← hNm]; exact nmL_len 2
    have hE := hid (show BA (lineL ⟨2, a, b⟩) = (N ++ wordT 2 a) ++ wordT 1 b by
      rw [← hNm]; simp only [lineL, wordT, itoaB_BA]; simp [show (⟨#[32]⟩ : ByteArray) = BA [32] from rfl, BA_app])
    go_enter Tryd.func18, Tryd.ntmps18
    go_wp2_with fail
    rw [HV.out]
    refine (impl_instructionOf ⟨2, a, b⟩ _).mono ?_
    rintro e w2 ⟨rfl, b2⟩
    rw [hT]
    have B2 := hid (HB0.out.trans (b2.mono (Nat.le_of_lt hN)))
    have hm := im_write (.agg #[.int .i64 2, .int .i64 a, .int .i64 b])
    go_wp2_with fail
    refine (ops_write _ _ _ _).mono ?_
    rintro e w3 ⟨rfl, b3⟩
    have B3 := hid (B2.out.trans (b3.mono B2.out.size))
    have bV3 := b2.trans (b3.mono b2.size)
    have hN3 : w.heap.size < w3.heap.size := Nat.lt_of_lt_of_le hN bV3.size
    have x0 := Ext.cell hN3 ((bV3.cell (p := ⟨w.heap.size, 0, none⟩) hN).trans k0)
    have x1 := Ext.cell hN3 ((bV3.cell (p := ⟨w.heap.size, 1, none⟩) hN).trans k1)
    have x2 := Ext.cell hN3 ((bV3.cell (p := ⟨w.heap.size, 2, none⟩) hN).trans k2)
    have ht : Tab w3 := tab_below htw B3.out
    have hix : ∀ w : World, (Instr.index 60 (.agg namesV) (.int .i64 2)).run Tryd.prog w = .ok (.string N) w := fun _ => by rw [← hNm]; kernel_rfl
    have zA := wordT_size 2 a ha1 ha2
    have zB := wordT_size 1 b hb1 hb2
    have y1 : ¬ (9223372036854775807 < N.size + (wordT 2 a).size) := by omega
    have y2 : ¬ (9223372036854775807 < N.size + (wordT 2 a).size + (wordT 1 b).size) := by omega
    clear k0 k1 k2 hm b2 b3 hT bV3 zN hNm
    go_wp2_with fail
    refine wp_region_ext w3 (Below.refl _ _) (by kernel_rfl) (by kernel_rfl) ?_
    repeat (go_big_quiet_step (first | (go_at_call 31; exact call_ext _ (impl_opNames _)) | (go_at_call 32; exact call_ext _ (impl_wordG _ _ _ (by assumption) (by assumption) (Ext.tab ht _)))))
    refine wpQuiet_nil ?_; rintro _ ⟨E, rfl⟩
    go_wp2
    go_ret
    exact ⟨ret_str (by rw [hE.out]), B3.out.trans (E.h.mono B3.out.size)⟩
  · have hT : typed ⟨3, a, b⟩ = .iface 75 (.agg #[.int .i64 3, .int .i64 a, .int .i64 b]) := rfl
    obtain ⟨N, hNm⟩ : ∃ X, BA (nmL 3) = X := ⟨_, rfl⟩
    have zN : N.size ≤ 6 := by rw [← hNm]; exact nmL_len 3
    have hE := hid (show BA (lineL ⟨3, a, b⟩) = (N ++ wordT 1 a) ++ wordT 3 b by
      rw [← hNm]; simp only [lineL, wordT, itoaB_BA]; simp [show (⟨#[32]⟩ : ByteArray) = BA [32] from rfl, BA_app])
    go_enter Tryd.func18, Tryd.ntmps18
    go_wp2_with fail
    rw [HV.out]
    refine (impl_instructionOf ⟨3, a, b⟩ _).mono ?_
    rintro e w2 ⟨rfl, b2⟩
    rw [hT]
    have B2 := hid (HB0.out.trans (b2.mono (Nat.le_of_lt hN)))
    have hm := im_set (.agg #[.int .i64 3, .int .i64 a, .int .i64 b])
    go_wp2_with fail
    refine (ops_set _ _ _ _).mono ?_
    rintro e w3 ⟨rfl, b3⟩
    have B3 := hid (B2.out.trans (b3.mono B2.out.size))
    have bV3 := b2.trans (b3.mono b2.size)
    have hN3 : w.heap.size < w3.heap.size := Nat.lt_of_lt_of_le hN bV3.size
    have x0 := Ext.cell hN3 ((bV3.cell (p := ⟨w.heap.size, 0, none⟩) hN).trans k0)
    have x1 := Ext.cell hN3 ((bV3.cell (p := ⟨w.heap.size, 1, none⟩) hN).trans k1)
    have x2 := Ext.cell hN3 ((bV3.cell (p := ⟨w.heap.size, 2, none⟩) hN).trans k2)
    have ht : Tab w3 := tab_below htw B3.out
    have hix : ∀ w : World, (Instr.index 60 (.agg namesV) (.int .i64 3)).run Tryd.prog w = .ok (.string N) w := fun _ => by rw [← hNm]; kernel_rfl
    have zA := wordT_size 1 a ha1 ha2
    have zB := wordT_size 3 b hb1 hb2
    have y1 : ¬ (9223372036854775807 < N.size + (wordT 1 a).size) := by omega
    have y2 : ¬ (9223372036854775807 < N.size + (wordT 1 a).size + (wordT 3 b).size) := by omega
    clear k0 k1 k2 hm b2 b3 hT bV3 zN hNm
    go_wp2_with fail
    refine wp_region_ext w3 (Below.refl _ _) (by kernel_rfl) (by kernel_rfl) ?_
    repeat (go_big_quiet_step (first | (go_at_call 31; exact call_ext _ (impl_opNames _)) | (go_at_call 32; exact call_ext _ (impl_wordG _ _ _ (by assumption) (by assumption) (Ext.tab ht _)))))
    refine wpQuiet_nil ?_; rintro _ ⟨E, rfl⟩
    go_wp2
    go_ret
    exact ⟨ret_str (by rw [hE.out]), B3.out.trans (E.h.mono B3.out.size)⟩
  · have hT : typed ⟨4, a, b⟩ = .iface 76 (.agg #[.int .i64 4, .int .i64 a, .int .i64 b]) := rfl
    obtain ⟨N, hNm⟩ : ∃ X, BA (nmL 4) = X := ⟨_, rfl⟩
    have zN : N.size ≤ 6 := by rw [← hNm]; exact nmL_len 4
    have hE := hid (show BA (lineL ⟨4, a, b⟩) = (N ++ wordT 1 a) ++ wordT 1 b by
      rw [← hNm]; simp only [lineL, wordT, itoaB_BA]; simp [show (⟨#[32]⟩ : ByteArray) = BA [32] from rfl, BA_app])
    go_enter Tryd.func18, Tryd.ntmps18
    go_wp2_with fail
    rw [HV.out]
    refine (impl_instructionOf ⟨4, a, b⟩ _).mono ?_
    rintro e w2 ⟨rfl, b2⟩
    rw [hT]
    have B2 := hid (HB0.out.trans (b2.mono (Nat.le_of_lt hN)))
    have hm := im_add (.agg #[.int .i64 4, .int .i64 a, .int .i64 b])
    go_wp2_with fail
    refine (ops_add _ _ _ _).mono ?_
    rintro e w3 ⟨rfl, b3⟩
    have B3 := hid (B2.out.trans (b3.mono B2.out.size))
    have bV3 := b2.trans (b3.mono b2.size)
    have hN3 : w.heap.size < w3.heap.size := Nat.lt_of_lt_of_le hN bV3.size
    have x0 := Ext.cell hN3 ((bV3.cell (p := ⟨w.heap.size, 0, none⟩) hN).trans k0)
    have x1 := Ext.cell hN3 ((bV3.cell (p := ⟨w.heap.size, 1, none⟩) hN).trans k1)
    have x2 := Ext.cell hN3 ((bV3.cell (p := ⟨w.heap.size, 2, none⟩) hN).trans k2)
    have ht : Tab w3 := tab_below htw B3.out
    have hix : ∀ w : World, (Instr.index 60 (.agg namesV) (.int .i64 4)).run Tryd.prog w = .ok (.string N) w := fun _ => by rw [← hNm]; kernel_rfl
    have zA := wordT_size 1 a ha1 ha2
    have zB := wordT_size 1 b hb1 hb2
    have y1 : ¬ (9223372036854775807 < N.size + (wordT 1 a).size) := by omega
    have y2 : ¬ (9223372036854775807 < N.size + (wordT 1 a).size + (wordT 1 b).size) := by omega
    clear k0 k1 k2 hm b2 b3 hT bV3 zN hNm
    go_wp2_with fail
    refine wp_region_ext w3 (Below.refl _ _) (by kernel_rfl) (by kernel_rfl) ?_
    repeat (go_big_quiet_step (first | (go_at_call 31; exact call_ext _ (impl_opNames _)) | (go_at_call 32; exact call_ext _ (impl_wordG _ _ _ (by assumption) (by assumption) (Ext.tab ht _)))))
    refine wpQuiet_nil ?_; rintro _ ⟨E, rfl⟩
    go_wp2
    go_ret
    exact ⟨ret_str (by rw [hE.out]), B3.out.trans (E.h.mono B3.out.size)⟩
  · have hT : typed ⟨5, a, b⟩ = .iface 77 (.agg #[.int .i64 5, .int .i64 a, .int .i64 b]) := rfl
    obtain ⟨N, hNm⟩ : ∃ X, BA (nmL 5) = X := ⟨_, rfl⟩
    have zN : N.size ≤ 6 := by rw [← hNm]; exact nmL_len 5
    have hE := hid (show BA (lineL ⟨5, a, b⟩) = (N ++ wordT 1 a) ++ wordT 4 b by
      rw [← hNm]; simp only [lineL, wordT, itoaB_BA]; simp [show (⟨#[32]⟩ : ByteArray) = BA [32] from rfl, BA_app])
    go_enter Tryd.func18, Tryd.ntmps18
    go_wp2_with fail
    rw [HV.out]
    refine (impl_instructionOf ⟨5, a, b⟩ _).mono ?_
    rintro e w2 ⟨rfl, b2⟩
    rw [hT]
    have B2 := hid (HB0.out.trans (b2.mono (Nat.le_of_lt hN)))
    have hm := im_if (.agg #[.int .i64 5, .int .i64 a, .int .i64 b])
    go_wp2_with fail
    refine (ops_if _ _ _ _).mono ?_
    rintro e w3 ⟨rfl, b3⟩
    have B3 := hid (B2.out.trans (b3.mono B2.out.size))
    have bV3 := b2.trans (b3.mono b2.size)
    have hN3 : w.heap.size < w3.heap.size := Nat.lt_of_lt_of_le hN bV3.size
    have x0 := Ext.cell hN3 ((bV3.cell (p := ⟨w.heap.size, 0, none⟩) hN).trans k0)
    have x1 := Ext.cell hN3 ((bV3.cell (p := ⟨w.heap.size, 1, none⟩) hN).trans k1)
    have x2 := Ext.cell hN3 ((bV3.cell (p := ⟨w.heap.size, 2, none⟩) hN).trans k2)
    have ht : Tab w3 := tab_below htw B3.out
    have hix : ∀ w : World, (Instr.index 60 (.agg namesV) (.int .i64 5)).run Tryd.prog w = .ok (.string N) w := fun _ => by rw [← hNm]; kernel_rfl
    have zA := wordT_size 1 a ha1 ha2
    have zB := wordT_size 4 b hb1 hb2
    have y1 : ¬ (9223372036854775807 < N.size + (wordT 1 a).size) := by omega
    have y2 : ¬ (9223372036854775807 < N.size + (wordT 1 a).size + (wordT 4 b).size) := by omega
    clear k0 k1 k2 hm b2 b3 hT bV3 zN hNm
    go_wp2_with fail
    refine wp_region_ext w3 (Below.refl _ _) (by kernel_rfl) (by kernel_rfl) ?_
    repeat (go_big_quiet_step (first | (go_at_call 31; exact call_ext _ (impl_opNames _)) | (go_at_call 32; exact call_ext _ (impl_wordG _ _ _ (by assumption) (by assumption) (Ext.tab ht _)))))
    refine wpQuiet_nil ?_; rintro _ ⟨E, rfl⟩
    go_wp2
    go_ret
    exact ⟨ret_str (by rw [hE.out]), B3.out.trans (E.h.mono B3.out.size)⟩
  · have hT : typed ⟨6, a, b⟩ = .iface 78 (.agg #[.int .i64 6, .int .i64 a, .int .i64 b]) := rfl
    obtain ⟨N, hNm⟩ : ∃ X, BA (nmL 6) = X := ⟨_, rfl⟩
    have zN : N.size ≤ 6 := by rw [← hNm]; exact nmL_len 6
    have hE := hid (show BA (lineL ⟨6, a, b⟩) = (N ++ wordT 0 a) ++ wordT 0 b by
      rw [← hNm]; simp only [lineL, wordT, itoaB_BA]; simp [show ByteArray.empty = BA [] from rfl, BA_app])
    go_enter Tryd.func18, Tryd.ntmps18
    go_wp2_with fail
    rw [HV.out]
    refine (impl_instructionOf ⟨6, a, b⟩ _).mono ?_
    rintro e w2 ⟨rfl, b2⟩
    rw [hT]
    have B2 := hid (HB0.out.trans (b2.mono (Nat.le_of_lt hN)))
    have hm := im_commit (.agg #[.int .i64 6, .int .i64 a, .int .i64 b])
    go_wp2_with fail
    refine (ops_commit _ _ _ _).mono ?_
    rintro e w3 ⟨rfl, b3⟩
    have B3 := hid (B2.out.trans (b3.mono B2.out.size))
    have bV3 := b2.trans (b3.mono b2.size)
    have hN3 : w.heap.size < w3.heap.size := Nat.lt_of_lt_of_le hN bV3.size
    have x0 := Ext.cell hN3 ((bV3.cell (p := ⟨w.heap.size, 0, none⟩) hN).trans k0)
    have x1 := Ext.cell hN3 ((bV3.cell (p := ⟨w.heap.size, 1, none⟩) hN).trans k1)
    have x2 := Ext.cell hN3 ((bV3.cell (p := ⟨w.heap.size, 2, none⟩) hN).trans k2)
    have ht : Tab w3 := tab_below htw B3.out
    have hix : ∀ w : World, (Instr.index 60 (.agg namesV) (.int .i64 6)).run Tryd.prog w = .ok (.string N) w := fun _ => by rw [← hNm]; kernel_rfl
    have zA := wordT_size 0 a ha1 ha2
    have zB := wordT_size 0 b hb1 hb2
    have y1 : ¬ (9223372036854775807 < N.size + (wordT 0 a).size) := by omega
    have y2 : ¬ (9223372036854775807 < N.size + (wordT 0 a).size + (wordT 0 b).size) := by omega
    clear k0 k1 k2 hm b2 b3 hT bV3 zN hNm
    go_wp2_with fail
    refine wp_region_ext w3 (Below.refl _ _) (by kernel_rfl) (by kernel_rfl) ?_
    repeat (go_big_quiet_step (first | (go_at_call 31; exact call_ext _ (impl_opNames _)) | (go_at_call 32; exact call_ext _ (impl_wordG _ _ _ (by assumption) (by assumption) (Ext.tab ht _)))))
    refine wpQuiet_nil ?_; rintro _ ⟨E, rfl⟩
    go_wp2
    go_ret
    exact ⟨ret_str (by rw [hE.out]), B3.out.trans (E.h.mono B3.out.size)⟩
  · have hT : typed ⟨7, a, b⟩ = .iface 79 (.agg #[.int .i64 7, .int .i64 a, .int .i64 b]) := rfl
    obtain ⟨N, hNm⟩ : ∃ X, BA (nmL 7) = X := ⟨_, rfl⟩
    have zN : N.size ≤ 6 := by rw [← hNm]; exact nmL_len 7
    have hE := hid (show BA (lineL ⟨7, a, b⟩) = (N ++ wordT 0 a) ++ wordT 0 b by
      rw [← hNm]; simp only [lineL, wordT, itoaB_BA]; simp [show ByteArray.empty = BA [] from rfl, BA_app])
    go_enter Tryd.func18, Tryd.ntmps18
    go_wp2_with fail
    rw [HV.out]
    refine (impl_instructionOf ⟨7, a, b⟩ _).mono ?_
    rintro e w2 ⟨rfl, b2⟩
    rw [hT]
    have B2 := hid (HB0.out.trans (b2.mono (Nat.le_of_lt hN)))
    have hm := im_abort (.agg #[.int .i64 7, .int .i64 a, .int .i64 b])
    go_wp2_with fail
    refine (ops_abort _ _ _ _).mono ?_
    rintro e w3 ⟨rfl, b3⟩
    have B3 := hid (B2.out.trans (b3.mono B2.out.size))
    have bV3 := b2.trans (b3.mono b2.size)
    have hN3 : w.heap.size < w3.heap.size := Nat.lt_of_lt_of_le hN bV3.size
    have x0 := Ext.cell hN3 ((bV3.cell (p := ⟨w.heap.size, 0, none⟩) hN).trans k0)
    have x1 := Ext.cell hN3 ((bV3.cell (p := ⟨w.heap.size, 1, none⟩) hN).trans k1)
    have x2 := Ext.cell hN3 ((bV3.cell (p := ⟨w.heap.size, 2, none⟩) hN).trans k2)
    have ht : Tab w3 := tab_below htw B3.out
    have hix : ∀ w : World, (Instr.index 60 (.agg namesV) (.int .i64 7)).run Tryd.prog w = .ok (.string N) w := fun _ => by rw [← hNm]; kernel_rfl
    have zA := wordT_size 0 a ha1 ha2
    have zB := wordT_size 0 b hb1 hb2
    have y1 : ¬ (9223372036854775807 < N.size + (wordT 0 a).size) := by omega
    have y2 : ¬ (9223372036854775807 < N.size + (wordT 0 a).size + (wordT 0 b).size) := by omega
    clear k0 k1 k2 hm b2 b3 hT bV3 zN hNm
    go_wp2_with fail
    refine wp_region_ext w3 (Below.refl _ _) (by kernel_rfl) (by kernel_rfl) ?_
    repeat (go_big_quiet_step (first | (go_at_call 31; exact call_ext _ (impl_opNames _)) | (go_at_call 32; exact call_ext _ (impl_wordG _ _ _ (by assumption) (by assumption) (Ext.tab ht _)))))
    refine wpQuiet_nil ?_; rintro _ ⟨E, rfl⟩
    go_wp2
    go_ret
    exact ⟨ret_str (by rw [hE.out]), B3.out.trans (E.h.mono B3.out.size)⟩
  · have hT : typed ⟨8, a, b⟩ = .iface 80 (.agg #[.int .i64 8, .int .i64 a, .int .i64 b]) := rfl
    obtain ⟨N, hNm⟩ : ∃ X, BA (nmL 8) = X := ⟨_, rfl⟩
    have zN : N.size ≤ 6 := by rw [← hNm]; exact nmL_len 8
    have hE := hid (show BA (lineL ⟨8, a, b⟩) = (N ++ wordT 4 a) ++ wordT 0 b by
      rw [← hNm]; simp only [lineL, wordT, itoaB_BA]; simp [show (⟨#[32]⟩ : ByteArray) = BA [32] from rfl, show ByteArray.empty = BA [] from rfl, BA_app])
    go_enter Tryd.func18, Tryd.ntmps18
    go_wp2_with fail
    rw [HV.out]
    refine (impl_instructionOf ⟨8, a, b⟩ _).mono ?_
    rintro e w2 ⟨rfl, b2⟩
    rw [hT]
    have B2 := hid (HB0.out.trans (b2.mono (Nat.le_of_lt hN)))
    have hm := im_go (.agg #[.int .i64 8, .int .i64 a, .int .i64 b])
    go_wp2_with fail
    refine (ops_go _ _ _ _).mono ?_
    rintro e w3 ⟨rfl, b3⟩
    have B3 := hid (B2.out.trans (b3.mono B2.out.size))
    have bV3 := b2.trans (b3.mono b2.size)
    have hN3 : w.heap.size < w3.heap.size := Nat.lt_of_lt_of_le hN bV3.size
    have x0 := Ext.cell hN3 ((bV3.cell (p := ⟨w.heap.size, 0, none⟩) hN).trans k0)
    have x1 := Ext.cell hN3 ((bV3.cell (p := ⟨w.heap.size, 1, none⟩) hN).trans k1)
    have x2 := Ext.cell hN3 ((bV3.cell (p := ⟨w.heap.size, 2, none⟩) hN).trans k2)
    have ht : Tab w3 := tab_below htw B3.out
    have hix : ∀ w : World, (Instr.index 60 (.agg namesV) (.int .i64 8)).run Tryd.prog w = .ok (.string N) w := fun _ => by rw [← hNm]; kernel_rfl
    have zA := wordT_size 4 a ha1 ha2
    have zB := wordT_size 0 b hb1 hb2
    have y1 : ¬ (9223372036854775807 < N.size + (wordT 4 a).size) := by omega
    have y2 : ¬ (9223372036854775807 < N.size + (wordT 4 a).size + (wordT 0 b).size) := by omega
    clear k0 k1 k2 hm b2 b3 hT bV3 zN hNm
    go_wp2_with fail
    refine wp_region_ext w3 (Below.refl _ _) (by kernel_rfl) (by kernel_rfl) ?_
    repeat (go_big_quiet_step (first | (go_at_call 31; exact call_ext _ (impl_opNames _)) | (go_at_call 32; exact call_ext _ (impl_wordG _ _ _ (by assumption) (by assumption) (Ext.tab ht _)))))
    refine wpQuiet_nil ?_; rintro _ ⟨E, rfl⟩
    go_wp2
    go_ret
    exact ⟨ret_str (by rw [hE.out]), B3.out.trans (E.h.mono B3.out.size)⟩
theorem impl_instrTextIs (i : Instr) (n : Int) (r : ByteArray) (w : World) (hi : instrOk i n = true) (hn : n ≤ 1000000000) (hr : BA (lineL i) = r) (htw : Tab w) :
    Calls Tryd.prog 18 #[.agg #[.int .i64 i.op_, .int .i64 i.a_, .int .i64 i.b_]] w fun e w' => e = .returned (.string r) ∧ Below w.heap.size w w' := by
  subst hr; exact impl_instrText i n w hi hn htw
theorem impl_instrOkIs (i : Instr) (n : Int) (r : Bool) (w : World) (hr : instrOk i n = r) :
    Calls Tryd.prog 29 #[.agg #[.int .i64 i.op_, .int .i64 i.a_, .int .i64 i.b_], .int .i64 n] w fun e w' => e = .returned (.bool r) ∧ Below w.heap.size w w' := by
  subst hr; exact impl_instrOk i n w
/-- The first place of a text in a list. -/
def idxL (xs : List (List UInt8)) (s : List UInt8) : Nat → Int
  | k => if h : k < xs.length then (if xs[k] = s then (k : Int) else idxL xs s (k + 1)) else -1
termination_by k => xs.length - k
theorem idxL_hit {xs : List (List UInt8)} {s : List UInt8} {k : Nat} (h : k < xs.length) (e : xs[k] = s) : idxL xs s k = (k : Int) := by rw [idxL, dif_pos h, if_pos e]
theorem idxL_next {xs : List (List UInt8)} {s : List UInt8} {k : Nat} (h : k < xs.length) (e : xs[k] ≠ s) : idxL xs s k = idxL xs s (k+1) := by rw [idxL, dif_pos h, if_neg e]
theorem idxL_end {xs : List (List UInt8)} {s : List UInt8} {k : Nat} (h : ¬ k < xs.length) : idxL xs s k = -1 := by rw [idxL, dif_neg h]
def namesL : List (List UInt8) := [[], nmL 1, nmL 2, nmL 3, nmL 4, nmL 5, nmL 6, nmL 7, nmL 8]
theorem namesV_L : namesV.toList = namesL.map tS := rfl
theorem idx_ok (s : List UInt8) : OpOk s (idxL namesL s 0) := by
  intro k hk e
  have h : k = 1 ∨ k = 2 ∨ k = 3 ∨ k = 4 ∨ k = 5 ∨ k = 6 ∨ k = 7 ∨ k = 8 := by omega
  rcases h with rfl | rfl | rfl | rfl | rfl | rfl | rfl | rfl <;> subst e
  all_goals (repeat (first | (rw [idxL_hit (by decide) (by decide)]; rfl) | rw [idxL_next (by decide) (by decide)]))
theorem idx_rng (xs : List (List UInt8)) (s : List UInt8) : ∀ (d k : Nat), xs.length - k = d → -1 ≤ idxL xs s k ∧ idxL xs s k < xs.length ∨ idxL xs s k = -1 := by
  intro d
  induction d with
  | zero => intro k h; right; exact idxL_end (by omega)
  | succ d ih =>
    intro k h
    by_cases e : xs[k]'(by omega) = s
    · left; rw [idxL_hit (by omega) e]; omega
    · rw [idxL_next (by omega) e]; exact ih (k+1) (by omega)
set_option maxHeartbeats 4000000 in
theorem impl_Index9 (v : Value) (xs : List (List UInt8)) (l : List UInt8) (w : World) (h : Strs w v xs) :
    Calls Tryd.prog 41 #[v, .string (BA l)] w fun e w' => e = .returned (.int .i64 (idxL xs l 0)) ∧ w = w' := by
  obtain ⟨ad, cap, rfl, hl, hm, hc⟩ := h.open
  clear h
  have hlen : xs.length ≤ 9223372036854775807 := by omega
  have HC := hid hc
  clear hc
  go_enter Tryd.func41, Tryd.ntmps41
  go_wp2
  go_loop [8] (fun i => ∃ k : Nat, k ≤ xs.length ∧ i = .int .i64 k ∧ Same (idxL xs l 0) (idxL xs l k)) (fun i => xs.length - (intOf i).toNat)
  case atStart => exact ⟨0, by omega, rfl, .rfl⟩
  case round =>
    obtain ⟨k, hk, rfl, hS⟩ := hrel
    by_cases hlt : k < xs.length
    · obtain ⟨bb, off, rfl, hbs, c0⟩ := HC.out k hlt
      clear HC
      have hcmp := eqS l xs[k]
      by_cases he : l = xs[k]
      · have Hr := hid (hS.out.trans (idxL_hit hlt he.symm))
        rw [decide_eq_true he] at hcmp
        clear he
        go_wp2
        go_ret
        exact ⟨ret_int Hr.out.symm, rfl⟩
      · have Hr := hid (hS.out.trans (idxL_next hlt (fun e => he e.symm)))
        rw [decide_eq_false he] at hcmp
        clear he
        go_wp2
        go_round
        case rel => exact ⟨k+1, by omega, by go_num, Same.mk Hr.out⟩
        case measure => simp [intOf]; omega
    · have Hr := hid (hS.out.trans (idxL_end hlt))
      go_wp2
      go_ret
      exact ⟨ret_int Hr.out.symm, rfl⟩
theorem impl_opOf (l : List UInt8) (w : World) :
    Calls Tryd.prog 37 #[.string (BA l)] w fun e w' => e = .returned (.int .i64 (idxL namesL l 0)) ∧ Below w.heap.size w w' := by
  go_enter Tryd.func37, Tryd.ntmps37
  go_wp2_with fail
  refine (impl_opNames _).mono ?_
  rintro e w2 ⟨rfl, b2⟩
  obtain ⟨W1, hW1⟩ : ∃ X, w2.alloc (.cells namesV 60) = X := ⟨_, rfl⟩
  have hB1 : Below w.heap.size w W1 := by rw [← hW1]; exact b2.alloc b2.size _
  have hS : Strs W1 (.slice (some ⟨w2.heap.size, 0, none⟩) 9 9) namesL := by
    have h9 := owns_litN w2 60 1 9 namesV 0 (Nat.zero_le _) rfl (by decide)
    rw [hW1] at h9
    exact Flat.of_owns h9
  have HS := hid hS
  have HW1 := hid (show w2.alloc (.cells #[.string (BA []), .string (BA (nmL 1)), .string (BA (nmL 2)), .string (BA (nmL 3)), .string (BA (nmL 4)), .string (BA (nmL 5)), .string (BA (nmL 6)), .string (BA (nmL 7)), .string (BA (nmL 8))] 60) = W1 from hW1)
  clear hS hW1
  unfold namesV
  go_wp2_with fail
  rw [HW1.out]
  refine (impl_Index9 _ namesL l _ HS.out).mono ?_
  rintro e w3 ⟨rfl, rfl⟩
  go_wp2
  go_ret
  exact ⟨rfl, hB1⟩
end Go.Proofs.YtikiaffgjpddeaaDoor
