/- Chapter 4's model: Turned. -/
import Derived.Test.YtjcnoogloncbbaaS4t
import Derived.Deep.RegionHeld3
namespace Go.Proofs.Ytjcnoogloncbbaa
set_option maxRecDepth 100000
open Go.RowKit Go.Proofs Go.Own
set_option linter.unusedVariables false
set_option linter.unusedSimpArgs false
theorem spec_PhTimes_b (a b c d : Nat) (w : World) :
    Calls Try.prog 19 #[.agg #[.float .f64 a, .float .f64 b], .agg #[.float .f64 c, .float .f64 d]] w fun e w' => ∃ x y, e = .returned (.agg #[.float .f64 x, .float .f64 y]) ∧ (rd x, rd y) = timesR (rd a, rd b) (rd c, rd d) ∧ Below w.heap.size w w' := by
  refine (spec_PhTimes_x a b c d w).mono ?_
  rintro e w' ⟨x, y, n, rfl, h, rfl⟩
  exact ⟨x, y, rfl, h, (by repeat (first | exact Below.refl _ _ | refine below_drewN ?_ _ | refine Below.drew ?_ | refine Below.setCell ?_ (by simp; try omega) _ | refine Below.alloc ?_ (by simp; try omega) _))⟩
theorem in_yes {x a b : Int} (h : a ≤ x ∧ x ≤ b) : inB x a b = true := by simp [inB, h]
theorem in_no {x a b : Int} (h : ¬ (a ≤ x ∧ x ≤ b)) : inB x a b = false := by simp [inB]; omega
set_option maxHeartbeats 16000000 in
theorem spec_Turned0 (v : Value) (xs : List Phasor) (kd at_ fr : Int) (z0 z1 : Nat) (w : World) (h : Phasors w v xs) (hx : xs.length ≤ 1048576) :
    Calls Try.prog 24 #[v, .agg #[.int .i64 kd, .int .i64 at_, .int .i64 fr, .float .f64 z0, .float .f64 z1]] w fun e w' => ∃ (v' : Value) (ys : List Phasor), e = .returned (.tuple #[v', .bool (turnC (xs.map Phasor.rd) kd at_ fr (rd z0, rd z1)).isSome]) ∧ ys.map Phasor.rd = (turnC (xs.map Phasor.rd) kd at_ fr (rd z0, rd z1)).getD (xs.map Phasor.rd) ∧ w'.ownsRow w.heap.size 29 2 v' ys.length (ys.flatMap Phasor.enc) ∧ Below w.heap.size w w' := by
  obtain ⟨W1, hW1⟩ : ∃ X, w.alloc (.cells #[.int .i64 kd, .int .i64 at_, .int .i64 fr, .float .f64 z0, .float .f64 z1] 51) = X := ⟨_, rfl⟩
  have hB1 : Below w.heap.size w W1 := by rw [← hW1]; exact (Below.refl _ _).alloc (Nat.le_refl _) _
  have b0 : Box W1 w.heap.size [.int .i64 kd, .int .i64 at_, .int .i64 fr, .float .f64 z0, .float .f64 z1] := by rw [← hW1]; exact Box.alloc _ _ _
  have hs1 : W1.heap.size = w.heap.size + 1 := by rw [← hW1]; simp
  have h1 := Flat.below h hB1
  obtain ⟨ad, cap, rfl, hl, hm, hc⟩ := Phasors.open h1
  have hlen : xs.length ≤ 9223372036854775807 := by omega
  have hml : (xs.map Phasor.rd).length = xs.length := List.length_map _
  go_enter Try.func24, Try.ntmps24
  go_wp2_with fail
  clear hW1 h
  refine (spec_l4Copy _ xs _ h1 hx).mono ?_
  rintro e w2 ⟨v', rfl, o, b2⟩
  replace b0 := b0.below b2
  have hB2 : Below w.heap.size w w2 := hB1.trans (b2.mono (by omega))
  have hs2 := b2.size
  have hlt0 : w.heap.size < w2.heap.size := by omega
  have k0 : w2.cell? ⟨w.heap.size, 0, none⟩ = some (.int .i64 kd) := b0.2 0 (by simp)
  have k1 : w2.cell? ⟨w.heap.size, 1, none⟩ = some (.int .i64 at_) := b0.2 1 (by simp)
  have k2 : w2.cell? ⟨w.heap.size, 2, none⟩ = some (.int .i64 fr) := b0.2 2 (by simp)
  have k3 : w2.cell? ⟨w.heap.size, 3, none⟩ = some (.float .f64 z0) := b0.2 3 (by simp)
  have k4 : w2.cell? ⟨w.heap.size, 4, none⟩ = some (.float .f64 z1) := b0.2 4 (by simp)
  by_cases g0 : (12 : Int) ≤ (xs.length : Int) - 1
  · clear b0
    have hno : turnC (xs.map Phasor.rd) kd at_ fr (rd z0, rd z1) = none := turn_far (by omega)
    clear hc
    go_wp2_with (first | (go_at_call 48; refine (spec_l1In _ _ _ _).mono ?_; rintro e w' ⟨rfl, rfl⟩) | (go_at_call 19; refine (spec_PhTimes_x _ _ _ _ _).mono ?_; rintro e w' ⟨x, y, n, rfl, hq, rfl⟩))
    go_ret2
    exact ⟨_, xs, by rw [hno]; rfl, by rw [hno]; rfl, owns_mono o (by omega), hB2⟩
  by_cases g1 : ¬ (1 ≤ kd ∧ kd ≤ 6)
  · have q1 := in_no g1
    have hno : turnC (xs.map Phasor.rd) kd at_ fr (rd z0, rd z1) = none := turn_kind g1
    clear hc
    go_wp2_with (first | (go_at_call 48; refine (spec_l1In _ _ _ _).mono ?_; rintro e w' ⟨rfl, rfl⟩) | (go_at_call 19; refine (spec_PhTimes_x _ _ _ _ _).mono ?_; rintro e w' ⟨x, y, n, rfl, hq, rfl⟩))
    go_ret2
    exact ⟨_, xs, by rw [hno]; rfl, by rw [hno]; rfl, owns_mono o (by omega), hB2⟩
  by_cases g2 : ¬ (0 ≤ at_ ∧ at_ ≤ (xs.length : Int) - 1)
  · have q1 := in_yes (Decidable.not_not.1 g1)
    have q2 := in_no g2
    have hno : turnC (xs.map Phasor.rd) kd at_ fr (rd z0, rd z1) = none := turn_far (by omega)
    clear hc
    go_wp2_with (first | (go_at_call 48; refine (spec_l1In _ _ _ _).mono ?_; rintro e w' ⟨rfl, rfl⟩) | (go_at_call 19; refine (spec_PhTimes_x _ _ _ _ _).mono ?_; rintro e w' ⟨x, y, n, rfl, hq, rfl⟩))
    go_ret2
    exact ⟨_, xs, by rw [hno]; rfl, by rw [hno]; rfl, owns_mono o (by omega), hB2⟩
  by_cases g3 : kd = 6 ∧ ¬ (0 ≤ fr ∧ fr ≤ (xs.length : Int) - 1)
  · obtain ⟨g6, g3⟩ := g3
    subst g6
    have q1 := in_yes (Decidable.not_not.1 g1)
    have q2 := in_yes (Decidable.not_not.1 g2)
    have q3 := in_no g3
    have hno : turnC (xs.map Phasor.rd) 6 at_ fr (rd z0, rd z1) = none := turn_from rfl (by omega)
    clear hc
    go_wp2_with (first | (go_at_call 48; refine (spec_l1In _ _ _ _).mono ?_; rintro e w' ⟨rfl, rfl⟩) | (go_at_call 19; refine (spec_PhTimes_x _ _ _ _ _).mono ?_; rintro e w' ⟨x, y, n, rfl, hq, rfl⟩))
    go_ret2
    exact ⟨_, xs, by rw [hno]; rfl, by rw [hno]; rfl, owns_mono o (by omega), hB2⟩
  obtain ⟨a, rfl⟩ := Int.eq_ofNat_of_zero_le (by omega : 0 ≤ at_)
  have ha : a < xs.length := by omega
  have h12 : (xs.map Phasor.rd).length ≤ 12 := by omega
  have ham : a < (xs.map Phasor.rd).length := by omega
  have q2 := in_yes (Decidable.not_not.1 g2)
  have i0 : (0 : Int) ≤ (a : Int) := by omega
  have i1 : (a : Int) < (xs.length : Int) := by omega
  have hy := turn_in (kd := kd) (fr := fr) (z := (rd z0, rd z1)) h12 ham
  rw [map_getD ha] at hy
  obtain ⟨g, c, rfl, hgb, hgl, _, hnc, hcm, p0, p1, f0, f1⟩ := row_cells o a ha
  obtain ⟨bb, off, rfl, hbs, c0, c1⟩ := hc a ha
  rw [← b2.cell (p := ⟨bb, off + a * 2, none⟩) hbs] at c0
  rw [← b2.cell (p := ⟨bb, off + a * 2 + 1, none⟩) hbs] at c1
  have hbl : bb < w2.heap.size := by omega
  have nb : ¬ bb = w2.heap.size := by omega
  have ng : ¬ g = w2.heap.size := by omega
  have n0 : ¬ w.heap.size = w2.heap.size := by omega
  have nbg : ¬ bb = g := by omega
  have n0g : ¬ w.heap.size = g := by omega
  have ng' : ¬ w2.heap.size = g := by omega
  have l01 : w.heap.size < w2.heap.size + 1 := by omega
  have l02 : w.heap.size < w2.heap.size + 1 + 1 := by omega
  have l03 : w.heap.size < w2.heap.size + 1 + 1 + 1 := by omega
  have l04 : w.heap.size < w2.heap.size + 1 + 1 + 1 + 1 := by omega
  have lg1 : g < w2.heap.size + 1 := by omega
  have lg2 : g < w2.heap.size + 1 + 1 := by omega
  have lg3 : g < w2.heap.size + 1 + 1 + 1 := by omega
  have lg4 : g < w2.heap.size + 1 + 1 + 1 + 1 := by omega
  have lb1 : bb < w2.heap.size + 1 := by omega
  have lb2 : bb < w2.heap.size + 1 + 1 := by omega
  have lb3 : bb < w2.heap.size + 1 + 1 + 1 := by omega
  have lb4 : bb < w2.heap.size + 1 + 1 + 1 + 1 := by omega
  by_cases g4 : kd = 1
  · obtain rfl : kd = 1 := g4
    have q1 : inB 1 1 6 = true := by decide
    rw [if_pos rfl] at hy
    clear hc
    go_wp2_with (first | (go_at_call 48; refine (spec_l1In _ _ _ _).mono ?_; rintro e w' ⟨rfl, rfl⟩) | (go_at_call 19; refine (spec_PhTimes_x _ _ _ _ _).mono ?_; rintro e w' ⟨x, y, n, rfl, hq, rfl⟩))
    go_ret2
    exact turned_fin hy (World.ownsRow.alloc (row_put o a ha _ _) _) rfl (by omega) (by repeat (first | exact hB2 | refine below_drewN ?_ _ | refine Below.drew ?_ | refine Below.setCell ?_ (by show w.heap.size ≤ g; omega) _ | refine below_alloc ?_ _)) (rfl)
  by_cases g4 : kd = 2
  · obtain rfl : kd = 2 := g4
    have q1 : inB 2 1 6 = true := by decide
    simp only [if_true, if_false, show ¬ (2 : Int) = 1 by decide] at hy
    clear hc
    go_wp2_with (first | (go_at_call 48; refine (spec_l1In _ _ _ _).mono ?_; rintro e w' ⟨rfl, rfl⟩) | (go_at_call 19; refine (spec_PhTimes_x _ _ _ _ _).mono ?_; rintro e w' ⟨x, y, n, rfl, hq, rfl⟩))
    go_ret2
    exact turned_fin hy (owns_drewN (World.ownsRow.alloc (row_put o a ha _ _) _) _) rfl (by omega) (by repeat (first | exact hB2 | refine below_drewN ?_ _ | refine Below.drew ?_ | refine Below.setCell ?_ (by show w.heap.size ≤ g; omega) _ | refine below_alloc ?_ _)) (by simp only [rd_add, rd_neg, plusR, barR, Phasor.rd])
  by_cases g4 : kd = 5
  · obtain rfl : kd = 5 := g4
    have q1 : inB 5 1 6 = true := by decide
    simp only [if_true, if_false, show ¬ (5 : Int) = 1 by decide, show ¬ (5 : Int) = 2 by decide, show ¬ (5 : Int) = 3 by decide, show ¬ (5 : Int) = 4 by decide] at hy
    clear hc
    go_wp2_with (first | (go_at_call 48; refine (spec_l1In _ _ _ _).mono ?_; rintro e w' ⟨rfl, rfl⟩) | (go_at_call 19; refine (spec_PhTimes_x _ _ _ _ _).mono ?_; rintro e w' ⟨x, y, n, rfl, hq, rfl⟩))
    go_ret2
    exact turned_fin hy (World.ownsRow.alloc (row_put o a ha _ _) _) rfl (by omega) (by repeat (first | exact hB2 | refine below_drewN ?_ _ | refine Below.drew ?_ | refine Below.setCell ?_ (by show w.heap.size ≤ g; omega) _ | refine below_alloc ?_ _)) (by simp only [rd_add, rd_neg, plusR, barR, Phasor.rd])
  by_cases g4 : kd = 3
  · obtain rfl : kd = 3 := g4
    have q1 : inB 3 1 6 = true := by decide
    simp only [if_true, if_false, show ¬ (3 : Int) = 1 by decide, show ¬ (3 : Int) = 2 by decide] at hy
    obtain ⟨W3, hW3⟩ : ∃ X, w2.alloc (.cells #[.float .f64 xs[a].re_, .float .f64 xs[a].im_] 29) = X := ⟨_, rfl⟩
    have b23 : Below w2.heap.size w2 W3 := by rw [← hW3]; exact (Below.refl _ _).alloc (Nat.le_refl _) _
    have b3 : Box W3 w2.heap.size [.float .f64 xs[a].re_, .float .f64 xs[a].im_] := by rw [← hW3]; exact Box.alloc _ _ _
    have hs3 : W3.heap.size = w2.heap.size + 1 := by rw [← hW3]; simp
    have hB3 : Below w.heap.size w W3 := hB2.trans (b23.mono (by omega))
    have o3 := owns_below o b23
    have m0 := (b0.below b23).2 0 (by simp)
    have m1 := (b0.below b23).2 1 (by simp)
    have m2 := (b0.below b23).2 2 (by simp)
    have m3 := (b0.below b23).2 3 (by simp)
    have m4 := (b0.below b23).2 4 (by simp)
    simp only [List.getElem?_cons_zero, List.getElem?_cons_succ] at m0 m1 m2 m3 m4
    have s0 : W3.cell? ⟨w2.heap.size, 0, none⟩ = some (.float .f64 xs[a].re_) := b3.2 0 (by simp)
    have s1 : W3.cell? ⟨w2.heap.size, 1, none⟩ = some (.float .f64 xs[a].im_) := b3.2 1 (by simp)
    have r0 := (b23.cell (p := ⟨g, a * 2, none⟩) hgl).trans p0
    have r1 := (b23.cell (p := ⟨g, a * 2 + 1, none⟩) hgl).trans p1
    have rf0 := (b23.frozen (p := ⟨g, a * 2, none⟩) hgl).trans f0
    have rf1 := (b23.frozen (p := ⟨g, a * 2 + 1, none⟩) hgl).trans f1
    have t00 : w.heap.size < W3.heap.size := by omega
    have t01 : w.heap.size < W3.heap.size + 1 := by omega
    have t02 : w.heap.size < W3.heap.size + 1 + 1 := by omega
    have t03 : w.heap.size < W3.heap.size + 1 + 1 + 1 := by omega
    have tg0 : g < W3.heap.size := by omega
    have tg1 : g < W3.heap.size + 1 := by omega
    have tg2 : g < W3.heap.size + 1 + 1 := by omega
    have tg3 : g < W3.heap.size + 1 + 1 + 1 := by omega
    have tb0 : bb < W3.heap.size := by omega
    have tb1 : bb < W3.heap.size + 1 := by omega
    have tb2 : bb < W3.heap.size + 1 + 1 := by omega
    have tb3 : bb < W3.heap.size + 1 + 1 + 1 := by omega
    have t20 : w2.heap.size < W3.heap.size := by omega
    have t21 : w2.heap.size < W3.heap.size + 1 := by omega
    have t22 : w2.heap.size < W3.heap.size + 1 + 1 := by omega
    have t23 : w2.heap.size < W3.heap.size + 1 + 1 + 1 := by omega
    have x0 : ¬ w.heap.size = W3.heap.size := by omega
    have x0_1 : ¬ w.heap.size = W3.heap.size + 1 := by omega
    have x0_2 : ¬ w.heap.size = W3.heap.size + 1 + 1 := by omega
    have x0_3 : ¬ w.heap.size = W3.heap.size + 1 + 1 + 1 := by omega
    have xg : ¬ g = W3.heap.size := by omega
    have xg_1 : ¬ g = W3.heap.size + 1 := by omega
    have xg_2 : ¬ g = W3.heap.size + 1 + 1 := by omega
    have xg_3 : ¬ g = W3.heap.size + 1 + 1 + 1 := by omega
    have xb : ¬ bb = W3.heap.size := by omega
    have xb_1 : ¬ bb = W3.heap.size + 1 := by omega
    have xb_2 : ¬ bb = W3.heap.size + 1 + 1 := by omega
    have xb_3 : ¬ bb = W3.heap.size + 1 + 1 + 1 := by omega
    have x2 : ¬ w2.heap.size = W3.heap.size := by omega
    have x2_1 : ¬ w2.heap.size = W3.heap.size + 1 := by omega
    have x2_2 : ¬ w2.heap.size = W3.heap.size + 1 + 1 := by omega
    have x2_3 : ¬ w2.heap.size = W3.heap.size + 1 + 1 + 1 := by omega
    clear hc h1 l01 lg1 lb1 l02 lg2 lb2 l03 lg3 lb3 l04 lg4 lb4 b0 b3 hbs
    go_wp2_with (first | (go_at_call 48; refine (spec_l1In _ _ _ _).mono ?_; rintro e w' ⟨rfl, rfl⟩) | (go_at_call 19; refine (spec_PhTimes_x _ _ _ _ _).mono ?_; rintro e w' ⟨x, y, n, rfl, hq, rfl⟩))
    go_region_held3 (fun w' => w'.cell? ⟨w.heap.size, 1, none⟩ = some (.int .i64 (a : Int)) ∧ w'.cell? ⟨w2.heap.size, 0, none⟩ = some (.float .f64 xs[a].re_) ∧ w'.cell? ⟨w2.heap.size, 1, none⟩ = some (.float .f64 xs[a].im_) ∧ w'.cell? ⟨w.heap.size, 3, none⟩ = some (.float .f64 z0) ∧ w'.cell? ⟨w.heap.size, 4, none⟩ = some (.float .f64 z1)) (exact ⟨g_cell (by repeat (first | exact g_refl _ _ | refine grownBy_drewN ?_ _ | refine g_drew ?_ | refine g_set ?_ _ _ | refine g_alloc ?_ _ | refine g_below ?_ (by assumption))) t00 n0g m1, g_cell (by repeat (first | exact g_refl _ _ | refine grownBy_drewN ?_ _ | refine g_drew ?_ | refine g_set ?_ _ _ | refine g_alloc ?_ _ | refine g_below ?_ (by assumption))) t20 ng' s0, g_cell (by repeat (first | exact g_refl _ _ | refine grownBy_drewN ?_ _ | refine g_drew ?_ | refine g_set ?_ _ _ | refine g_alloc ?_ _ | refine g_below ?_ (by assumption))) t20 ng' s1, g_cell (by repeat (first | exact g_refl _ _ | refine grownBy_drewN ?_ _ | refine g_drew ?_ | refine g_set ?_ _ _ | refine g_alloc ?_ _ | refine g_below ?_ (by assumption))) t00 n0g m3, g_cell (by repeat (first | exact g_refl _ _ | refine grownBy_drewN ?_ _ | refine g_drew ?_ | refine g_set ?_ _ _ | refine g_alloc ?_ _ | refine g_below ?_ (by assumption))) t00 n0g m4⟩)
      (first | (go_at_call 19; refine (spec_PhTimes_b _ _ _ _ _).mono ?_; rintro e w9 ⟨x, y, rfl, hq, b9⟩; have v0 := (b9.cell (p := ⟨g, a * 2, none⟩) tg0).trans r0; have v1 := (b9.cell (p := ⟨g, a * 2 + 1, none⟩) tg0).trans r1; have vf0 := (b9.frozen (p := ⟨g, a * 2, none⟩) tg0).trans rf0; have vf1 := (b9.frozen (p := ⟨g, a * 2 + 1, none⟩) tg0).trans rf1))
    have o9 := owns_below (w := W3.drew) o3 b9
    have hB9 : Below w.heap.size w w9 := hB3.drew.trans (b9.mono (by show w.heap.size ≤ W3.heap.size; omega))
    all_goals go_wp2
    all_goals go_ret2
    all_goals exact turned_fin hy (row_put o9 a ha _ _) rfl (by omega) (by repeat (first | exact hB9 | refine below_drewN ?_ _ | refine Below.drew ?_ | refine Below.setCell ?_ (by show w.heap.size ≤ g; omega) _ | refine below_alloc ?_ _)) (hq)
  by_cases g4 : kd = 4
  · obtain rfl : kd = 4 := g4
    have q1 : inB 4 1 6 = true := by decide
    simp only [if_true, if_false, show ¬ (4 : Int) = 1 by decide, show ¬ (4 : Int) = 2 by decide, show ¬ (4 : Int) = 3 by decide] at hy
    obtain ⟨W3, hW3⟩ : ∃ X, w2.alloc (.cells #[.float .f64 xs[a].re_, .float .f64 xs[a].im_] 29) = X := ⟨_, rfl⟩
    have b23 : Below w2.heap.size w2 W3 := by rw [← hW3]; exact (Below.refl _ _).alloc (Nat.le_refl _) _
    have b3 : Box W3 w2.heap.size [.float .f64 xs[a].re_, .float .f64 xs[a].im_] := by rw [← hW3]; exact Box.alloc _ _ _
    have hs3 : W3.heap.size = w2.heap.size + 1 := by rw [← hW3]; simp
    have hB3 : Below w.heap.size w W3 := hB2.trans (b23.mono (by omega))
    have o3 := owns_below o b23
    have m0 := (b0.below b23).2 0 (by simp)
    have m1 := (b0.below b23).2 1 (by simp)
    have m2 := (b0.below b23).2 2 (by simp)
    have m3 := (b0.below b23).2 3 (by simp)
    have m4 := (b0.below b23).2 4 (by simp)
    simp only [List.getElem?_cons_zero, List.getElem?_cons_succ] at m0 m1 m2 m3 m4
    have s0 : W3.cell? ⟨w2.heap.size, 0, none⟩ = some (.float .f64 xs[a].re_) := b3.2 0 (by simp)
    have s1 : W3.cell? ⟨w2.heap.size, 1, none⟩ = some (.float .f64 xs[a].im_) := b3.2 1 (by simp)
    have r0 := (b23.cell (p := ⟨g, a * 2, none⟩) hgl).trans p0
    have r1 := (b23.cell (p := ⟨g, a * 2 + 1, none⟩) hgl).trans p1
    have rf0 := (b23.frozen (p := ⟨g, a * 2, none⟩) hgl).trans f0
    have rf1 := (b23.frozen (p := ⟨g, a * 2 + 1, none⟩) hgl).trans f1
    have t00 : w.heap.size < W3.heap.size := by omega
    have t01 : w.heap.size < W3.heap.size + 1 := by omega
    have t02 : w.heap.size < W3.heap.size + 1 + 1 := by omega
    have t03 : w.heap.size < W3.heap.size + 1 + 1 + 1 := by omega
    have tg0 : g < W3.heap.size := by omega
    have tg1 : g < W3.heap.size + 1 := by omega
    have tg2 : g < W3.heap.size + 1 + 1 := by omega
    have tg3 : g < W3.heap.size + 1 + 1 + 1 := by omega
    have tb0 : bb < W3.heap.size := by omega
    have tb1 : bb < W3.heap.size + 1 := by omega
    have tb2 : bb < W3.heap.size + 1 + 1 := by omega
    have tb3 : bb < W3.heap.size + 1 + 1 + 1 := by omega
    have t20 : w2.heap.size < W3.heap.size := by omega
    have t21 : w2.heap.size < W3.heap.size + 1 := by omega
    have t22 : w2.heap.size < W3.heap.size + 1 + 1 := by omega
    have t23 : w2.heap.size < W3.heap.size + 1 + 1 + 1 := by omega
    have x0 : ¬ w.heap.size = W3.heap.size := by omega
    have x0_1 : ¬ w.heap.size = W3.heap.size + 1 := by omega
    have x0_2 : ¬ w.heap.size = W3.heap.size + 1 + 1 := by omega
    have x0_3 : ¬ w.heap.size = W3.heap.size + 1 + 1 + 1 := by omega
    have xg : ¬ g = W3.heap.size := by omega
    have xg_1 : ¬ g = W3.heap.size + 1 := by omega
    have xg_2 : ¬ g = W3.heap.size + 1 + 1 := by omega
    have xg_3 : ¬ g = W3.heap.size + 1 + 1 + 1 := by omega
    have xb : ¬ bb = W3.heap.size := by omega
    have xb_1 : ¬ bb = W3.heap.size + 1 := by omega
    have xb_2 : ¬ bb = W3.heap.size + 1 + 1 := by omega
    have xb_3 : ¬ bb = W3.heap.size + 1 + 1 + 1 := by omega
    have x2 : ¬ w2.heap.size = W3.heap.size := by omega
    have x2_1 : ¬ w2.heap.size = W3.heap.size + 1 := by omega
    have x2_2 : ¬ w2.heap.size = W3.heap.size + 1 + 1 := by omega
    have x2_3 : ¬ w2.heap.size = W3.heap.size + 1 + 1 + 1 := by omega
    clear hc h1 l01 lg1 lb1 l02 lg2 lb2 l03 lg3 lb3 l04 lg4 lb4 b0 b3 hbs
    go_wp2_with (first | (go_at_call 48; refine (spec_l1In _ _ _ _).mono ?_; rintro e w' ⟨rfl, rfl⟩) | (go_at_call 19; refine (spec_PhTimes_x _ _ _ _ _).mono ?_; rintro e w' ⟨x, y, n, rfl, hq, rfl⟩))
    refine (spec_PhOver _ _ _ _ _).mono ?_
    rintro e w9 ⟨x, y, rfl, hq, b9⟩
    have hB9 : Below w.heap.size w w9 := hB3.trans (b9.mono (by omega))
    have o9 := owns_below o3 b9
    have hs9 := b9.size
    have y1 := (b9.cell (p := ⟨w.heap.size, 1, none⟩) t00).trans m1
    have v0 := (b9.cell (p := ⟨g, a * 2, none⟩) tg0).trans r0
    have v1 := (b9.cell (p := ⟨g, a * 2 + 1, none⟩) tg0).trans r1
    have vf0 := (b9.frozen (p := ⟨g, a * 2, none⟩) tg0).trans rf0
    have vf1 := (b9.frozen (p := ⟨g, a * 2 + 1, none⟩) tg0).trans rf1
    have u0 : w.heap.size < w9.heap.size := by omega
    have u1 : g < w9.heap.size := by omega
    have u2 : ¬ w.heap.size = w9.heap.size := by omega
    have u3 : ¬ g = w9.heap.size := by omega
    have u4 : ¬ w9.heap.size = g := by omega
    rcases bool_cases (overOk (rd xs[a].re_, rd xs[a].im_) (rd z0, rd z1)) with hv | hv
    · have hv1 := hv.out
      rw [if_pos (show overOk xs[a].rd (rd z0, rd z1) = true from hv1)] at hy
      have hov := over_yes hv1
      have ho2 : (overC (rd xs[a].re_, rd xs[a].im_) (rd z0, rd z1)).2 = true := by rw [hov]
      rw [hov] at hq
      go_wp2
      go_ret2
      exact turned_fin hy (World.ownsRow.alloc (row_put o9 a ha _ _) _) rfl (by omega) (by repeat (first | exact hB9 | refine below_drewN ?_ _ | refine Below.drew ?_ | refine Below.setCell ?_ (by show w.heap.size ≤ g; omega) _ | refine below_alloc ?_ _)) (hq)
    · have hv1 := hv.out
      rw [if_neg (by rw [show overOk xs[a].rd (rd z0, rd z1) = overOk (rd xs[a].re_, rd xs[a].im_) (rd z0, rd z1) from rfl, hv1]; decide)] at hy
      have ho2 : (overC (rd xs[a].re_, rd xs[a].im_) (rd z0, rd z1)).2 = false := by rw [over_no hv1]
      go_wp2
      go_ret2
      exact ⟨_, xs, by rw [hy]; rfl, by rw [hy]; rfl, owns_mono (World.ownsRow.alloc o9 _) (by omega), by repeat (first | exact hB9 | refine below_drewN ?_ _ | refine Below.drew ?_ | refine Below.setCell ?_ (by show w.heap.size ≤ g; omega) _ | refine below_alloc ?_ _)⟩
  have g4 : kd = 6 := by omega
  obtain rfl : kd = 6 := g4
  have q1 : inB 6 1 6 = true := by decide
  simp only [if_true, if_false, show ¬ (6 : Int) = 1 by decide, show ¬ (6 : Int) = 2 by decide, show ¬ (6 : Int) = 3 by decide, show ¬ (6 : Int) = 4 by decide, show ¬ (6 : Int) = 5 by decide] at hy
  have g5 := Decidable.not_not.1 (fun hf => g3 ⟨rfl, hf⟩)
  have q3 := in_yes g5
  obtain ⟨b, rfl⟩ := Int.eq_ofNat_of_zero_le (by omega : 0 ≤ fr)
  have hb : b < xs.length := by omega
  rw [if_pos (by omega), show ((b : Int)).toNat = b from rfl, map_getD hb] at hy
  have j0 : (0 : Int) ≤ (b : Int) := by omega
  have j1 : (b : Int) < (xs.length : Int) := by omega
  obtain ⟨bb', off', hbe, _, d0, d1⟩ := hc b hb
  obtain ⟨rfl, rfl⟩ : bb = bb' ∧ off = off' := by have := Option.some.inj hbe; exact ⟨(Addr.mk.inj this).1, (Addr.mk.inj this).2.1⟩
  rw [← b2.cell (p := ⟨bb, off + b * 2, none⟩) hbs] at d0
  rw [← b2.cell (p := ⟨bb, off + b * 2 + 1, none⟩) hbs] at d1
  obtain ⟨W3, hW3⟩ : ∃ X, w2.alloc (.cells #[.float .f64 xs[a].re_, .float .f64 xs[a].im_] 29) = X := ⟨_, rfl⟩
  have b23 : Below w2.heap.size w2 W3 := by rw [← hW3]; exact (Below.refl _ _).alloc (Nat.le_refl _) _
  have b3 : Box W3 w2.heap.size [.float .f64 xs[a].re_, .float .f64 xs[a].im_] := by rw [← hW3]; exact Box.alloc _ _ _
  have hs3 : W3.heap.size = w2.heap.size + 1 := by rw [← hW3]; simp
  have hB3 : Below w.heap.size w W3 := hB2.trans (b23.mono (by omega))
  have o3 := owns_below o b23
  have m0 := (b0.below b23).2 0 (by simp)
  have m1 := (b0.below b23).2 1 (by simp)
  have m2 := (b0.below b23).2 2 (by simp)
  have m3 := (b0.below b23).2 3 (by simp)
  have m4 := (b0.below b23).2 4 (by simp)
  simp only [List.getElem?_cons_zero, List.getElem?_cons_succ] at m0 m1 m2 m3 m4
  have s0 : W3.cell? ⟨w2.heap.size, 0, none⟩ = some (.float .f64 xs[a].re_) := b3.2 0 (by simp)
  have s1 : W3.cell? ⟨w2.heap.size, 1, none⟩ = some (.float .f64 xs[a].im_) := b3.2 1 (by simp)
  have r0 := (b23.cell (p := ⟨g, a * 2, none⟩) hgl).trans p0
  have r1 := (b23.cell (p := ⟨g, a * 2 + 1, none⟩) hgl).trans p1
  have rf0 := (b23.frozen (p := ⟨g, a * 2, none⟩) hgl).trans f0
  have rf1 := (b23.frozen (p := ⟨g, a * 2 + 1, none⟩) hgl).trans f1
  have t00 : w.heap.size < W3.heap.size := by omega
  have t01 : w.heap.size < W3.heap.size + 1 := by omega
  have t02 : w.heap.size < W3.heap.size + 1 + 1 := by omega
  have t03 : w.heap.size < W3.heap.size + 1 + 1 + 1 := by omega
  have tg0 : g < W3.heap.size := by omega
  have tg1 : g < W3.heap.size + 1 := by omega
  have tg2 : g < W3.heap.size + 1 + 1 := by omega
  have tg3 : g < W3.heap.size + 1 + 1 + 1 := by omega
  have tb0 : bb < W3.heap.size := by omega
  have tb1 : bb < W3.heap.size + 1 := by omega
  have tb2 : bb < W3.heap.size + 1 + 1 := by omega
  have tb3 : bb < W3.heap.size + 1 + 1 + 1 := by omega
  have t20 : w2.heap.size < W3.heap.size := by omega
  have t21 : w2.heap.size < W3.heap.size + 1 := by omega
  have t22 : w2.heap.size < W3.heap.size + 1 + 1 := by omega
  have t23 : w2.heap.size < W3.heap.size + 1 + 1 + 1 := by omega
  have x0 : ¬ w.heap.size = W3.heap.size := by omega
  have x0_1 : ¬ w.heap.size = W3.heap.size + 1 := by omega
  have x0_2 : ¬ w.heap.size = W3.heap.size + 1 + 1 := by omega
  have x0_3 : ¬ w.heap.size = W3.heap.size + 1 + 1 + 1 := by omega
  have xg : ¬ g = W3.heap.size := by omega
  have xg_1 : ¬ g = W3.heap.size + 1 := by omega
  have xg_2 : ¬ g = W3.heap.size + 1 + 1 := by omega
  have xg_3 : ¬ g = W3.heap.size + 1 + 1 + 1 := by omega
  have xb : ¬ bb = W3.heap.size := by omega
  have xb_1 : ¬ bb = W3.heap.size + 1 := by omega
  have xb_2 : ¬ bb = W3.heap.size + 1 + 1 := by omega
  have xb_3 : ¬ bb = W3.heap.size + 1 + 1 + 1 := by omega
  have x2 : ¬ w2.heap.size = W3.heap.size := by omega
  have x2_1 : ¬ w2.heap.size = W3.heap.size + 1 := by omega
  have x2_2 : ¬ w2.heap.size = W3.heap.size + 1 + 1 := by omega
  have x2_3 : ¬ w2.heap.size = W3.heap.size + 1 + 1 + 1 := by omega
  have e0 := (b23.cell (p := ⟨bb, off + b * 2, none⟩) hbl).trans d0
  have e1 := (b23.cell (p := ⟨bb, off + b * 2 + 1, none⟩) hbl).trans d1
  clear hc h1 l01 lg1 lb1 l02 lg2 lb2 l03 lg3 lb3 l04 lg4 lb4 b0 b3 hbs
  go_wp2_with (first | (go_at_call 48; refine (spec_l1In _ _ _ _).mono ?_; rintro e w' ⟨rfl, rfl⟩) | (go_at_call 19; refine (spec_PhTimes_x _ _ _ _ _).mono ?_; rintro e w' ⟨x, y, n, rfl, hq, rfl⟩))
  go_region_held3 (fun w' => w'.cell? ⟨w.heap.size, 1, none⟩ = some (.int .i64 (a : Int)) ∧ w'.cell? ⟨w2.heap.size, 0, none⟩ = some (.float .f64 xs[a].re_) ∧ w'.cell? ⟨w2.heap.size, 1, none⟩ = some (.float .f64 xs[a].im_) ∧ w'.cell? ⟨w.heap.size, 2, none⟩ = some (.int .i64 (b : Int)) ∧ w'.cell? ⟨bb, off + b * 2, none⟩ = some (.float .f64 xs[b].re_) ∧ w'.cell? ⟨bb, off + b * 2 + 1, none⟩ = some (.float .f64 xs[b].im_)) (exact ⟨g_cell (by repeat (first | exact g_refl _ _ | refine grownBy_drewN ?_ _ | refine g_drew ?_ | refine g_set ?_ _ _ | refine g_alloc ?_ _ | refine g_below ?_ (by assumption))) t00 n0g m1, g_cell (by repeat (first | exact g_refl _ _ | refine grownBy_drewN ?_ _ | refine g_drew ?_ | refine g_set ?_ _ _ | refine g_alloc ?_ _ | refine g_below ?_ (by assumption))) t20 ng' s0, g_cell (by repeat (first | exact g_refl _ _ | refine grownBy_drewN ?_ _ | refine g_drew ?_ | refine g_set ?_ _ _ | refine g_alloc ?_ _ | refine g_below ?_ (by assumption))) t20 ng' s1, g_cell (by repeat (first | exact g_refl _ _ | refine grownBy_drewN ?_ _ | refine g_drew ?_ | refine g_set ?_ _ _ | refine g_alloc ?_ _ | refine g_below ?_ (by assumption))) t00 n0g m2, g_cell (by repeat (first | exact g_refl _ _ | refine grownBy_drewN ?_ _ | refine g_drew ?_ | refine g_set ?_ _ _ | refine g_alloc ?_ _ | refine g_below ?_ (by assumption))) tb0 nbg e0, g_cell (by repeat (first | exact g_refl _ _ | refine grownBy_drewN ?_ _ | refine g_drew ?_ | refine g_set ?_ _ _ | refine g_alloc ?_ _ | refine g_below ?_ (by assumption))) tb0 nbg e1⟩)
    (first | (go_at_call 19; refine (spec_PhTimes_b _ _ _ _ _).mono ?_; rintro e w9 ⟨x, y, rfl, hq, b9⟩; have v0 := (b9.cell (p := ⟨g, a * 2, none⟩) tg0).trans r0; have v1 := (b9.cell (p := ⟨g, a * 2 + 1, none⟩) tg0).trans r1; have vf0 := (b9.frozen (p := ⟨g, a * 2, none⟩) tg0).trans rf0; have vf1 := (b9.frozen (p := ⟨g, a * 2 + 1, none⟩) tg0).trans rf1))
  have o9 := owns_below (w := W3.drew) o3 b9
  have hB9 : Below w.heap.size w w9 := hB3.drew.trans (b9.mono (by show w.heap.size ≤ W3.heap.size; omega))
  all_goals go_wp2
  all_goals go_ret2
  all_goals exact turned_fin hy (row_put o9 a ha _ _) rfl (by omega) (by repeat (first | exact hB9 | refine below_drewN ?_ _ | refine Below.drew ?_ | refine Below.setCell ?_ (by show w.heap.size ≤ g; omega) _ | refine below_alloc ?_ _)) (hq)
end Go.Proofs.Ytjcnoogloncbbaa
