/- AlikePh: the model's and the program's. -/
import Derived.Test.YtjcnoogloncbbaaI4b
import Derived.Deep.RegionHeld3
namespace Go.Proofs.Ytjcnoogloncbbaa
set_option maxRecDepth 100000
open Go.RowKit Go.Proofs Go.Own
set_option linter.unusedVariables false
set_option linter.unusedSimpArgs false
theorem alike_step {xs ys : List Phasor} {k : Nat} (h1 : k < xs.length) (h2 : k < ys.length) : alikeFrom ((xs.map Phasor.rd).drop k) ((ys.map Phasor.rd).drop k) = (eqC xs[k].rd ys[k].rd && alikeFrom ((xs.map Phasor.rd).drop (k+1)) ((ys.map Phasor.rd).drop (k+1))) := by
  rw [drop_rd h1, drop_rd h2]; rfl
theorem eq_yes {x y : Nat} (h : FloatKind.f64.format.order x y = some .eq) : eqR (rd x) (rd y) = true := by unfold eqR; rw [← order_rd, h]; rfl
theorem eq_no {x y : Nat} (h : (FloatKind.f64.format.order x y == some .eq) = false) : eqR (rd x) (rd y) = false := by unfold eqR; rw [← order_rd, h]
set_option maxHeartbeats 4000000 in
theorem spec_AlikePh (v : Value) (xs : List Phasor) (u : Value) (ys : List Phasor) (w : World) (h : Phasors w v xs) (hx : xs.length ≤ 1048576) (g : Phasors w u ys) (hy : ys.length ≤ 1048576) :
    Calls Try.prog 39 #[v, u] w fun e w' => e = .returned (.bool (alikeC (xs.map Phasor.rd) (ys.map Phasor.rd))) ∧ Below w.heap.size w w' := by
  obtain ⟨ad, cap, rfl, hl, hm, hc⟩ := h.open
  obtain ⟨ad2, cap2, rfl, hl2, hm2, hc2⟩ := g.open
  clear h g
  have hlen : xs.length ≤ 9223372036854775807 := by omega
  have hlen2 : ys.length ≤ 9223372036854775807 := by omega
  by_cases he : ¬ xs.length = ys.length
  · have hne : ¬ (xs.length : Int) = (ys.length : Int) := by omega
    have ha : alikeC (xs.map Phasor.rd) (ys.map Phasor.rd) = false := by simp [alikeC, he]
    rw [ha]
    go_enter Try.func39, Try.ntmps39
    go_wp2
    go_ret
    exact ⟨rfl, Below.refl _ _⟩
  have hys : ys.length = xs.length := by omega
  have ha : alikeC (xs.map Phasor.rd) (ys.map Phasor.rd) = alikeFrom (xs.map Phasor.rd) (ys.map Phasor.rd) := by simp [alikeC, hys]
  rw [ha, hys]
  rw [hys] at hl2
  have Hys := hid hys
  clear hys he ha hy hlen2
  go_enter Try.func39, Try.ntmps39
  go_wp2
  go_loopw [5] (fun i wr => ∃ k : Nat, k ≤ xs.length ∧ i = .int .i64 k ∧ Same (alikeFrom ((xs.map Phasor.rd).drop k) ((ys.map Phasor.rd).drop k)) (alikeFrom (xs.map Phasor.rd) (ys.map Phasor.rd)) ∧ Below w.heap.size w wr) (fun i _ => xs.length - (intOf i).toNat)
  case atStart => exact ⟨0, by omega, rfl, .rfl, Below.refl _ _⟩
  case round =>
    obtain ⟨k, hk, rfl, hS, hB⟩ := hrel
    by_cases hlt : k < xs.length
    · have hk2 : k < ys.length := by have := Hys.out; omega
      obtain ⟨bb, off, rfl, hbs, c0, c1⟩ := hc k hlt
      obtain ⟨bb2, off2, rfl, hbs2, d0, d1⟩ := hc2 k hk2
      have kc : ∀ o, wr.cell? ⟨bb, o, none⟩ = w.cell? ⟨bb, o, none⟩ := fun o => hB.cell (p := ⟨bb, o, none⟩) hbs
      have kd : ∀ o, wr.cell? ⟨bb2, o, none⟩ = w.cell? ⟨bb2, o, none⟩ := fun o => hB.cell (p := ⟨bb2, o, none⟩) hbs2
      rw [← kc] at c0 c1
      rw [← kd] at d0 d1
      have hst := hS.out
      rw [alike_step hlt hk2] at hst
      clear hc hc2 kc kd
      rcases bool_cases (FloatKind.f64.format.order xs[k].re_ (ys[k]'hk2).re_ == some .eq) with o0 | o0
      · have o0' : FloatKind.f64.format.order xs[k].re_ (ys[k]'hk2).re_ = some .eq := by simpa using o0.out
        rcases bool_cases (FloatKind.f64.format.order xs[k].im_ (ys[k]'hk2).im_ == some .eq) with o1 | o1
        · have o1' : FloatKind.f64.format.order xs[k].im_ (ys[k]'hk2).im_ = some .eq := by simpa using o1.out
          have hq : eqC xs[k].rd (ys[k]'hk2).rd = true := by simp only [eqC, Phasor.rd, eq_yes o0', eq_yes o1', Bool.and_self]
          clear o0 o1
          go_wp2
          go_quiet (fail)
          go_wp2
          go_roundw
          case rel => exact ⟨k+1, by omega, by go_num, Same.mk (by rw [hq, Bool.true_and] at hst; exact hst), below_drewN hB _⟩
          case measure => simp [intOf]; omega
        · have o1' : (FloatKind.f64.format.order xs[k].im_ (ys[k]'hk2).im_ != some .eq) = true := by simpa using o1.out
          have hq : eqC xs[k].rd (ys[k]'hk2).rd = false := by simp only [eqC, Phasor.rd, eq_yes o0', eq_no o1.out, Bool.and_false]
          clear o0 o1
          go_wp2
          go_quiet (fail)
          go_wp2
          go_ret
          exact ⟨ret_bool (by rw [hq, Bool.false_and] at hst; exact hst), below_drewN hB _⟩
      · have o0' : (FloatKind.f64.format.order xs[k].re_ (ys[k]'hk2).re_ != some .eq) = true := by simpa using o0.out
        have hq : eqC xs[k].rd (ys[k]'hk2).rd = false := by simp only [eqC, Phasor.rd, eq_no o0.out, Bool.false_and]
        clear o0
        go_wp2
        go_quiet (fail)
        go_wp2
        go_ret
        exact ⟨ret_bool (by rw [hq, Bool.false_and] at hst; exact hst), below_drewN hB _⟩
    · have hst := hS.out
      rw [drop_end hlt] at hst
      go_wp2
      go_ret
      exact ⟨ret_bool (by rw [← hst]; rfl), hB⟩
set_option maxHeartbeats 4000000 in
theorem impl_AlikePh (v : Value) (xs : List Phasor) (u : Value) (ys : List Phasor) (w : World) (h : Phasors w v xs) (hx : xs.length ≤ 1048576) (g : Phasors w u ys) (hy : ys.length ≤ 1048576) :
    Calls Try.prog 40 #[v, u] w fun e w' => e = .returned (.bool (alikeC (xs.map Phasor.rd) (ys.map Phasor.rd))) ∧ Below w.heap.size w w' := by
  obtain ⟨ad, cap, rfl, hl, hm, hc⟩ := h.open
  obtain ⟨ad2, cap2, rfl, hl2, hm2, hc2⟩ := g.open
  clear h g
  have hlen : xs.length ≤ 9223372036854775807 := by omega
  have hlen2 : ys.length ≤ 9223372036854775807 := by omega
  by_cases he : ¬ xs.length = ys.length
  · have hne : ¬ (xs.length : Int) = (ys.length : Int) := by omega
    have ha : alikeC (xs.map Phasor.rd) (ys.map Phasor.rd) = false := by simp [alikeC, he]
    rw [ha]
    go_enter Try.func40, Try.ntmps40
    go_wp2
    go_ret
    exact ⟨rfl, Below.refl _ _⟩
  have hys : ys.length = xs.length := by omega
  have ha : alikeC (xs.map Phasor.rd) (ys.map Phasor.rd) = alikeFrom (xs.map Phasor.rd) (ys.map Phasor.rd) := by simp [alikeC, hys]
  rw [ha, hys]
  rw [hys] at hl2
  have Hys := hid hys
  clear hys he ha hy hlen2
  go_enter Try.func40, Try.ntmps40
  go_wp2
  go_loopw [13] (fun i wr => ∃ k : Nat, k ≤ xs.length ∧ i = .int .i64 k ∧ Same (alikeFrom ((xs.map Phasor.rd).drop k) ((ys.map Phasor.rd).drop k)) (alikeFrom (xs.map Phasor.rd) (ys.map Phasor.rd)) ∧ Below w.heap.size w wr) (fun i _ => xs.length - (intOf i).toNat)
  case atStart => exact ⟨0, by omega, rfl, .rfl, Below.refl _ _⟩
  case round =>
    obtain ⟨k, hk, rfl, hS, hB⟩ := hrel
    by_cases hlt : k < xs.length
    · have hk2 : k < ys.length := by have := Hys.out; omega
      obtain ⟨bb, off, rfl, hbs, c0, c1⟩ := hc k hlt
      obtain ⟨bb2, off2, rfl, hbs2, d0, d1⟩ := hc2 k hk2
      have kc : ∀ o, wr.cell? ⟨bb, o, none⟩ = w.cell? ⟨bb, o, none⟩ := fun o => hB.cell (p := ⟨bb, o, none⟩) hbs
      have kd : ∀ o, wr.cell? ⟨bb2, o, none⟩ = w.cell? ⟨bb2, o, none⟩ := fun o => hB.cell (p := ⟨bb2, o, none⟩) hbs2
      rw [← kc] at c0 c1
      rw [← kd] at d0 d1
      have hst := hS.out
      rw [alike_step hlt hk2] at hst
      clear hc hc2 kc kd
      have hi0 : (0 : Int) ≤ (k : Int) := by omega
      have hi1 : (k : Int) < (xs.length : Int) := by omega
      have hl3 : bb < wr.heap.size := Nat.lt_of_lt_of_le hbs hB.size
      have hl4 : bb2 < wr.heap.size := Nat.lt_of_lt_of_le hbs2 hB.size
      have hsz := hB.size
      rcases bool_cases (FloatKind.f64.format.order xs[k].re_ (ys[k]'hk2).re_ == some .eq) with o0 | o0
      · have o0' : FloatKind.f64.format.order xs[k].re_ (ys[k]'hk2).re_ = some .eq := by simpa using o0.out
        rcases bool_cases (FloatKind.f64.format.order xs[k].im_ (ys[k]'hk2).im_ == some .eq) with o1 | o1
        · have o1' : FloatKind.f64.format.order xs[k].im_ (ys[k]'hk2).im_ = some .eq := by simpa using o1.out
          have hq : eqC xs[k].rd (ys[k]'hk2).rd = true := by simp only [eqC, Phasor.rd, eq_yes o0', eq_yes o1', Bool.and_self]
          clear o0 o1
          go_wp2
          go_region_held3 (fun w' => w'.cell? ⟨bb, off + k * 2, none⟩ = some (.float .f64 xs[k].re_) ∧ w'.cell? ⟨bb, off + k * 2 + 1, none⟩ = some (.float .f64 xs[k].im_) ∧ w'.cell? ⟨bb2, off2 + k * 2, none⟩ = some (.float .f64 (ys[k]'hk2).re_) ∧ w'.cell? ⟨bb2, off2 + k * 2 + 1, none⟩ = some (.float .f64 (ys[k]'hk2).im_))
            (exact ⟨keepC hl3 c0 (by repeat (first | exact Below.refl _ _ | refine below_drewN ?_ _ | refine Below.drew ?_ | refine Below.setCell ?_ (by simp; try omega) _ | refine Below.alloc ?_ (by simp; try omega) _)), keepC hl3 c1 (by repeat (first | exact Below.refl _ _ | refine below_drewN ?_ _ | refine Below.drew ?_ | refine Below.setCell ?_ (by simp; try omega) _ | refine Below.alloc ?_ (by simp; try omega) _)), keepC hl4 d0 (by repeat (first | exact Below.refl _ _ | refine below_drewN ?_ _ | refine Below.drew ?_ | refine Below.setCell ?_ (by simp; try omega) _ | refine Below.alloc ?_ (by simp; try omega) _)), keepC hl4 d1 (by repeat (first | exact Below.refl _ _ | refine below_drewN ?_ _ | refine Below.drew ?_ | refine Below.setCell ?_ (by simp; try omega) _ | refine Below.alloc ?_ (by simp; try omega) _))⟩)
            (first | (go_at_call 41; refine (impl_numberOf _ _ _).mono ?_; rintro e w' ⟨rfl, rfl⟩))
          go_wp2
          go_roundw
          case rel => exact ⟨k+1, by omega, by go_num, Same.mk (by rw [hq, Bool.true_and] at hst; exact hst), by repeat (first | exact hB | refine below_drewN ?_ _ | refine Below.drew ?_ | refine Below.alloc ?_ (by first | omega | (simp; omega)) _)⟩
          case measure => simp [intOf]; omega
        · have o1' : (FloatKind.f64.format.order xs[k].im_ (ys[k]'hk2).im_ == some .eq) = false := o1.out
          have hq : eqC xs[k].rd (ys[k]'hk2).rd = false := by simp only [eqC, Phasor.rd, eq_yes o0', eq_no o1.out, Bool.and_false]
          clear o0 o1
          go_wp2
          go_region_held3 (fun w' => w'.cell? ⟨bb, off + k * 2, none⟩ = some (.float .f64 xs[k].re_) ∧ w'.cell? ⟨bb, off + k * 2 + 1, none⟩ = some (.float .f64 xs[k].im_) ∧ w'.cell? ⟨bb2, off2 + k * 2, none⟩ = some (.float .f64 (ys[k]'hk2).re_) ∧ w'.cell? ⟨bb2, off2 + k * 2 + 1, none⟩ = some (.float .f64 (ys[k]'hk2).im_))
            (exact ⟨keepC hl3 c0 (by repeat (first | exact Below.refl _ _ | refine below_drewN ?_ _ | refine Below.drew ?_ | refine Below.setCell ?_ (by simp; try omega) _ | refine Below.alloc ?_ (by simp; try omega) _)), keepC hl3 c1 (by repeat (first | exact Below.refl _ _ | refine below_drewN ?_ _ | refine Below.drew ?_ | refine Below.setCell ?_ (by simp; try omega) _ | refine Below.alloc ?_ (by simp; try omega) _)), keepC hl4 d0 (by repeat (first | exact Below.refl _ _ | refine below_drewN ?_ _ | refine Below.drew ?_ | refine Below.setCell ?_ (by simp; try omega) _ | refine Below.alloc ?_ (by simp; try omega) _)), keepC hl4 d1 (by repeat (first | exact Below.refl _ _ | refine below_drewN ?_ _ | refine Below.drew ?_ | refine Below.setCell ?_ (by simp; try omega) _ | refine Below.alloc ?_ (by simp; try omega) _))⟩)
            (first | (go_at_call 41; refine (impl_numberOf _ _ _).mono ?_; rintro e w' ⟨rfl, rfl⟩))
          go_wp2
          go_ret
          exact ⟨ret_bool (by rw [hq, Bool.false_and] at hst; exact hst), by repeat (first | exact hB | refine below_drewN ?_ _ | refine Below.drew ?_ | refine Below.alloc ?_ (by first | omega | (simp; omega)) _)⟩
      · have o0' : (FloatKind.f64.format.order xs[k].re_ (ys[k]'hk2).re_ == some .eq) = false := o0.out
        have hq : eqC xs[k].rd (ys[k]'hk2).rd = false := by simp only [eqC, Phasor.rd, eq_no o0.out, Bool.false_and]
        clear o0
        go_wp2
        go_region_held3 (fun w' => w'.cell? ⟨bb, off + k * 2, none⟩ = some (.float .f64 xs[k].re_) ∧ w'.cell? ⟨bb, off + k * 2 + 1, none⟩ = some (.float .f64 xs[k].im_) ∧ w'.cell? ⟨bb2, off2 + k * 2, none⟩ = some (.float .f64 (ys[k]'hk2).re_) ∧ w'.cell? ⟨bb2, off2 + k * 2 + 1, none⟩ = some (.float .f64 (ys[k]'hk2).im_))
          (exact ⟨keepC hl3 c0 (by repeat (first | exact Below.refl _ _ | refine below_drewN ?_ _ | refine Below.drew ?_ | refine Below.setCell ?_ (by simp; try omega) _ | refine Below.alloc ?_ (by simp; try omega) _)), keepC hl3 c1 (by repeat (first | exact Below.refl _ _ | refine below_drewN ?_ _ | refine Below.drew ?_ | refine Below.setCell ?_ (by simp; try omega) _ | refine Below.alloc ?_ (by simp; try omega) _)), keepC hl4 d0 (by repeat (first | exact Below.refl _ _ | refine below_drewN ?_ _ | refine Below.drew ?_ | refine Below.setCell ?_ (by simp; try omega) _ | refine Below.alloc ?_ (by simp; try omega) _)), keepC hl4 d1 (by repeat (first | exact Below.refl _ _ | refine below_drewN ?_ _ | refine Below.drew ?_ | refine Below.setCell ?_ (by simp; try omega) _ | refine Below.alloc ?_ (by simp; try omega) _))⟩)
          (first | (go_at_call 41; refine (impl_numberOf _ _ _).mono ?_; rintro e w' ⟨rfl, rfl⟩))
        go_wp2
        go_ret
        exact ⟨ret_bool (by rw [hq, Bool.false_and] at hst; exact hst), by repeat (first | exact hB | refine below_drewN ?_ _ | refine Below.drew ?_ | refine Below.alloc ?_ (by first | omega | (simp; omega)) _)⟩
    · have hst := hS.out
      rw [drop_end hlt] at hst
      go_wp2
      go_ret
      exact ⟨ret_bool (by rw [← hst]; rfl), hB⟩
end Go.Proofs.Ytjcnoogloncbbaa
