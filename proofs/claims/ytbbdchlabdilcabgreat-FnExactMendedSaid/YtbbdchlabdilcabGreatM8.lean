/- Chapter 6's program: entries in order; DescOk. -/
import Derived.Test.YtbbdchlabdilcabGreatM7
import Derived.Test.YtbbdchlabdilcabGreatM6
import Derived.Test.YtbbdchlabdilcabGreatM3
namespace Go.Proofs.YtbbdchlabdilcabGreat
set_option maxRecDepth 100000
open Go.RowKit Go.Proofs Go.Own
open Go Go.BigFrame Go.Shelf
set_option linter.unusedVariables false
set_option linter.unusedSimpArgs false
def cmpC (a b : Int) : Int := if a < b then -1 else if b < a then 1 else 0
theorem impl_isNaN (x : Int) (w : World) :
    Calls Tryz.prog 137 #[.int .i64 x] w fun e w' => e = .returned (.bool false) ∧ w = w' := by
  go_enter Tryz.func137, Tryz.ntmps137
  go_wp2
  go_ret
  exact ⟨rfl, rfl⟩
theorem impl_compare (x y : Int) (w : World) :
    Calls Tryz.prog 128 #[.int .i64 x, .int .i64 y] w fun e w' => e = .returned (.int .i64 (cmpC x y)) ∧ w = w' := by
  by_cases h1 : x < y
  · have hc := hid (show cmpC x y = -1 from if_pos h1)
    go_enter Tryz.func128, Tryz.ntmps128
    go_wp2_with (go_at_call 137; refine (impl_isNaN _ _).mono ?_; rintro e w' ⟨rfl, rfl⟩)
    go_ret
    exact ⟨ret_int hc.out.symm, rfl⟩
  · by_cases h2 : y < x
    · have hc := hid (show cmpC x y = 1 by rw [cmpC, if_neg h1, if_pos h2])
      go_enter Tryz.func128, Tryz.ntmps128
      go_wp2_with (go_at_call 137; refine (impl_isNaN _ _).mono ?_; rintro e w' ⟨rfl, rfl⟩)
      go_ret
      exact ⟨ret_int hc.out.symm, rfl⟩
    · have hc := hid (show cmpC x y = 0 by rw [cmpC, if_neg h1, if_neg h2])
      go_enter Tryz.func128, Tryz.ntmps128
      go_wp2_with (go_at_call 137; refine (impl_isNaN _ _).mono ?_; rintro e w' ⟨rfl, rfl⟩)
      go_ret
      exact ⟨ret_int hc.out.symm, rfl⟩
theorem impl_byObject (a b : Entry) (w : World) :
    Calls Tryz.prog 109 #[.agg #[.int .i64 a.object_, .int .i64 a.version_, .int .i64 a.old_, .int .i64 a.new_, .bool a.write_], .agg #[.int .i64 b.object_, .int .i64 b.version_, .int .i64 b.old_, .int .i64 b.new_, .bool b.write_]] w fun e w' => e = .returned (.int .i64 (cmpC a.object_ b.object_)) ∧ w' = (w.alloc (.cells #[.int .i64 a.object_, .int .i64 a.version_, .int .i64 a.old_, .int .i64 a.new_, .bool a.write_] 121)).alloc (.cells #[.int .i64 b.object_, .int .i64 b.version_, .int .i64 b.old_, .int .i64 b.new_, .bool b.write_] 121) := by
  go_enter Tryz.func109, Tryz.ntmps109
  go_wp2_with (go_at_call 128; refine (impl_compare _ _ _).mono ?_; rintro e w' ⟨rfl, rfl⟩)
  go_ret
  exact ⟨rfl, rfl⟩
theorem impl_byObjectIs (a b : Entry) (r : Int) (w : World) (hr : cmpC a.object_ b.object_ = r) :
    Calls Tryz.prog 109 #[.agg #[.int .i64 a.object_, .int .i64 a.version_, .int .i64 a.old_, .int .i64 a.new_, .bool a.write_], .agg #[.int .i64 b.object_, .int .i64 b.version_, .int .i64 b.old_, .int .i64 b.new_, .bool b.write_]] w fun e w' => e = .returned (.int .i64 r) ∧ Below w.heap.size w w' := by
  subst hr
  exact (impl_byObject a b w).mono fun _ _ ⟨he, hw⟩ => ⟨he, by subst hw; exact ((Below.refl _ _).alloc (Nat.le_refl _) _).alloc (by simp) _⟩
set_option maxHeartbeats 4000000 in
theorem impl_IsSorted (v : Value) (xs : List Entry) (w : World) (h : Entrys w v xs) :
    Calls Tryz.prog 108 #[v, .func (.func 109) #[] #[]] w fun e w' => e = .returned (.bool (ordGo xs)) ∧ Below w.heap.size w w' := by
  have eg : ∀ args w, (callFunc 109 args).run Tryz.prog w = .ok (.enter 109 args) w := enters_of Tryz.func109 (by kernel_rfl) rfl
  obtain ⟨ad, cap, rfl, hl, hm, hc⟩ := h.open
  clear h
  have hlen : xs.length ≤ 9223372036854775807 := by omega
  have HC := hid hc
  clear hc
  go_enter Tryz.func108, Tryz.ntmps108
  go_wp2
  go_loopw [5] (fun i wr => ∃ z : Int, i = .int .i64 z ∧ -1 ≤ z ∧ z < xs.length ∧ Hid (∀ j : Nat, z ≤ (j : Int) → (h : j + 1 < xs.length) → xs[j].object_ ≤ xs[j+1].object_) ∧ Below w.heap.size w wr) (fun i _ => (intOf i).toNat)
  case atStart => exact ⟨(xs.length : Int) - 1, rfl, by omega, by omega, hid fun j hj h => by omega, Below.refl _ _⟩
  case round =>
    obtain ⟨z, rfl, hz1, hz2, hall, hB⟩ := hrel
    by_cases hz : 0 < z
    · obtain ⟨t, rfl⟩ : ∃ t : Nat, z = (t : Int) + 1 := ⟨(z - 1).toNat, by omega⟩
      have ht : t + 1 < xs.length := by omega
      have hix : ((t : Int) + 1).toNat = t + 1 := by omega
      have hix2 : ((t : Int)).toNat = t := by omega
      have hi0 : (0 : Int) ≤ (t : Int) := by omega
      have hi1 : (t : Int) < (xs.length : Int) := by omega
      have hi2 : (0 : Int) ≤ (t : Int) + 1 := by omega
      obtain ⟨bb, off, rfl, hbs, c0, c1, c2, c3, c4⟩ := HC.out t (by omega)
      obtain ⟨d0, d1, d2, d3, d4⟩ := (HC.out (t+1) ht |> fun ⟨_, _, q, _, c⟩ => by cases q; exact c : w.cell? ⟨bb, off + (t+1) * 5, none⟩ = some (.int .i64 xs[t+1].object_) ∧ w.cell? ⟨bb, off + (t+1) * 5 + 1, none⟩ = some (.int .i64 xs[t+1].version_) ∧ w.cell? ⟨bb, off + (t+1) * 5 + 2, none⟩ = some (.int .i64 xs[t+1].old_) ∧ w.cell? ⟨bb, off + (t+1) * 5 + 3, none⟩ = some (.int .i64 xs[t+1].new_) ∧ w.cell? ⟨bb, off + (t+1) * 5 + 4, none⟩ = some (.bool xs[t+1].write_))
      obtain ⟨e0, e1, e2, e3, e4⟩ := cells5 hB hbs c0 c1 c2 c3 c4
      obtain ⟨g0, g1, g2, g3, g4⟩ := cells5 hB hbs d0 d1 d2 d3 d4
      have hbr := Nat.lt_of_lt_of_le hbs hB.size
      have x0 := Ext.cell hbr e0
      have x1 := Ext.cell hbr e1
      have x2 := Ext.cell hbr e2
      have x3 := Ext.cell hbr e3
      have x4 := Ext.cell hbr e4
      have y0 := Ext.cell hbr g0
      have y1 := Ext.cell hbr g1
      have y2 := Ext.cell hbr g2
      have y3 := Ext.cell hbr g3
      have y4 := Ext.cell hbr g4
      clear c0 c1 c2 c3 c4 d0 d1 d2 d3 d4 e0 e1 e2 e3 e4 g0 g1 g2 g3 g4 HC
      by_cases hlt : xs[t+1].object_ < xs[t].object_
      · have hC := hid (show cmpC xs[t+1].object_ xs[t].object_ = -1 from if_pos hlt)
        have Hn := hid (ordGo_bad t ht hlt)
        clear hlt
        go_wp2_with fail
        refine wp_region_ext wr (Below.refl _ _) (by kernel_rfl) (by kernel_rfl) ?_
        repeat (go_big_quiet_step (first | (go_at_fn 109; exact call_ext _ (impl_byObjectIs xs[t+1] xs[t] _ _ hC.out))))
        refine wpQuiet_nil ?_; rintro _ ⟨E, rfl⟩
        go_wp2
        go_ret
        exact ⟨ret_bool Hn.out.symm, hB.trans (E.h.mono hB.size)⟩
      · obtain ⟨r, hC, hr⟩ : ∃ r, Hid (cmpC xs[t+1].object_ xs[t].object_ = r) ∧ 0 ≤ r := by
          refine ⟨_, hid rfl, ?_⟩
          unfold cmpC
          rw [if_neg hlt]
          split <;> omega
        have hle := hid (show xs[t].object_ ≤ xs[t+1].object_ by omega)
        clear hlt
        go_wp2_with fail
        refine wp_region_ext wr (Below.refl _ _) (by kernel_rfl) (by kernel_rfl) ?_
        repeat (go_big_quiet_step (first | (go_at_fn 109; exact call_ext _ (impl_byObjectIs xs[t+1] xs[t] _ _ hC.out))))
        refine wpQuiet_nil ?_; rintro _ ⟨E, rfl⟩
        go_wp2
        go_roundw
        case rel => exact ⟨(t : Int), by go_num, by omega, by omega, hid fun j hj h => by
          by_cases e : j = t
          · subst e; exact hle.out
          · exact hall.out j (by omega) h, hB.trans (E.h.mono hB.size)⟩
        case measure => simp [intOf] <;> omega
    · have Hy := hid (show ordGo xs = true from ordGo_of xs fun j h => hall.out j (by omega) h)
      go_wp2
      go_ret
      exact ⟨ret_bool Hy.out.symm, hB⟩
theorem impl_statusWord (st : Int) (w : World) :
    Calls Tryz.prog 106 #[.int .i64 st] w fun e w' => e = .returned (.string (stW st)) ∧ w = w' := by
  have hc := hid (show stW st = if st = 0 then ⟨#[117, 110, 100, 101, 99, 105, 100, 101, 100]⟩ else if st = 1 then ⟨#[99, 111, 109, 109, 105, 116, 116, 101, 100]⟩ else if st = 2 then ⟨#[102, 97, 105, 108, 101, 100]⟩ else ⟨#[]⟩ from rfl)
  by_cases h0 : st = 0
  · subst h0
    go_enter Tryz.func106, Tryz.ntmps106
    go_wp2
    go_ret
    exact ⟨by rw [hc.out]; rfl, rfl⟩
  by_cases h1 : st = 1
  · subst h1
    go_enter Tryz.func106, Tryz.ntmps106
    go_wp2
    go_ret
    exact ⟨by rw [hc.out]; rfl, rfl⟩
  by_cases h2 : st = 2
  · subst h2
    go_enter Tryz.func106, Tryz.ntmps106
    go_wp2
    go_ret
    exact ⟨by rw [hc.out]; rfl, rfl⟩
  have hn := hid (show stW st = ⟨#[]⟩ by rw [hc.out, if_neg h0, if_neg h1, if_neg h2])
  go_enter Tryz.func106, Tryz.ntmps106
  go_wp2
  go_ret
  exact ⟨by rw [hn.out]; rfl, rfl⟩
set_option maxHeartbeats 4000000 in
theorem impl_DescOk0 (ow st : Int) (v : Value) (xs : List Entry) (w : World) (h : Entrys w v xs) :
    Calls Tryz.prog 81 #[.agg #[.int .i64 ow, .int .i64 st, v]] w fun e w' => e = .returned (.bool (descOk ow st xs)) ∧ Below w.heap.size w w' := by
  have H0 := hid h
  obtain ⟨ad, cap, rfl, hl, hm⟩ := Flat.form h
  clear h
  have hlen : xs.length ≤ 9223372036854775807 := by omega
  obtain ⟨W1, hW1⟩ : ∃ X, w.alloc (.cells #[.int .i64 ow, .int .i64 st, Value.slice ad xs.length cap] 85) = X := ⟨_, rfl⟩
  have hB1 : Below w.heap.size w W1 := by rw [← hW1]; exact (Below.refl _ _).alloc (Nat.le_refl _) _
  have hN : w.heap.size < W1.heap.size := by rw [← hW1]; simp
  have k0 : W1.cell? ⟨w.heap.size, 0, none⟩ = some (.int .i64 ow) := by rw [← hW1]; simp [go_sem]
  have k1 : W1.cell? ⟨w.heap.size, 1, none⟩ = some (.int .i64 st) := by rw [← hW1]; simp [go_sem]
  have k2 : W1.cell? ⟨w.heap.size, 2, none⟩ = some (Value.slice ad xs.length cap) := by rw [← hW1]; simp [go_sem]
  have h1 := hid (Entrys.below H0.out hB1)
  have Hy := hid (show descOk ow st xs = (inB ow 0 3 && inB st 0 2 && decide (0 < xs.length) && openOk xs && ascGo xs) from rfl)
  cases hA : inB ow 0 3 with
  | false =>
    go_enter Tryz.func81, Tryz.ntmps81
    go_wp2_with (first | (go_at_call 105; refine (impl_isThread _ _).mono ?_; rintro e w' ⟨rfl, rfl⟩) | (go_at_call 106; refine (impl_statusWord _ _).mono ?_; rintro e w' ⟨rfl, rfl⟩))
    go_ret
    exact ⟨ret_bool (by rw [Hy.out, hA]; rfl), hB1⟩
  | true =>
  cases hS : inB st 0 2 with
  | false =>
    have hs := stW_out hS
    go_enter Tryz.func81, Tryz.ntmps81
    go_wp2_with (first | (go_at_call 105; refine (impl_isThread _ _).mono ?_; rintro e w' ⟨rfl, rfl⟩) | (go_at_call 106; refine (impl_statusWord _ _).mono ?_; rintro e w' ⟨rfl, rfl⟩))
    go_ret
    exact ⟨ret_bool (by rw [Hy.out, hA, hS]; rfl), hB1⟩
  | true =>
  have hs := stW_in hS
  by_cases h0 : xs.length = 0
  · have h0' : ((xs.length : Int) == 0) = true := by rw [beq_iff_eq]; omega
    have Hn := hid (show descOk ow st xs = false by rw [Hy.out, decide_eq_false (by omega)]; simp)
    clear h0
    go_enter Tryz.func81, Tryz.ntmps81
    go_wp2_with (first | (go_at_call 105; refine (impl_isThread _ _).mono ?_; rintro e w' ⟨rfl, rfl⟩) | (go_at_call 106; refine (impl_statusWord _ _).mono ?_; rintro e w' ⟨rfl, rfl⟩))
    go_ret
    exact ⟨ret_bool Hn.out.symm, hB1⟩
  have h0' : ¬ (xs.length : Int) = 0 := by omega
  have Hy2 := hid (show descOk ow st xs = (openOk xs && ascGo xs) by rw [Hy.out, hA, hS, decide_eq_true (by omega)]; rfl)
  go_enter Tryz.func81, Tryz.ntmps81
  go_wp2_with (first | (go_at_call 105; refine (impl_isThread _ _).mono ?_; rintro e w' ⟨rfl, rfl⟩) | (go_at_call 106; refine (impl_statusWord _ _).mono ?_; rintro e w' ⟨rfl, rfl⟩))
  clear hW1
  refine (impl_OpenOk _ xs _ h1.out).mono ?_
  rintro e w2 ⟨rfl, b2⟩
  have hB2 := hB1.trans (b2.mono hB1.size)
  cases hO : openOk xs with
  | false =>
    go_wp2
    go_ret
    exact ⟨ret_bool (by rw [Hy2.out, hO]; rfl), hB2⟩
  | true =>
    have l2 := (b2.cell (p := ⟨w.heap.size, 2, none⟩) hN).trans k2
    have h2 := hid (Entrys.below h1.out b2)
    have Ha := hid (ord_asc hO)
    clear k0 k1 k2
    go_wp2_with fail
    refine (impl_IsSorted _ xs _ h2.out).mono ?_
    rintro e w3 ⟨rfl, b3⟩
    have hB3 := hB2.trans (b3.mono hB2.size)
    go_wp2
    go_ret
    exact ⟨ret_bool (by rw [Hy2.out, hO, Ha.out]; rfl), hB3⟩
end Go.Proofs.YtbbdchlabdilcabGreat
/- Chapter 6's model: SetNew, DescOk. -/
namespace Go.Proofs.YtbbdchlabdilcabGreat
set_option maxRecDepth 100000
open Go.RowKit Go.Proofs Go.Own
set_option linter.unusedVariables false
set_option linter.unusedSimpArgs false
theorem oneCell_E (x : Entry) : ∀ c ∈ Entry.enc x, c.oneCell' = true := by intro c hc; simp [Entry.enc] at hc; rcases hc with rfl | rfl | rfl | rfl | rfl <;> rfl
/-- Two cells of a row of the call's own: an entry's New and Write. -/
theorem owns_wr6 {w : World} {base e g c : Nat} {xs : List Entry} (h : w.ownsRow base e 5 (.slice (some ⟨g, 0, none⟩) xs.length c) xs.length (xs.flatMap Entry.enc)) (k : Nat) (hk : k < xs.length) (x : Int) :
    ((w.setCell ⟨g, k * 5 + 3, none⟩ (.int .i64 x)).setCell ⟨g, k * 5 + 4, none⟩ (.bool true)).ownsRow base e 5 (.slice (some ⟨g, 0, none⟩) xs.length c) (setAt xs k x).length ((setAt xs k x).flatMap Entry.enc) := by
  rw [setAt_len, ← setAt_cells xs k x hk]
  exact owns_put (owns_put h _ _) _ _
set_option maxHeartbeats 8000000 in
theorem spec_DescOk0 (ow st : Int) (v : Value) (xs : List Entry) (w : World) (h : Entrys w v xs) :
    Calls Tryz.prog 66 #[.agg #[.int .i64 ow, .int .i64 st, v]] w fun e w' => e = .returned (.bool (descOk ow st xs)) ∧ Below w.heap.size w w' := by
  have H0 := hid h
  obtain ⟨ad, cap, rfl, hl, hm, hc⟩ := h.open
  clear h
  have hlen : xs.length ≤ 9223372036854775807 := by omega
  have HC := hid hc
  clear hc
  obtain ⟨W1, hW1⟩ : ∃ X, w.alloc (.cells #[.int .i64 ow, .int .i64 st, Value.slice ad xs.length cap] 85) = X := ⟨_, rfl⟩
  have hB1 : Below w.heap.size w W1 := by rw [← hW1]; exact (Below.refl _ _).alloc (Nat.le_refl _) _
  have hN : w.heap.size < W1.heap.size := by rw [← hW1]; simp
  have k0 : W1.cell? ⟨w.heap.size, 0, none⟩ = some (.int .i64 ow) := by rw [← hW1]; simp [go_sem]
  have k1 : W1.cell? ⟨w.heap.size, 1, none⟩ = some (.int .i64 st) := by rw [← hW1]; simp [go_sem]
  have k2 : W1.cell? ⟨w.heap.size, 2, none⟩ = some (Value.slice ad xs.length cap) := by rw [← hW1]; simp [go_sem]
  go_enter Tryz.func66, Tryz.ntmps66
  go_wp2
  clear hW1
  go_loopw [3] (fun i wr => ∃ k : Nat, (k ≤ xs.length ∨ k = 0) ∧ i = .int .i64 ((k : Int) + 1) ∧ Same (ascGo (xs.drop k)) (ascGo xs) ∧ Below W1.heap.size W1 wr) (fun i _ => xs.length + 1 - (intOf i).toNat)
  case atStart => exact ⟨0, .inr rfl, rfl, .rfl, Below.refl _ _⟩
  case round =>
    obtain ⟨k, hk, rfl, hS, hB⟩ := hrel
    have q0 := (hB.cell (p := ⟨w.heap.size, 0, none⟩) hN).trans k0
    have q1 := (hB.cell (p := ⟨w.heap.size, 1, none⟩) hN).trans k1
    have q2 := (hB.cell (p := ⟨w.heap.size, 2, none⟩) hN).trans k2
    have hB2 := hB1.trans (hB.mono hB1.size)
    clear k0 k1 k2
    by_cases hlt : k + 1 < xs.length
    · have hlt' : (k : Int) + 1 < (xs.length : Int) := by omega
      obtain ⟨bb, off, rfl, hbs, c0, -⟩ := HC.out k (by omega)
      have c1 := (HC.out (k+1) hlt |> fun ⟨_, _, q, _, c, _⟩ => by cases q; exact c : w.cell? ⟨bb, off + (k+1) * 5, none⟩ = some (.int .i64 xs[k+1].object_))
      have e0 := (hB2.cell (p := ⟨bb, off + k * 5, none⟩) hbs).trans c0
      have e1 := (hB2.cell (p := ⟨bb, off + (k+1) * 5, none⟩) hbs).trans c1
      have hst := hid (asc_step xs k hlt)
      have hix : ((k : Int) + 1).toNat = k + 1 := by omega
      have hix2 : ((k : Int) + 1 - 1).toNat = k := by omega
      clear c0 c1 HC
      by_cases heq : xs[k+1].object_ ≤ xs[k].object_
      · have Hn := hid (show descOk ow st xs = false by
          unfold descOk; rw [← hS.out, hst.out, decide_eq_false (by omega : ¬ xs[k].object_ < xs[k+1].object_)]; simp)
        go_wp2
        go_quiet (fail)
        go_wp2
        go_ret
        exact ⟨ret_bool Hn.out.symm, below_drewN hB2 _⟩
      · go_wp2
        go_quiet (fail)
        go_wp2
        go_roundw
        case rel => exact ⟨k+1, by omega, by go_num, Same.mk (by have h9 := hS.out; rw [hst.out, decide_eq_true (by omega : xs[k].object_ < xs[k+1].object_), Bool.true_and] at h9; exact h9), below_drewN hB _⟩
        case measure => simp [intOf]; omega
    · have Hy := hid (show descOk ow st xs = (inB ow 0 3 && inB st 0 2 && decide (0 < xs.length) && openOk xs) by
        unfold descOk; rw [← hS.out, asc_end xs k hlt, Bool.and_true])
      have h2 := hid (Entrys.below H0.out hB2)
      have hlt' : ¬ (k : Int) + 1 < (xs.length : Int) := by omega
      clear HC H0 hB hB1 hS
      cases hA : inB ow 0 3 with
      | false =>
        go_wp2_with (go_at_call 36; refine (spec_l1In _ _ _ _).mono ?_; rintro e w' ⟨rfl, rfl⟩)
        go_ret
        exact ⟨ret_bool (by rw [Hy.out, hA]; rfl), hB2⟩
      | true =>
      cases hA2 : inB st 0 2 with
      | false =>
        go_wp2_with (go_at_call 36; refine (spec_l1In _ _ _ _).mono ?_; rintro e w' ⟨rfl, rfl⟩)
        go_ret
        exact ⟨ret_bool (by rw [Hy.out, hA, hA2]; rfl), hB2⟩
      | true =>
      by_cases h0 : (0 : Int) < (xs.length : Int)
      · go_wp2_with (go_at_call 36; refine (spec_l1In _ _ _ _).mono ?_; rintro e w' ⟨rfl, rfl⟩)
        refine (spec_OpenOk _ xs _ h2.out).mono ?_
        rintro e w3 ⟨rfl, b3⟩
        have hB3 := hB2.trans (b3.mono hB2.size)
        go_wp2
        go_ret
        exact ⟨ret_bool (by rw [Hy.out, hA, hA2, decide_eq_true (by omega : 0 < xs.length)]; rfl), hB3⟩
      · go_wp2_with (go_at_call 36; refine (spec_l1In _ _ _ _).mono ?_; rintro e w' ⟨rfl, rfl⟩)
        go_ret
        exact ⟨ret_bool (by rw [Hy.out, decide_eq_false (by omega : ¬ 0 < xs.length)]; simp), hB2⟩
end Go.Proofs.YtbbdchlabdilcabGreat
/- Chapter 6's model: Meets. -/
namespace Go.Proofs.YtbbdchlabdilcabGreat
set_option maxRecDepth 100000
open Go.RowKit Go.Proofs Go.Own
open Go Go.BigFrame
set_option linter.unusedVariables false
set_option linter.unusedSimpArgs false
theorem spec_OpenedIs (v : Value) (xs : List Entry) (o : Int) (r : Int) (w : World) (h : Entrys w v xs) (e : openedC xs o = r) :
    Calls Tryz.prog 68 #[v, .int .i64 o] w fun e w' => e = .returned (.int .i64 r) ∧ Below w.heap.size w w' := by
  subst e; exact spec_Opened0 v xs o w h
end Go.Proofs.YtbbdchlabdilcabGreat
