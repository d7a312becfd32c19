/- Chapter 6's model: SetNew, DescOk. -/
import Derived.Test.YtbbdchlabdilcaaS6
import Derived.Test.YtbbdchlabdilcaaSl2
namespace Go.Proofs.Ytbbdchlabdilcaa
set_option maxRecDepth 100000
open Go.RowKit Go.Proofs Go.Own
set_option linter.unusedVariables false
set_option linter.unusedSimpArgs false
theorem oneCell_E (x : Entry) : ∀ c ∈ Entry.enc x, c.oneCell' = true := by intro c hc; simp [Entry.enc] at hc; rcases hc with rfl | rfl | rfl | rfl | rfl <;> rfl
/-- Two cells of a row of the call's own: an entry's New and Write. -/
theorem owns_wr6 {w : World} {base e g c : Nat} {xs : List Entry} (h : w.ownsRow base e 5 (.slice (some ⟨g, 0, none⟩) xs.length c) xs.length (xs.flatMap Entry.enc)) (k : Nat) (hk : k < xs.length) (x : Int) :
    ((w.setCell ⟨g, k * 5 + 3, none⟩ (.int .i64 x)).setCell ⟨g, k * 5 + 4, none⟩ (.bool true)).ownsRow base e 5 (.slice (some ⟨g, 0, none⟩) xs.length c) (setAt xs k x).length ((setAt xs k x).flatMap Entry.enc) := by
  rw [setAt_len, ← setAt_cells xs k x hk]
  exact owns_put (owns_put h _ _) _ _
set_option maxHeartbeats 8000000 in
theorem spec_DescOk0 (ow st : Int) (v : Value) (xs : List Entry) (w : World) (h : Entrys w v xs) :
    Calls Try.prog 34 #[.agg #[.int .i64 ow, .int .i64 st, v]] w fun e w' => e = .returned (.bool (descOk ow st xs)) ∧ Below w.heap.size w w' := by
  have H0 := hid h
  obtain ⟨ad, cap, rfl, hl, hm, hc⟩ := h.open
  clear h
  have hlen : xs.length ≤ 9223372036854775807 := by omega
  have HC := hid hc
  clear hc
  obtain ⟨W1, hW1⟩ : ∃ X, w.alloc (.cells #[.int .i64 ow, .int .i64 st, Value.slice ad xs.length cap] 45) = X := ⟨_, rfl⟩
  have hB1 : Below w.heap.size w W1 := by rw [← hW1]; exact (Below.refl _ _).alloc (Nat.le_refl _) _
  have hN : w.heap.size < W1.heap.size := by rw [← hW1]; simp
  have k0 : W1.cell? ⟨w.heap.size, 0, none⟩ = some (.int .i64 ow) := by rw [← hW1]; simp [go_sem]
  have k1 : W1.cell? ⟨w.heap.size, 1, none⟩ = some (.int .i64 st) := by rw [← hW1]; simp [go_sem]
  have k2 : W1.cell? ⟨w.heap.size, 2, none⟩ = some (Value.slice ad xs.length cap) := by rw [← hW1]; simp [go_sem]
  go_enter Try.func34, Try.ntmps34
  go_wp2
  clear hW1
  go_loopw [3] (fun i wr => ∃ k : Nat, (k ≤ xs.length ∨ k = 0) ∧ i = .int .i64 ((k : Int) + 1) ∧ Same (ascGo (xs.drop k)) (ascGo xs) ∧ Below W1.heap.size W1 wr) (fun i _ => xs.length + 1 - (intOf i).toNat)
  case atStart => exact ⟨0, .inr rfl, rfl, .rfl, Below.refl _ _⟩
  case round =>
    obtain ⟨k, hk, rfl, hS, hB⟩ := hrel
    have q0 := (hB.cell (p := ⟨w.heap.size, 0, none⟩) hN).trans k0
    have q1 := (hB.cell (p := ⟨w.heap.size, 1, none⟩) hN).trans k1
    have q2 := (hB.cell (p := ⟨w.heap.size, 2, none⟩) hN).trans k2
    have hB2 := hB1.trans (hB.mono hB1.size)
    clear k0 k1 k2
    by_cases hlt : k + 1 < xs.length
    · have hlt' : (k : Int) + 1 < (xs.length : Int) := by omega
      obtain ⟨bb, off, rfl, hbs, c0, -⟩ := HC.out k (by omega)
      have c1 := (HC.out (k+1) hlt |> fun ⟨_, _, q, _, c, _⟩ => by cases q; exact c : w.cell? ⟨bb, off + (k+1) * 5, none⟩ = some (.int .i64 xs[k+1].object_))
      have e0 := (hB2.cell (p := ⟨bb, off + k * 5, none⟩) hbs).trans c0
      have e1 := (hB2.cell (p := ⟨bb, off + (k+1) * 5, none⟩) hbs).trans c1
      have hst := hid (asc_step xs k hlt)
      have hix : ((k : Int) + 1).toNat = k + 1 := by omega
      have hix2 : ((k : Int) + 1 - 1).toNat = k := by omega
      clear c0 c1 HC
      by_cases heq : xs[k+1].object_ ≤ xs[k].object_
      · have Hn := hid (show descOk ow st xs = false by
          unfold descOk; rw [← hS.out, hst.out, decide_eq_false (by omega : ¬ xs[k].object_ < xs[k+1].object_)]; simp)
        go_wp2
        go_quiet (fail)
        go_wp2
        go_ret
        exact ⟨ret_bool Hn.out.symm, below_drewN hB2 _⟩
      · go_wp2
        go_quiet (fail)
        go_wp2
        go_roundw
        case rel => exact ⟨k+1, by omega, by go_num, Same.mk (by have h9 := hS.out; rw [hst.out, decide_eq_true (by omega : xs[k].object_ < xs[k+1].object_), Bool.true_and] at h9; exact h9), below_drewN hB _⟩
        case measure => simp [intOf]; omega
    · have Hy := hid (show descOk ow st xs = (inB ow 0 3 && inB st 0 2 && decide (0 < xs.length) && openOk xs) by
        unfold descOk; rw [← hS.out, asc_end xs k hlt, Bool.and_true])
      have h2 := hid (Entrys.below H0.out hB2)
      have hlt' : ¬ (k : Int) + 1 < (xs.length : Int) := by omega
      clear HC H0 hB hB1 hS
      cases hA : inB ow 0 3 with
      | false =>
        go_wp2_with (go_at_call 32; refine (spec_l1In _ _ _ _).mono ?_; rintro e w' ⟨rfl, rfl⟩)
        go_ret
        exact ⟨ret_bool (by rw [Hy.out, hA]; rfl), hB2⟩
      | true =>
      cases hA2 : inB st 0 2 with
      | false =>
        go_wp2_with (go_at_call 32; refine (spec_l1In _ _ _ _).mono ?_; rintro e w' ⟨rfl, rfl⟩)
        go_ret
        exact ⟨ret_bool (by rw [Hy.out, hA, hA2]; rfl), hB2⟩
      | true =>
      by_cases h0 : (0 : Int) < (xs.length : Int)
      · go_wp2_with (go_at_call 32; refine (spec_l1In _ _ _ _).mono ?_; rintro e w' ⟨rfl, rfl⟩)
        refine (spec_OpenOk _ xs _ h2.out).mono ?_
        rintro e w3 ⟨rfl, b3⟩
        have hB3 := hB2.trans (b3.mono hB2.size)
        go_wp2
        go_ret
        exact ⟨ret_bool (by rw [Hy.out, hA, hA2, decide_eq_true (by omega : 0 < xs.length)]; rfl), hB3⟩
      · go_wp2_with (go_at_call 32; refine (spec_l1In _ _ _ _).mono ?_; rintro e w' ⟨rfl, rfl⟩)
        go_ret
        exact ⟨ret_bool (by rw [Hy.out, decide_eq_false (by omega : ¬ 0 < xs.length)]; simp), hB2⟩
end Go.Proofs.Ytbbdchlabdilcaa
