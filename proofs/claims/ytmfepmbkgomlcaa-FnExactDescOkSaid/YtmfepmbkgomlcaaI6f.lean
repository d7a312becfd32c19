/- Chapter 6's program: Meets. -/
import Derived.Test.YtmfepmbkgomlcaaI6e
namespace Go.Proofs.Ytmfepmbkgomlcaa
set_option maxRecDepth 100000
open Go.RowKit Go.Proofs Go.Own
set_option linter.unusedVariables false
set_option linter.unusedSimpArgs false
set_option maxHeartbeats 8000000 in
theorem impl_Meets0 (s0 s1 : Int) (v : Value) (xs : List Entry) (t0 t1 : Int) (u : Value) (ys : List Entry) (w : World) (h : Entrys w v xs) (g : Entrys w u ys) :
    Calls Try.prog 33 #[.agg #[.int .i64 s0, .int .i64 s1, v], .agg #[.int .i64 t0, .int .i64 t1, u]] w fun e w' => e = .returned (.bool (meetsC s0 s1 xs t0 t1 ys)) ∧ Below w.heap.size w w' := by
  have H0 := hid h
  have G0 := hid g
  obtain ⟨ad, cap, rfl, hl, hm, hc⟩ := h.open
  obtain ⟨ad2, cap2, rfl, hl2, hm2, hc2⟩ := g.open
  clear h g
  have hlen : xs.length ≤ 9223372036854775807 := by omega
  have hlen2 : ys.length ≤ 9223372036854775807 := by omega
  have HC := hid hc
  have GC := hid hc2
  clear hc hc2
  obtain ⟨W1, hW1⟩ : ∃ X, (w.alloc (.cells #[.int .i64 s0, .int .i64 s1, Value.slice ad xs.length cap] 42)).alloc (.cells #[.int .i64 t0, .int .i64 t1, Value.slice ad2 ys.length cap2] 42) = X := ⟨_, rfl⟩
  have hB1 : Below w.heap.size w W1 := by rw [← hW1]; exact ((Below.refl _ _).alloc (Nat.le_refl _) _).alloc (by simp) _
  have hN : w.heap.size + 1 < W1.heap.size := by rw [← hW1]; simp
  have hN0 : w.heap.size < W1.heap.size := by omega
  have k0 : W1.cell? ⟨w.heap.size, 0, none⟩ = some (.int .i64 s0) := by rw [← hW1]; simp [go_sem]
  have k1 : W1.cell? ⟨w.heap.size, 1, none⟩ = some (.int .i64 s1) := by rw [← hW1]; simp [go_sem]
  have k2 : W1.cell? ⟨w.heap.size, 2, none⟩ = some (Value.slice ad xs.length cap) := by rw [← hW1]; simp [go_sem]
  have k3 : W1.cell? ⟨w.heap.size + 1, 0, none⟩ = some (.int .i64 t0) := by rw [← hW1]; simp [go_sem]
  have k4 : W1.cell? ⟨w.heap.size + 1, 1, none⟩ = some (.int .i64 t1) := by rw [← hW1]; simp [go_sem]
  have k5 : W1.cell? ⟨w.heap.size + 1, 2, none⟩ = some (Value.slice ad2 ys.length cap2) := by rw [← hW1]; simp [go_sem]
  have h1 := hid (Entrys.below H0.out hB1)
  go_enter Try.func33, Try.ntmps33
  go_wp2_with fail
  clear hW1
  refine (impl_DescOk0 s0 s1 _ xs _ h1.out).mono ?_
  rintro e w2 ⟨rfl, b2⟩
  cases hA : descOk s0 s1 xs with
  | false =>
    have hB2 := hB1.trans (b2.mono hB1.size)
    go_wp2
    go_ret
    exact ⟨ret_bool (by unfold meetsC; rw [hA]; rfl), hB2⟩
  | true =>
  have g1 := hid (Entrys.below (Entrys.below G0.out hB1) b2)
  have l2 := (b2.cell (p := ⟨w.heap.size, 2, none⟩) hN0).trans k2
  have l3 := (b2.cell (p := ⟨w.heap.size + 1, 0, none⟩) hN).trans k3
  have l4 := (b2.cell (p := ⟨w.heap.size + 1, 1, none⟩) hN).trans k4
  have l5 := (b2.cell (p := ⟨w.heap.size + 1, 2, none⟩) hN).trans k5
  clear k0 k1 k2 k3 k4 k5
  go_wp2_with fail
  refine (impl_DescOk0 t0 t1 _ ys _ g1.out).mono ?_
  rintro e w3 ⟨rfl, b3⟩
  have hN2 : w.heap.size + 1 < w2.heap.size := Nat.lt_of_lt_of_le hN b2.size
  have hN02 : w.heap.size < w2.heap.size := by omega
  have m2 := (b3.cell (p := ⟨w.heap.size, 2, none⟩) hN02).trans l2
  have m5 := (b3.cell (p := ⟨w.heap.size + 1, 2, none⟩) hN2).trans l5
  have hB3 : Below w.heap.size w w3 := (hB1.trans (b2.mono hB1.size)).trans (b3.mono (by omega))
  have hN3 : w.heap.size + 1 < w3.heap.size := Nat.lt_of_lt_of_le hN2 b3.size
  have hN03 : w.heap.size < w3.heap.size := by omega
  clear l2 l3 l4 l5 h1 g1 b2 b3
  cases hA2 : descOk t0 t1 ys with
  | false =>
    go_wp2
    go_ret
    exact ⟨ret_bool (by unfold meetsC; rw [hA, hA2]; rfl), hB3⟩
  | true =>
  have Hy := hid (show meetsC s0 s1 xs t0 t1 ys = xs.any (meetAt ys) by unfold meetsC; rw [hA, hA2]; rfl)
  go_wp2
  go_loopw [19] (fun i wr => ∃ k : Nat, k ≤ xs.length ∧ i = .int .i64 k ∧ Same ((xs.drop k).any (meetAt ys)) (xs.any (meetAt ys)) ∧ Below w3.heap.size w3 wr) (fun i _ => xs.length - (intOf i).toNat)
  case atStart => exact ⟨0, by omega, rfl, .rfl, Below.refl _ _⟩
  case round =>
    obtain ⟨k, hk, rfl, hS, hB⟩ := hrel
    have hBr : Below w.heap.size w wr := hB3.trans (hB.mono (by omega))
    have hNr : w.heap.size + 1 < wr.heap.size := Nat.lt_of_lt_of_le hN3 hB.size
    by_cases hlt : k < xs.length
    · have hst := hid (any_step (meetAt ys) xs k hlt)
      obtain ⟨bb, off, rfl, hbs, c0, c1, c2, c3, c4⟩ := HC.out k hlt
      obtain ⟨e0, e1, e2, e3, e4⟩ := cells5 hBr hbs c0 c1 c2 c3 c4
      obtain ⟨V, hV⟩ : ∃ X, wr.alloc (.cells #[.int .i64 xs[k].object_, .int .i64 xs[k].version_, .int .i64 xs[k].old_, .int .i64 xs[k].new_, .bool xs[k].write_] 53) = X := ⟨_, rfl⟩
      have bV : Below wr.heap.size wr V := by rw [← hV]; exact (Below.refl _ _).alloc (Nat.le_refl _) _
      have hN9 : wr.heap.size < V.heap.size := by rw [← hV]; simp
      have k0 : V.cell? ⟨wr.heap.size, 0, none⟩ = some (.int .i64 xs[k].object_) := by rw [← hV]; simp [go_sem]
      have k4 : V.cell? ⟨wr.heap.size, 4, none⟩ = some (.bool xs[k].write_) := by rw [← hV]; simp [go_sem]
      have hBV : Below w3.heap.size w3 V := hB.trans (bV.mono hB.size)
      have hBwV : Below w.heap.size w V := hB3.trans (hBV.mono (by omega))
      have q5 := (hBV.cell (p := ⟨w.heap.size + 1, 2, none⟩) hN3).trans m5
      have hY := hid (Entrys.below G0.out hBwV)
      obtain ⟨P, hP⟩ : ∃ P, Hid (placeC ys xs[k].object_ = P) := ⟨_, hid rfl⟩
      have hP1 := hid (placeC_lt ys xs[k].object_)
      have HV := hid hV
      have Hk0 := hid k0
      have Hk4 := hid k4
      have Hq5 := hid q5
      clear c0 c1 c2 c3 c4 hV k0 k4 q5 bV HC
      have m5b := (hB.cell (p := ⟨w.heap.size + 1, 2, none⟩) hN3).trans m5
      have m5a : (wr.alloc (.cells #[.int .i64 xs[k].object_, .int .i64 xs[k].version_, .int .i64 xs[k].old_, .int .i64 xs[k].new_, .bool xs[k].write_] 53)).cell? ⟨w.heap.size + 1, 2, none⟩ = some (Value.slice ad2 ys.length cap2) := by rw [HV.out]; exact Hq5.out
      clear m2 m5
      go_wp2_with fail
      rw [HV.out]
      refine (impl_placeOf _ ys xs[k].object_ _ hY.out).mono ?_
      rintro e w5 ⟨rfl, b5⟩
      rw [hP.out]
      have hB5 : Below w3.heap.size w3 w5 := hBV.trans (b5.mono hBV.size)
      have hBw5 : Below w.heap.size w w5 := hB3.trans (hB5.mono (by omega))
      have z4 := (b5.cell (p := ⟨wr.heap.size, 4, none⟩) hN9).trans Hk4.out
      have z5 := (b5.cell (p := ⟨w.heap.size + 1, 2, none⟩) (show w.heap.size + 1 < _ by omega)).trans Hq5.out
      clear e0 e1 e2 e3 e4 m5b m5a hY b5
      by_cases h0 : 0 ≤ P
      · obtain ⟨p, rfl⟩ := Int.eq_ofNat_of_zero_le h0
        have hp : p < ys.length := by have h9 := hP1.out; rw [hP.out] at h9; omega
        have hp2 : (p : Int) < (ys.length : Int) := by omega
        have hma := hid (show meetAt ys xs[k] = (xs[k].write_ || ys[p].write_) by
          unfold meetAt; rw [hP.out, decide_eq_true h0, Bool.true_and, Int.toNat_natCast, writeAt_eq hp])
        obtain ⟨b1, hb1⟩ : ∃ b1, Hid (xs[k].write_ = b1) := ⟨_, hid rfl⟩
        obtain ⟨b2, hb2⟩ : ∃ b2, Hid (ys[p].write_ = b2) := ⟨_, hid rfl⟩
        obtain ⟨bb2, off2, rfl, hbs2, _, _, _, _, d4⟩ := GC.out p hp
        have f4 := (hBw5.cell (p := ⟨bb2, off2 + p * 5 + 4, none⟩) hbs2).trans d4
        rw [hb1.out] at z4
        rw [hb2.out] at f4
        rw [hb1.out, hb2.out] at hma
        clear d4 GC G0
        cases b1 with
        | true =>
          go_wp2
          go_ret
          exact ⟨ret_bool (by rw [Hy.out, ← hS.out, hst.out, hma.out]; rfl), hBw5⟩
        | false =>
          cases b2 with
          | true =>
            go_wp2
            go_ret
            exact ⟨ret_bool (by rw [Hy.out, ← hS.out, hst.out, hma.out]; rfl), hBw5⟩
          | false =>
            go_wp2
            go_roundw
            case rel => exact ⟨k+1, by omega, by go_num, Same.mk (by have h9 := hS.out; rw [hst.out, hma.out] at h9; exact h9), hB5⟩
            case measure => simp [intOf]; omega
      · have hma := hid (show meetAt ys xs[k] = false by
          unfold meetAt; rw [hP.out, decide_eq_false h0]; rfl)
        go_wp2
        go_roundw
        case rel => exact ⟨k+1, by omega, by go_num, Same.mk (by have h9 := hS.out; rw [hst.out, hma.out] at h9; exact h9), hB5⟩
        case measure => simp [intOf]; omega
    · have Hn := hid (show meetsC s0 s1 xs t0 t1 ys = false by rw [Hy.out, ← hS.out, List.drop_eq_nil_of_le (by omega)]; rfl)
      go_wp2
      go_ret
      exact ⟨ret_bool Hn.out.symm, hBr⟩
end Go.Proofs.Ytmfepmbkgomlcaa
