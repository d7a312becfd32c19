/- Chapter 7's program: versions, objects, numbers of descriptors. -/
import Derived.Test.YtbbdchlabdilcaaI6e
import Derived.Test.YtbbdchlabdilcaaS7e
import Derived.Test.YtbbdchlabdilcaaF7i
namespace Go.Proofs.Ytbbdchlabdilcaa
set_option maxRecDepth 100000
open Go.RowKit Go.Proofs Go.Own
open Go Go.BigFrame Go.Shelf
set_option linter.unusedVariables false
set_option linter.unusedSimpArgs false
theorem impl_isVersion (x : Int) (w : World) :
    Calls Try.prog 47 #[.int .i64 x] w fun e w' => e = .returned (.bool (inB x 0 1000000)) ∧ w = w' := by
  go_enter Try.func47, Try.ntmps47
  go_wp2
  all_goals go_ret
  all_goals (simp [inB, *]; try omega)
def isIn (n : Nat) (o : Int) : Bool := decide (0 ≤ o) && decide (o < (n : Int))
theorem impl_isObject (a0 : Option Addr) (n c0 : Nat) (a1 : Option Addr) (m c1 : Nat) (o : Int) (w : World) (hn : n ≤ 9223372036854775807) :
    Calls Try.prog 58 #[.agg #[.slice a0 n c0, .slice a1 m c1], .int .i64 o] w fun e w' => e = .returned (.bool (isIn n o)) ∧ Below w.heap.size w w' := by
  have hB := hid (show Below w.heap.size w (w.alloc (.cells #[.slice a0 n c0, .slice a1 m c1] 67)) from (Below.refl _ _).alloc (Nat.le_refl _) _)
  by_cases h0 : 0 ≤ o
  · by_cases h1 : o < (n : Int)
    · have he := hid (show isIn n o = true by unfold isIn; rw [decide_eq_true h0, decide_eq_true h1]; rfl)
      go_enter Try.func58, Try.ntmps58
      go_wp2
      go_ret
      exact ⟨ret_bool he.out.symm, hB.out⟩
    · have he := hid (show isIn n o = false by unfold isIn; rw [decide_eq_false h1, Bool.and_false])
      go_enter Try.func58, Try.ntmps58
      go_wp2
      go_ret
      exact ⟨ret_bool he.out.symm, hB.out⟩
  · have he := hid (show isIn n o = false by unfold isIn; rw [decide_eq_false h0]; rfl)
    go_enter Try.func58, Try.ntmps58
    go_wp2
    go_ret
    exact ⟨ret_bool he.out.symm, hB.out⟩
theorem impl_isDesc (a0 : Option Addr) (n c0 : Nat) (a1 : Option Addr) (m c1 : Nat) (o : Int) (w : World) (hn : m ≤ 9223372036854775807) :
    Calls Try.prog 59 #[.agg #[.slice a0 n c0, .slice a1 m c1], .int .i64 o] w fun e w' => e = .returned (.bool (isIn m o)) ∧ Below w.heap.size w w' := by
  have hB := hid (show Below w.heap.size w (w.alloc (.cells #[.slice a0 n c0, .slice a1 m c1] 67)) from (Below.refl _ _).alloc (Nat.le_refl _) _)
  by_cases h0 : 0 ≤ o
  · by_cases h1 : o < (m : Int)
    · have he := hid (show isIn m o = true by unfold isIn; rw [decide_eq_true h0, decide_eq_true h1]; rfl)
      go_enter Try.func59, Try.ntmps59
      go_wp2
      go_ret
      exact ⟨ret_bool he.out.symm, hB.out⟩
    · have he := hid (show isIn m o = false by unfold isIn; rw [decide_eq_false h1, Bool.and_false])
      go_enter Try.func59, Try.ntmps59
      go_wp2
      go_ret
      exact ⟨ret_bool he.out.symm, hB.out⟩
  · have he := hid (show isIn m o = false by unfold isIn; rw [decide_eq_false h0]; rfl)
    go_enter Try.func59, Try.ntmps59
    go_wp2
    go_ret
    exact ⟨ret_bool he.out.symm, hB.out⟩
theorem impl_isObjectIs (a0 : Option Addr) (n c0 : Nat) (a1 : Option Addr) (m c1 : Nat) (o : Int) (r : Bool) (w : World) (hn : n ≤ 9223372036854775807) (hr : isIn n o = r) :
    Calls Try.prog 58 #[.agg #[.slice a0 n c0, .slice a1 m c1], .int .i64 o] w fun e w' => e = .returned (.bool r) ∧ Below w.heap.size w w' := by
  subst hr; exact impl_isObject a0 n c0 a1 m c1 o w hn
theorem impl_isDescIs (a0 : Option Addr) (n c0 : Nat) (a1 : Option Addr) (m c1 : Nat) (o : Int) (r : Bool) (w : World) (hn : m ≤ 9223372036854775807) (hr : isIn m o = r) :
    Calls Try.prog 59 #[.agg #[.slice a0 n c0, .slice a1 m c1], .int .i64 o] w fun e w' => e = .returned (.bool r) ∧ Below w.heap.size w w' := by
  subst hr; exact impl_isDesc a0 n c0 a1 m c1 o w hn
set_option maxHeartbeats 4000000 in
theorem impl_hasObjectsOf (a0 : Option Addr) (n c0 : Nat) (a1 : Option Addr) (m c1 : Nat) (ow st : Int) (v : Value) (xs : List Entry) (w : World) (hn : n ≤ 9223372036854775807) (h : Entrys w v xs) :
    Calls Try.prog 45 #[.agg #[.slice a0 n c0, .slice a1 m c1], .agg #[.int .i64 ow, .int .i64 st, v]] w fun e w' => e = .returned (.bool (xs.all (objIn n))) ∧ Below w.heap.size w w' := by
  obtain ⟨ad, cap, rfl, hl, hm, hc⟩ := h.open
  clear h
  have hlen : xs.length ≤ 9223372036854775807 := by omega
  have HC := hid hc
  clear hc
  obtain ⟨W1, hW1⟩ : ∃ X, (w.alloc (.cells #[Value.slice a0 n c0, Value.slice a1 m c1] 67)).alloc (.cells #[.int .i64 ow, .int .i64 st, Value.slice ad xs.length cap] 45) = X := ⟨_, rfl⟩
  have hB1 : Below w.heap.size w W1 := by rw [← hW1]; exact ((Below.refl _ _).alloc (Nat.le_refl _) _).alloc (by simp) _
  have hN : w.heap.size + 2 = W1.heap.size := by rw [← hW1]; simp
  have k0 : W1.cell? ⟨w.heap.size, 0, none⟩ = some (Value.slice a0 n c0) := by rw [← hW1]; simp [go_sem]
  have k1 : W1.cell? ⟨w.heap.size, 1, none⟩ = some (Value.slice a1 m c1) := by rw [← hW1]; simp [go_sem]
  have k2 : W1.cell? ⟨w.heap.size + 1, 2, none⟩ = some (Value.slice ad xs.length cap) := by rw [← hW1]; simp [go_sem]
  go_enter Try.func45, Try.ntmps45
  go_wp2
  clear hW1
  go_loopw [10] (fun i wr => ∃ k : Nat, k ≤ xs.length ∧ i = .int .i64 k ∧ Same ((xs.drop k).all (objIn n)) (xs.all (objIn n)) ∧ Below W1.heap.size W1 wr) (fun i _ => xs.length - (intOf i).toNat)
  case atStart => exact ⟨0, by omega, rfl, .rfl, Below.refl _ _⟩
  case round =>
    obtain ⟨k, hk, rfl, hS, hB⟩ := hrel
    have hBr : Below w.heap.size w wr := hB1.trans (hB.mono hB1.size)
    have q0 := (hB.cell (p := ⟨w.heap.size, 0, none⟩) (by show w.heap.size < _; omega)).trans k0
    have q1 := (hB.cell (p := ⟨w.heap.size, 1, none⟩) (by show w.heap.size < _; omega)).trans k1
    have hNr : w.heap.size < wr.heap.size := Nat.lt_of_lt_of_le (show w.heap.size < W1.heap.size by omega) hB.size
    clear k0 k1 k2
    by_cases hlt : k < xs.length
    · obtain ⟨bb, off, rfl, hbs, c0, c1, c2, c3, c4⟩ := HC.out k hlt
      obtain ⟨e0, e1, e2, e3, e4⟩ := cells5 hBr hbs c0 c1 c2 c3 c4
      have hst := hid (all_step (objIn n) xs k hlt)
      have hob := hid (show objIn n xs[k] = isIn n xs[k].object_ from rfl)
      clear c0 c1 c2 c3 c4 HC
      go_wp2_with fail
      refine (impl_isObject a0 n c0 a1 m c1 _ _ hn).mono ?_
      rintro e w2 ⟨rfl, b2⟩
      have hB2 : Below wr.heap.size wr w2 := ((Below.refl _ _).alloc (Nat.le_refl _) _).trans (b2.mono (by simp))
      have hBW := hB.trans (hB2.mono hB.size)
      have hBw := hBr.trans (hB2.mono hBr.size)
      cases hq : isIn n xs[k].object_ with
      | false =>
        have Hn := hid (show xs.all (objIn n) = false by rw [← hS.out, hst.out, hob.out, hq]; rfl)
        go_wp2
        go_ret
        exact ⟨ret_bool Hn.out.symm, hBw⟩
      | true =>
        have Hn := hid (show (xs.drop (k+1)).all (objIn n) = xs.all (objIn n) by rw [← hS.out, hst.out, hob.out, hq]; rfl)
        go_wp2
        go_roundw
        case rel => exact ⟨k+1, by omega, by go_num, Same.mk Hn.out, hBW⟩
        case measure => simp [intOf]; omega
    · have Hn := hid (show xs.all (objIn n) = true by rw [← hS.out, all_end _ _ _ hlt])
      go_wp2
      go_ret
      exact ⟨ret_bool Hn.out.symm, hBr⟩
end Go.Proofs.Ytbbdchlabdilcaa
