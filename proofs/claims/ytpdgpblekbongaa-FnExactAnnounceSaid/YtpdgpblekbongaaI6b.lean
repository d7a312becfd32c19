/- Chapter 6's program: the place of an object; OpenOk, Opened. -/
import Derived.Test.YtpdgpblekbongaaI6
import Derived.Shelf.Abstract
namespace Go.Proofs.Ytpdgpblekbongaa
set_option maxRecDepth 100000
open Go.RowKit Go.Proofs Go.Own
open Go Go.BigFrame Go.Shelf
set_option linter.unusedVariables false
set_option linter.unusedSimpArgs false
theorem impl_placeOf1 (e : Entry) (o : Int) (B : Nat) (w : World) (hB : B < w.heap.size) (hc : w.cell? ⟨B, 0, none⟩ = some (.int .i64 o)) :
    Calls Try.prog 92 #[.agg #[.int .i64 e.object_, .int .i64 e.version_, .int .i64 e.old_, .int .i64 e.new_, .bool e.write_], .pointer (some ⟨B, 0, none⟩)] w fun r w' => r = .returned (.bool (e.object_ == o)) ∧ Below w.heap.size w w' := by
  have hne : B ≠ w.heap.size := by omega
  go_enter Try.func92, Try.ntmps92
  go_wp2
  go_ret
  exact ⟨rfl, (Below.refl _ _).alloc (Nat.le_refl _) _⟩
theorem impl_placeOf1Is (e : Entry) (o : Int) (r : Bool) (B : Nat) (w : World) (hB : B < w.heap.size) (hc : w.cell? ⟨B, 0, none⟩ = some (.int .i64 o)) (hr : (e.object_ == o) = r) :
    Calls Try.prog 92 #[.agg #[.int .i64 e.object_, .int .i64 e.version_, .int .i64 e.old_, .int .i64 e.new_, .bool e.write_], .pointer (some ⟨B, 0, none⟩)] w fun e w' => e = .returned (.bool r) ∧ Below w.heap.size w w' := by
  subst hr; exact impl_placeOf1 e o B w hB hc
set_option maxHeartbeats 4000000 in
theorem impl_IndexFunc (v : Value) (xs : List Entry) (o : Int) (B : Nat) (w : World) (h : Entrys w v xs) (hB : B < w.heap.size) (hc : w.cell? ⟨B, 0, none⟩ = some (.int .i64 o)) :
    Calls Try.prog 91 #[v, .func (.func 92) #[] #[.pointer (some ⟨B, 0, none⟩)]] w fun e w' => e = .returned (.int .i64 (placeC xs o)) ∧ Below w.heap.size w w' := by
  have eg : ∀ args w, (callFunc 92 args).run Try.prog w = .ok (.enter 92 args) w := enters_of Try.func92 (by kernel_rfl) rfl
  obtain ⟨ad, cap, rfl, hl, hm, hc0⟩ := h.open
  clear h
  have hlen : xs.length ≤ 9223372036854775807 := by omega
  have HC := hid hc0
  have HcB := hid hc
  clear hc0 hc
  go_enter Try.func91, Try.ntmps91
  go_wp2
  go_loopw [8] (fun i wr => ∃ k : Nat, k ≤ xs.length ∧ i = .int .i64 k ∧ Same (placeFrom xs o k) (placeC xs o) ∧ Below w.heap.size w wr) (fun i _ => xs.length - (intOf i).toNat)
  case atStart => exact ⟨0, by omega, rfl, .rfl, Below.refl _ _⟩
  case round =>
    obtain ⟨k, hk, rfl, hS, hW⟩ := hrel
    by_cases hlt : k < xs.length
    · obtain ⟨bb, off, rfl, hbs, c0, c1, c2, c3, c4⟩ := HC.out k hlt
      obtain ⟨e0, e1, e2, e3, e4⟩ := cells5 hW hbs c0 c1 c2 c3 c4
      have hcB := hid ((hW.cell (p := ⟨B, 0, none⟩) hB).trans HcB.out)
      have hBr := Nat.lt_of_lt_of_le hB hW.size
      have hst := hid (placeFrom_step xs o k hlt)
      clear c0 c1 c2 c3 c4 HC HcB
      cases hq : (xs[k].object_ == o) with
      | true =>
        have heq := hid (show xs[k].object_ = o by simpa using hq)
        have Hq := hid hq
        clear hq
        go_wp2_with (go_at_fn 92; refine (impl_placeOf1Is xs[k] o _ B _ hBr hcB.out Hq.out).mono ?_; rintro e w2 ⟨rfl, b2⟩)
        have hW2 := hW.trans (b2.mono hW.size)
        go_ret
        exact ⟨ret_int (by rw [← hS.out, hst.out, if_pos heq.out]), hW2⟩
      | false =>
        have heq := hid (show ¬ xs[k].object_ = o by simpa using hq)
        have Hq := hid hq
        clear hq
        go_wp2_with (go_at_fn 92; refine (impl_placeOf1Is xs[k] o _ B _ hBr hcB.out Hq.out).mono ?_; rintro e w2 ⟨rfl, b2⟩)
        have hW2 := hW.trans (b2.mono hW.size)
        go_roundw
        case rel => exact ⟨k+1, by omega, by go_num, Same.mk (by have h9 := hst.out; rw [if_neg heq.out] at h9; rw [← h9]; exact hS.out), hW2⟩
        case measure => simp [intOf]; omega
    · have He := hid (placeFrom_end xs o k hlt)
      go_wp2
      go_ret
      exact ⟨ret_int (by rw [← hS.out, He.out]), hW⟩
theorem impl_placeOf (v : Value) (xs : List Entry) (o : Int) (w : World) (h : Entrys w v xs) :
    Calls Try.prog 80 #[v, .int .i64 o] w fun e w' => e = .returned (.int .i64 (placeC xs o)) ∧ Below w.heap.size w w' := by
  have hmf : ∀ (fn : Fn) (first cap : Array Value) (w : World), (Instr.makeFunc fn first cap).run Try.prog w = .ok (.func fn first cap) w := fun _ _ _ _ => rfl
  obtain ⟨W1, hW1⟩ : ∃ X, w.alloc (.cells #[.int .i64 o] 3) = X := ⟨_, rfl⟩
  have hB1 : Below w.heap.size w W1 := by rw [← hW1]; exact (Below.refl _ _).alloc (Nat.le_refl _) _
  have hN : w.heap.size < W1.heap.size := by rw [← hW1]; simp
  have k0 : W1.cell? ⟨w.heap.size, 0, none⟩ = some (.int .i64 o) := by rw [← hW1]; simp [go_sem]
  have h1 := hid (Entrys.below h hB1)
  go_enter Try.func80, Try.ntmps80
  go_wp2_with fail
  refine (impl_IndexFunc v xs o w.heap.size _ h1.out hN k0).mono ?_
  rintro e w2 ⟨rfl, b2⟩
  have hB2 := hB1.trans (b2.mono hB1.size)
  go_wp2
  go_ret
  exact ⟨rfl, hB2⟩
theorem impl_placeOfIs (v : Value) (xs : List Entry) (o : Int) (r : Int) (w : World) (h : Entrys w v xs) (hr : placeC xs o = r) :
    Calls Try.prog 80 #[v, .int .i64 o] w fun e w' => e = .returned (.int .i64 r) ∧ Below w.heap.size w w' := by
  subst hr; exact impl_placeOf v xs o w h
theorem impl_entryOkIs (e : Entry) (r : Bool) (w : World) (hr : entryOk e = r) :
    Calls Try.prog 89 #[.agg #[.int .i64 e.object_, .int .i64 e.version_, .int .i64 e.old_, .int .i64 e.new_, .bool e.write_]] w fun e w' => e = .returned (.bool r) ∧ Below w.heap.size w w' := by
  subst hr; exact impl_entryOk e w
end Go.Proofs.Ytpdgpblekbongaa
