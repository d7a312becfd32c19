/- Chapter 3's model: YardOk. -/
import Derived.Test.YtdnfphpeleakcaaS3
import Derived.Deep.RegionHeld3
namespace Go.Proofs.Ytdnfphpeleakcaa
set_option maxRecDepth 100000
open Go.RowKit Go.Proofs Go.Own
set_option linter.unusedVariables false
set_option linter.unusedSimpArgs false

theorem allIn_all (xs : List Int) (a b : Int) : allIn xs a b 0 = xs.all (inB · a b) := by simp [allIn]
/-- The part of YardOk ahead of its loop. -/
def yardTop (y : Yard) : Bool := arenaOk y.arena && (inB y.passes 0 1000000 && (inB y.pins.length 1 6 && (allIn y.pins (-1) y.passes 0 && decide (y.retired.length ≤ 24))))
theorem yardOk_top (y : Yard) : yardOk y = (yardTop y && (List.range y.retired.length).all (goneOk y)) := by
  simp only [yardOk, yardTop, allIn_all, Bool.and_assoc]

set_option maxRecDepth 100000 in set_option maxHeartbeats 2000000 in
theorem spec_YardOk_top (v0 : Value) (bs : List Block) (v1 : Value) (ls : List Int) (v2 : Value) (ps : List Int) (v3 : Value) (gs : List Gone) (n : Int) (w : World) (h0 : Blocks w v0 bs) (h1 : Ints w v1 ls) (h2 : Ints w v2 ps) (h3 : Gones w v3 gs)
    (hno : yardTop ⟨⟨bs, ls⟩, ps, gs, n⟩ = false) :
    Calls Try.prog 20 #[.agg #[v0, v1, v2, v3, .int .i64 n]] w fun e w' => e = .returned (.bool (yardOk ⟨⟨bs, ls⟩, ps, gs, n⟩)) ∧ Below w.heap.size w w' := by
  have hY := hid (show yardOk ⟨⟨bs, ls⟩, ps, gs, n⟩ = false by rw [yardOk_top, hno]; rfl)
  obtain ⟨a0, cap0, rfl, hl0, hm0⟩ := h0.form; obtain ⟨a1, cap1, rfl, hl1, hm1⟩ := h1.form; obtain ⟨a2, cap2, rfl, hl2, hm2⟩ := h2.form; obtain ⟨a3, cap3, rfl, hl3, hm3⟩ := h3.form; obtain ⟨W1, hW1⟩ : ∃ X, (w.alloc (.cells #[Value.slice a0 bs.length cap0, Value.slice a1 ls.length cap1, Value.slice a2 ps.length cap2, Value.slice a3 gs.length cap3, .int .i64 n] 30)) = X := ⟨_, rfl⟩; have hB1 : Below w.heap.size w W1 := by rw [← hW1]; exact Below.alloc (Below.refl _ _) (by simp) _
  have hN : w.heap.size + 1 = W1.heap.size := by rw [← hW1]; simp
  have k0 : W1.cell? ⟨w.heap.size, 0, none⟩ = some (Value.slice a0 bs.length cap0) := by rw [← hW1]; simp [go_sem]
  have k1 : W1.cell? ⟨w.heap.size, 1, none⟩ = some (Value.slice a1 ls.length cap1) := by rw [← hW1]; simp [go_sem]
  have k2 : W1.cell? ⟨w.heap.size, 2, none⟩ = some (Value.slice a2 ps.length cap2) := by rw [← hW1]; simp [go_sem]
  have k3 : W1.cell? ⟨w.heap.size, 3, none⟩ = some (Value.slice a3 gs.length cap3) := by rw [← hW1]; simp [go_sem]
  have k4 : W1.cell? ⟨w.heap.size, 4, none⟩ = some (.int .i64 n) := by rw [← hW1]; simp [go_sem]
  have h0w := Blocks.below h0 hB1; have h1w := Ints.below h1 hB1; have h2w := Ints.below h2 hB1
  have hcase : arenaOk ⟨bs, ls⟩ = false ∨ (arenaOk ⟨bs, ls⟩ = true ∧ inB n 0 1000000 = false) ∨ (arenaOk ⟨bs, ls⟩ = true ∧ inB n 0 1000000 = true ∧ inB ps.length 1 6 = false) ∨ (arenaOk ⟨bs, ls⟩ = true ∧ inB n 0 1000000 = true ∧ inB ps.length 1 6 = true ∧ allIn ps (-1) n 0 = false) ∨ (arenaOk ⟨bs, ls⟩ = true ∧ inB n 0 1000000 = true ∧ inB ps.length 1 6 = true ∧ allIn ps (-1) n 0 = true ∧ 24 < gs.length) := by
    simp only [yardTop] at hno
    cases e1 : arenaOk ⟨bs, ls⟩ <;> cases e2 : inB n 0 1000000 <;> cases e3 : inB ps.length 1 6 <;> cases e4 : allIn ps (-1) n 0 <;> simp_all
  clear hno
  go_enter Try.func20, Try.ntmps20
  go_wp2_with fail
  refine (spec_ArenaOk0 _ bs _ ls _ h0w h1w).mono ?_
  rintro e w2 ⟨rfl, b2⟩
  have hcl : ∀ o, w2.cell? ⟨w.heap.size, o, none⟩ = W1.cell? ⟨w.heap.size, o, none⟩ := fun o => b2.cell (p := ⟨w.heap.size, o, none⟩) (show w.heap.size < _ by omega)
  rw [← hcl] at k0 k1 k2 k3 k4
  have h2v := Ints.below h2w b2
  have hend := hB1.trans (b2.mono (by omega))
  clear hW1 hcl
  rcases hcase with e1 | ⟨e1, e2⟩ | ⟨e1, e2, e3⟩ | ⟨e1, e2, e3, e4⟩ | ⟨e1, e2, e3, e4, e5⟩
  all_goals
    rw [e1]
    go_wp2_with (first | (go_at_call 53; refine (spec_l1In _ _ _ _).mono ?_; rintro e w' ⟨rfl, rfl⟩) | (go_at_call 54; refine (spec_l1All _ _ _ _ _ h2v).mono ?_; rintro e w' ⟨rfl, rfl⟩))
    go_ret
    exact ⟨ret_bool hY.out.symm, hend⟩

def yardPre (y : Yard) (k : Nat) : Prop := ∀ j, j < k → goneOk y j = true
theorem yardPre_succ {y : Yard} {k : Nat} (h : yardPre y k) (hb : goneOk y k = true) : yardPre y (k+1) := by
  intro j hjk
  by_cases e : j = k
  · subst e; exact hb
  · exact h j (by omega)
theorem yardOk_end {y : Yard} (ht : yardTop y = true) (h : yardPre y y.retired.length) : yardOk y = true := by
  rw [yardOk_top, ht, Bool.true_and, List.all_eq_true]; intro j hj; exact h j (List.mem_range.1 hj)
theorem yardOk_gone {y : Yard} {k : Nat} (hk : k < y.retired.length) (h : goneOk y k = false) : yardOk y = false := by
  have : (List.range y.retired.length).all (goneOk y) = false := by
    rw [List.all_eq_false]; exact ⟨k, List.mem_range.2 hk, by simp [h]⟩
  rw [yardOk_top, this, Bool.and_false]
theorem goneOk_at {a : Arena} {ps : List Int} {gs : List Gone} {n : Int} {k : Nat} (hk : k < gs.length) (h p : Int) (hg : gs[k] = ⟨h, p⟩) :
    goneOk ⟨a, ps, gs, n⟩ k = (liveF a h && inB p 0 n && !(decide (0 < k) && decide ((gs.getD (k - 1) zeroG).pass_ > p)) && !decide (0 ≤ findF (gs.take k) h)) := by
  have e : gs.getD k zeroG = ⟨h, p⟩ := by rw [List.getD, List.getElem?_eq_getElem hk]; exact hg
  simp only [goneOk]; rw [e]

theorem spec_LiveIs (v0 : Value) (bs : List Block) (v1 : Value) (ls : List Int) (h : Int) (b : Bool) (w : World) (h0 : Blocks w v0 bs) (h1 : Ints w v1 ls) (e : liveF ⟨bs, ls⟩ h = b) :
    Calls Try.prog 55 #[.agg #[v0, v1], .int .i64 h] w fun e w' => e = .returned (.bool b) ∧ Below w.heap.size w w' := e ▸ spec_Live0 v0 bs v1 ls h w h0 h1
theorem spec_inIs (x a b : Int) (r : Bool) (w : World) (e : inB x a b = r) :
    Calls Try.prog 53 #[.int .i64 x, .int .i64 a, .int .i64 b] w fun e w' => e = .returned (.bool r) ∧ w = w' := e ▸ spec_l1In x a b w
theorem spec_findIs (v : Value) (xs : List Gone) (x r : Int) (w : World) (h : Gones w v xs) (e : findF xs x = r) :
    Calls Try.prog 56 #[v, .int .i64 x] w fun e w' => e = .returned (.int .i64 r) ∧ w = w' := e ▸ spec_l3Find v xs x w h
end Go.Proofs.Ytdnfphpeleakcaa
