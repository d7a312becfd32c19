/- Chapter 3's model: ClassOf. -/
import Derived.Test.YtdnfphpeleakcaaF3b
namespace Go.Proofs.Ytdnfphpeleakcaa
set_option maxRecDepth 100000
open Go.RowKit Go.Proofs Go.Own
open Go Go.BigFrame
set_option linter.unusedVariables false
set_option linter.unusedSimpArgs false

set_option maxRecDepth 100000 in set_option maxHeartbeats 2000000 in
theorem spec_ClassOf0 (v0 : Value) (bs : List Block) (v1 : Value) (ls : List Int) (v2 : Value) (ps : List Int) (v3 : Value) (gs : List Gone) (n : Int) (p : Int) (w : World) (h0 : Blocks w v0 bs) (h1 : Ints w v1 ls) (h2 : Ints w v2 ps) (h3 : Gones w v3 gs) :
    Calls Try.prog 33 #[.agg #[v0, v1, v2, v3, .int .i64 n], .int .i64 p] w fun e w' => e = .returned (.int .i64 (classF ⟨⟨bs, ls⟩, ps, gs, n⟩ p)) ∧ Below w.heap.size w w' := by
  obtain ⟨a0, cap0, rfl, hl0, hm0⟩ := h0.form; obtain ⟨a1, cap1, rfl, hl1, hm1⟩ := h1.form; obtain ⟨a2, cap2, rfl, hl2, hm2⟩ := h2.form; obtain ⟨a3, cap3, rfl, hl3, hm3⟩ := h3.form; obtain ⟨W1, hW1⟩ : ∃ X, (w.alloc (.cells #[Value.slice a0 bs.length cap0, Value.slice a1 ls.length cap1, Value.slice a2 ps.length cap2, Value.slice a3 gs.length cap3, .int .i64 n] 30)) = X := ⟨_, rfl⟩; have hB1 : Below w.heap.size w W1 := by rw [← hW1]; exact Below.alloc (Below.refl _ _) (by simp) _
  have hN : w.heap.size + 1 = W1.heap.size := by rw [← hW1]; simp
  have h0w := Blocks.below h0 hB1; have h1w := Ints.below h1 hB1; have h2w := Ints.below h2 hB1; have h3w := Gones.below h3 hB1
  have yb : Box W1 w.heap.size [Value.slice a0 bs.length cap0, Value.slice a1 ls.length cap1, Value.slice a2 ps.length cap2, Value.slice a3 gs.length cap3, .int .i64 n] := by rw [← hW1]; exact Box.alloc _ _ _
  have y0 := Ext.cell yb.1 (yb.2 0 (by simp)); have y1 := Ext.cell yb.1 (yb.2 1 (by simp)); have y2 := Ext.cell yb.1 (yb.2 2 (by simp)); have y3 := Ext.cell yb.1 (yb.2 3 (by simp)); have y4 := Ext.cell yb.1 (yb.2 4 (by simp))
  have q0 := Ext.now y0; have q1 := Ext.now y1; have q2 := Ext.now y2; have q3 := Ext.now y3; have q4 := Ext.now y4
  have hE := hid (fun E : Ext W1 => hB1.trans (E.h.mono (by omega)))
  have hlt0 := hid (show w.heap.size < W1.heap.size by omega)
  go_enter Try.func33, Try.ntmps33
  go_wp2_with fail
  clear hW1 q0 q1 q2 q3 q4
  refine (spec_YardOk0 _ bs _ ls _ ps _ gs n _ h0w h1w h2w h3w).mono ?_
  rintro e w2 ⟨rfl, b2⟩
  obtain ⟨E2, rfl⟩ := Ext.of b2
  cases e1 : yardOk ⟨⟨bs, ls⟩, ps, gs, n⟩
  case false =>
    have hno := hid (classF_no e1 p)
    go_wp2
    go_ret
    exact ⟨ret_int hno.out.symm, hE.out E2⟩
  cases e2 : inB p 0 (bs.length - 1)
  case false =>
    have hno := hid (classF_out (y := ⟨⟨bs, ls⟩, ps, gs, n⟩) p e2)
    go_wp2_with (first | (go_at_call 53; refine (spec_l1In _ _ _ _).mono ?_; rintro e w' ⟨rfl, rfl⟩))
    go_ret
    exact ⟨ret_int hno.out.symm, hE.out E2⟩
  obtain ⟨q, rfl⟩ : ∃ q : Nat, p = q := ⟨p.toNat, by simp [inB] at e2; omega⟩
  have hq : q < bs.length := by simp [inB] at e2; omega
  have hok := yardOk_arena e1
  have h24 := (arenaOk_len hok).2
  have hca := hid (classF_at e1 q hq)
  obtain ⟨⟨g, fr, x0, x1, x2⟩, ho⟩ : ∃ o, Hid (bs[q] = o) := ⟨_, hid rfl⟩
  obtain ⟨hg0, hg5⟩ := block_gen hok q hq _ ho.out
  dsimp only at hg0 hg5
  have hgd := hid (show bs.getD q zeroB = ⟨g, fr, x0, x1, x2⟩ by rw [List.getD, List.getElem?_eq_getElem hq]; exact ho.out)
  have hcl := hid (show classAt bs ls gs q = if hasFrom ls q 0 then 0 else if fr then 1 else if 0 ≤ findF gs (8 * q + g) then 2 else 3 by simp only [classAt, hgd.out])
  rw [hcl.out] at hca
  have h0E := Ext.flat h0w E2
  obtain ⟨bb, off, rfl, hbs, c0, c1, c2, c3, c4⟩ := Blocks.at h0E q hq _ ho
  dsimp only at c0 c1 c2 c3 c4
  obtain ⟨V, hV⟩ : ∃ X, (E2.w.alloc (.cells #[.int .i64 g, .bool fr, .int .i64 x0, .int .i64 x1, .int .i64 x2] 64)) = X := ⟨_, rfl⟩
  have hBV : Below W1.heap.size W1 V := by rw [← hV]; exact E2.alloc _
  have hNV : E2.w.heap.size + 1 = V.heap.size := by rw [← hV]; simp
  obtain ⟨EV, hEV⟩ := Ext.of hBV
  have g0 : EV.w.cell? ⟨E2.w.heap.size, 0, none⟩ = some (.int .i64 g) := by rw [← hEV, ← hV]; simp [go_sem]
  have g1 : EV.w.cell? ⟨E2.w.heap.size, 1, none⟩ = some (.bool fr) := by rw [← hEV, ← hV]; simp [go_sem]
  rw [hEV] at hV
  have h1V := Ext.flat h1w EV; have h3V := Ext.flat h3w EV
  have hend := hE.out EV
  have hpi : ((q : Int) < bs.length) := by omega
  clear hBV hNV hEV hok
  cases e3 : hasFrom ls q 0
  case true =>
    go_wp2_with (first | (go_at_call 53; refine (spec_l1In _ _ _ _).mono ?_; rintro e w' ⟨rfl, rfl⟩) | (go_at_call 76; refine (spec_l1Has _ _ _ _ h1V).mono ?_; rintro e w' ⟨rfl, rfl⟩))
    go_ret
    exact ⟨ret_int (by rw [hca.out, e3]; rfl), hend⟩
  cases fr
  case true =>
    go_wp2_with (first | (go_at_call 53; refine (spec_l1In _ _ _ _).mono ?_; rintro e w' ⟨rfl, rfl⟩) | (go_at_call 76; refine (spec_l1Has _ _ _ _ h1V).mono ?_; rintro e w' ⟨rfl, rfl⟩))
    go_ret
    exact ⟨ret_int (by rw [hca.out, e3]; rfl), hend⟩
  cases e4 : decide (0 ≤ findF gs (8 * q + g))
  all_goals
    go_wp2_with (first | (go_at_call 53; refine (spec_l1In _ _ _ _).mono ?_; rintro e w' ⟨rfl, rfl⟩) | (go_at_call 76; refine (spec_l1Has _ _ _ _ h1V).mono ?_; rintro e w' ⟨rfl, rfl⟩) | (go_at_call 56; refine (spec_l3Find _ gs _ _ h3V).mono ?_; rintro e w' ⟨rfl, rfl⟩))
    go_ret
    exact ⟨ret_int (by rw [hca.out, e3]; simp at e4; simp; omega), hend⟩
theorem spec_ClassOf (v0 : Value) (bs : List Block) (v1 : Value) (ls : List Int) (v2 : Value) (ps : List Int) (v3 : Value) (gs : List Gone) (n : Int) (p : Int) (w : World) (h0 : Blocks w v0 bs) (_hx0 : bs.length ≤ 1048576) (h1 : Ints w v1 ls) (_hx1 : ls.length ≤ 1048576) (h2 : Ints w v2 ps) (_hx2 : ps.length ≤ 1048576) (h3 : Gones w v3 gs) (_hx3 : gs.length ≤ 1048576) :
    Calls Try.prog 33 #[.agg #[v0, v1, v2, v3, .int .i64 n], .int .i64 p] w fun e w' => e = .returned (.int .i64 (classF ⟨⟨bs, ls⟩, ps, gs, n⟩ p)) ∧ Below w.heap.size w w' := spec_ClassOf0 v0 bs v1 ls v2 ps v3 gs n p w h0 h1 h2 h3
end Go.Proofs.Ytdnfphpeleakcaa
