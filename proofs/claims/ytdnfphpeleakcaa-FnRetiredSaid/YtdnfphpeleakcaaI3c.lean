/- Chapter 3's program: class, ClassOf. -/
import Derived.Test.YtdnfphpeleakcaaI3b
import Derived.Test.YtdnfphpeleakcaaF3b
import Derived.Test.YtdnfphpeleakcaaOr3
namespace Go.Proofs.Ytdnfphpeleakcaa
set_option maxRecDepth 100000
open Go.RowKit Go.Proofs Go.Own
open Go Go.BigFrame
set_option linter.unusedVariables false
set_option linter.unusedSimpArgs false

/-- The first place from k on, or -1. -/
def indexFrom (xs : List Int) (x : Int) (k : Nat) : Int := if hasFrom xs x k then ((xs.drop k).idxOf x : Int) + k else -1
theorem hasFrom_step2 (xs : List Int) (x : Int) (k : Nat) (h : k < xs.length) : hasFrom xs x k = (decide (xs[k] = x) || hasFrom xs x (k+1)) := by
  simp only [hasFrom]
  rw [List.drop_eq_getElem_cons h, Bool.eq_iff_iff]
  simp only [List.mem_cons, decide_eq_true_eq, Bool.or_eq_true]
  constructor
  · rintro (e | e); exact .inl e.symm; exact .inr e
  · rintro (e | e); exact .inl e.symm; exact .inr e
theorem slices_Index (v : Value) (xs : List Int) (x : Int) (w : World) (h : Ints w v xs) :
    Calls Try.prog 98 #[v, .int .i64 x] w fun e w' => (∃ r : Int, e = .returned (.int .i64 r) ∧ decide (0 ≤ r) = hasFrom xs x 0) ∧ w = w' := by
  obtain ⟨ad, cap, rfl, hl, hm, hc⟩ := h.open
  have hlen : xs.length ≤ 9223372036854775807 := by omega
  go_enter Try.func98, Try.ntmps98
  go_wp2
  go_loop [8] (fun i => ∃ k : Nat, k ≤ xs.length ∧ i = .int .i64 k ∧ Same (hasFrom xs x 0) (hasFrom xs x k)) (fun i => xs.length - (intOf i).toNat)
  case atStart => exact ⟨0, by omega, rfl, .rfl⟩
  case round =>
    obtain ⟨k, hk, rfl, hall⟩ := hrel
    by_cases hlt : k < xs.length
    · obtain ⟨bb, off, rfl, hbs, hcell⟩ := hc k hlt
      have hst := hid (hasFrom_step2 xs x k hlt)
      clear hc
      cases he : (x == xs[k])
      case true =>
        have he' := hid he
        go_wp2
        go_ret
        exact ⟨⟨k, rfl, by rw [hall.out, hst.out]; have := he'.out; simp at this; simp [this]⟩, rfl⟩
      case false =>
        have he' := hid he
        go_wp2
        go_round
        case rel => exact ⟨k+1, by omega, by go_num, .mk (by rw [hall.out, hst.out]; have := he'.out; simp only [beq_eq_false_iff_ne, ne_eq] at this; simp [Ne.symm this])⟩
        case measure => simp [intOf]; omega
    · have hst := hid (show hasFrom xs x k = false by simp [hasFrom, List.drop_eq_nil_of_le (Nat.le_of_not_lt hlt)])
      go_wp2
      go_ret
      exact ⟨⟨-1, rfl, by rw [hall.out, hst.out]; decide⟩, rfl⟩
theorem slices_Contains (v : Value) (xs : List Int) (x : Int) (w : World) (h : Ints w v xs) :
    Calls Try.prog 81 #[v, .int .i64 x] w fun e w' => e = .returned (.bool (hasFrom xs x 0)) ∧ w = w' := by
  obtain ⟨a, cap, rfl, hl, hm⟩ := h.form
  go_enter Try.func81, Try.ntmps81
  go_wp2_with fail
  refine (slices_Index _ xs x _ h).mono ?_
  rintro e w' ⟨⟨r, rfl, hr⟩, rfl⟩
  go_wp2
  go_ret
  first | exact ⟨rfl, rfl⟩ | exact ⟨ret_bool hr, rfl⟩

set_option maxRecDepth 100000 in set_option maxHeartbeats 2000000 in
theorem impl_isThread (v0 : Value) (bs : List Block) (v1 : Value) (ls : List Int) (v2 : Value) (ps : List Int) (v3 : Value) (gs : List Gone) (n : Int) (t : Int) (w : World) (h0 : Blocks w v0 bs) (h1 : Ints w v1 ls) (h2 : Ints w v2 ps) (h3 : Gones w v3 gs) :
    Calls Try.prog 73 #[.agg #[v0, v1, v2, v3, .int .i64 n], .int .i64 t] w fun e w' => e = .returned (.bool (inB t 0 (ps.length - 1))) ∧ Below w.heap.size w w' := by
  obtain ⟨a0, cap0, rfl, hl0, hm0⟩ := h0.form; obtain ⟨a1, cap1, rfl, hl1, hm1⟩ := h1.form; obtain ⟨a2, cap2, rfl, hl2, hm2⟩ := h2.form; obtain ⟨a3, cap3, rfl, hl3, hm3⟩ := h3.form; obtain ⟨W1, hW1⟩ : ∃ X, (w.alloc (.cells #[Value.slice a0 bs.length cap0, Value.slice a1 ls.length cap1, Value.slice a2 ps.length cap2, Value.slice a3 gs.length cap3, .int .i64 n] 30)) = X := ⟨_, rfl⟩; have hB1 : Below w.heap.size w W1 := by rw [← hW1]; exact Below.alloc (Below.refl _ _) (by simp) _
  have hN : w.heap.size + 1 = W1.heap.size := by rw [← hW1]; simp
  have k2 : W1.cell? ⟨w.heap.size, 2, none⟩ = some (Value.slice a2 ps.length cap2) := by rw [← hW1]; simp [go_sem]
  have hX : inB t 0 (ps.length - 1) = (decide (0 ≤ t) && decide (t < ps.length)) := by simp only [inB]; rw [Bool.eq_iff_iff]; simp; omega
  have hX' := hid hX
  clear hX
  go_enter Try.func73, Try.ntmps73
  cases e1 : decide (0 ≤ t)
  all_goals go_wp2
  all_goals go_ret
  all_goals exact ⟨ret_bool (by rw [hX'.out, e1]; rfl), hB1⟩

set_option maxRecDepth 100000 in set_option maxHeartbeats 2000000 in
theorem impl_isRetired (v0 : Value) (bs : List Block) (v1 : Value) (ls : List Int) (v2 : Value) (ps : List Int) (v3 : Value) (gs : List Gone) (n : Int) (h : Int) (w : World) (h0 : Blocks w v0 bs) (h1 : Ints w v1 ls) (h2 : Ints w v2 ps) (h3 : Gones w v3 gs) :
    Calls Try.prog 43 #[.agg #[v0, v1, v2, v3, .int .i64 n], .int .i64 h] w fun e w' => e = .returned (.bool (decide (0 ≤ findF gs h))) ∧ Below w.heap.size w w' := by
  obtain ⟨a0, cap0, rfl, hl0, hm0⟩ := h0.form; obtain ⟨a1, cap1, rfl, hl1, hm1⟩ := h1.form; obtain ⟨a2, cap2, rfl, hl2, hm2⟩ := h2.form; obtain ⟨a3, cap3, rfl, hl3, hm3⟩ := h3.form; obtain ⟨W1, hW1⟩ : ∃ X, (w.alloc (.cells #[Value.slice a0 bs.length cap0, Value.slice a1 ls.length cap1, Value.slice a2 ps.length cap2, Value.slice a3 gs.length cap3, .int .i64 n] 30)) = X := ⟨_, rfl⟩; have hB1 : Below w.heap.size w W1 := by rw [← hW1]; exact Below.alloc (Below.refl _ _) (by simp) _
  have hN : w.heap.size + 1 = W1.heap.size := by rw [← hW1]; simp
  have k3 : W1.cell? ⟨w.heap.size, 3, none⟩ = some (Value.slice a3 gs.length cap3) := by rw [← hW1]; simp [go_sem]
  have h3w := Gones.below h3 hB1
  have hz := hid (findAt_zero gs h)
  go_enter Try.func43, Try.ntmps43
  go_wp2
  clear hW1 k3
  go_loopw [10] (fun i wr => ∃ k : Nat, k ≤ gs.length ∧ i = .int .i64 k ∧ Same (findF gs h) (findAt gs h k) ∧ Below W1.heap.size W1 wr) (fun i _ => gs.length - (intOf i).toNat)
  case atStart => exact ⟨0, by omega, rfl, .mk hz.out.symm, Below.refl _ _⟩
  case round =>
    obtain ⟨k, hk, rfl, hall, hB⟩ := hrel
    by_cases hlt : k < gs.length
    · obtain ⟨⟨gh, gp⟩, ho⟩ : ∃ o, Hid (gs[k] = o) := ⟨_, hid rfl⟩
      obtain ⟨bb, off, rfl, hbs, c0, c1⟩ := Gones.at (Gones.below h3w hB) k hlt _ ho
      have hst := hid (findAt_step gs h k hlt)
      rw [ho.out] at hst
      dsimp only at c0 c1 hst
      have hA := hid (Below.alloc hB (by have := hB.size; omega) (.cells #[.int .i64 gh, .int .i64 gp] 70))
      have hA2 := hid (hB1.trans (hA.out.mono (by omega)))
      cases he : (gh == h)
      case true =>
        have he' := hid he
        go_wp2
        go_ret
        exact ⟨ret_bool (by rw [hall.out, hst.out]; have := he'.out; simp at this; simp [this]), hA2.out⟩
      case false =>
        have he' := hid he
        go_wp2
        go_roundw
        case rel => exact ⟨k+1, by omega, by go_num, .mk (by rw [hall.out, hst.out]; have := he'.out; simp at this; simp [this]), hA.out⟩
        case measure => simp [intOf]; omega
    · have hst := hid (findAt_end gs h k hlt)
      have hE := hid (hB1.trans (hB.mono (by omega)))
      go_wp2
      go_ret
      exact ⟨ret_bool (by rw [hall.out, hst.out]; decide), hE.out⟩

set_option maxRecDepth 100000 in set_option maxHeartbeats 2000000 in
theorem impl_class (v0 : Value) (bs : List Block) (v1 : Value) (ls : List Int) (v2 : Value) (ps : List Int) (v3 : Value) (gs : List Gone) (n : Int) (p : Nat) (w : World) (h0 : Blocks w v0 bs) (h1 : Ints w v1 ls) (h2 : Ints w v2 ps) (h3 : Gones w v3 gs) (hok : arenaOk ⟨bs, ls⟩ = true) (hp : p < bs.length) :
    Calls Try.prog 44 #[.agg #[v0, v1, v2, v3, .int .i64 n], .int .i64 p] w fun e w' => e = .returned (.int .i64 (classAt bs ls gs p)) ∧ Below w.heap.size w w' := by
  obtain ⟨a0, cap0, rfl, hl0, hm0⟩ := h0.form; obtain ⟨a1, cap1, rfl, hl1, hm1⟩ := h1.form; obtain ⟨a2, cap2, rfl, hl2, hm2⟩ := h2.form; obtain ⟨a3, cap3, rfl, hl3, hm3⟩ := h3.form; obtain ⟨W1, hW1⟩ : ∃ X, (w.alloc (.cells #[Value.slice a0 bs.length cap0, Value.slice a1 ls.length cap1, Value.slice a2 ps.length cap2, Value.slice a3 gs.length cap3, .int .i64 n] 30)) = X := ⟨_, rfl⟩; have hB1 : Below w.heap.size w W1 := by rw [← hW1]; exact Below.alloc (Below.refl _ _) (by simp) _
  have hN : w.heap.size + 1 = W1.heap.size := by rw [← hW1]; simp
  have h0w := Blocks.below h0 hB1
  have h24 := (arenaOk_len hok).2
  obtain ⟨⟨g, fr, x0, x1, x2⟩, ho⟩ : ∃ o, Hid (bs[p] = o) := ⟨_, hid rfl⟩
  obtain ⟨hg0, hg5⟩ := block_gen hok p hp _ ho.out
  dsimp only at hg0 hg5
  obtain ⟨bb, off, rfl, hbs, c0, c1, c2, c3, c4⟩ := Blocks.at h0w p hp _ ho
  dsimp only at c0 c1 c2 c3 c4
  have hgd := hid (show bs.getD p zeroB = ⟨g, fr, x0, x1, x2⟩ by rw [List.getD, List.getElem?_eq_getElem hp]; exact ho.out)
  have hcl := hid (show classAt bs ls gs p = if hasFrom ls p 0 then 0 else if fr then 1 else if 0 ≤ findF gs (8 * p + g) then 2 else 3 by simp only [classAt, hgd.out])
  obtain ⟨V, hV⟩ : ∃ X, (W1.alloc (.cells #[.int .i64 g, .bool fr, .int .i64 x0, .int .i64 x1, .int .i64 x2] 64)) = X := ⟨_, rfl⟩
  have hBV : Below W1.heap.size W1 V := by rw [← hV]; exact Below.alloc (Below.refl _ _) (Nat.le_refl _) _
  have hNV : W1.heap.size + 1 = V.heap.size := by rw [← hV]; simp
  have yb : Box W1 w.heap.size [Value.slice (some ⟨bb, off, none⟩) bs.length cap0, Value.slice a1 ls.length cap1, Value.slice a2 ps.length cap2, Value.slice a3 gs.length cap3, .int .i64 n] := by rw [← hW1]; exact Box.alloc _ _ _
  have k0 : W1.cell? ⟨w.heap.size, 0, none⟩ = some (Value.slice (some ⟨bb, off, none⟩) bs.length cap0) := yb.2 0 (by simp)
  have ybV := yb.below hBV
  have y0 := Ext.cell ybV.1 (ybV.2 0 (by simp)); have y1 := Ext.cell ybV.1 (ybV.2 1 (by simp)); have y2 := Ext.cell ybV.1 (ybV.2 2 (by simp)); have y3 := Ext.cell ybV.1 (ybV.2 3 (by simp)); have y4 := Ext.cell ybV.1 (ybV.2 4 (by simp))
  have q1 := Ext.now y1
  have g0 : ∀ E : Ext V, E.w.cell? ⟨W1.heap.size, 0, none⟩ = some (.int .i64 g) := Ext.cell (by omega) (by rw [← hV]; simp [go_sem])
  have g1 : ∀ E : Ext V, E.w.cell? ⟨W1.heap.size, 1, none⟩ = some (.bool fr) := Ext.cell (by omega) (by rw [← hV]; simp [go_sem])
  have p1 := Ext.now g1
  have hBwV := hB1.trans (hBV.mono (by omega))
  have h0V := Blocks.below h0 hBwV; have h1V := Ints.below h1 hBwV; have h2V := Ints.below h2 hBwV; have h3V := Gones.below h3 hBwV
  have hE := hid (fun E : Ext V => hBwV.trans (E.h.mono (by omega)))
  have hpi : ((p : Int) < bs.length) := by omega
  go_enter Try.func44, Try.ntmps44
  clear hNV hg0 hg5
  cases e1 : hasFrom ls p 0
  case true =>
    go_wp2_with (first | (go_at_call 81; refine (slices_Contains _ ls _ _ h1V).mono ?_; rintro e w' ⟨rfl, rfl⟩))
    go_ret
    exact ⟨ret_int (by rw [hcl.out, e1]; rfl), hBwV⟩
  cases fr
  case true =>
    go_wp2_with (first | (go_at_call 81; refine (slices_Contains _ ls _ _ h1V).mono ?_; rintro e w' ⟨rfl, rfl⟩))
    go_ret
    exact ⟨ret_int (by rw [hcl.out, e1]; rfl), hBwV⟩
  go_wp2_with (first | (go_at_call 81; refine (slices_Contains _ ls _ _ h1V).mono ?_; rintro e w' ⟨rfl, rfl⟩))
  clear c0 c1 c2 c3 c4 hV k0 hW1
  refine wp_region_ext V (Below.refl _ _) (by kernel_rfl) (by kernel_rfl) ?_
  (repeat (go_big_quiet_step (first | (go_at_call 40; exact call_ext_same _ (impl_handleOf p g _ (by omega) (by have := block_gen hok p hp _ ho.out; dsimp only at this; omega) (by have := block_gen hok p hp _ ho.out; dsimp only at this; omega))) | (go_at_call 43; exact call_ext _ (impl_isRetired _ bs _ ls _ ps _ gs n _ _ (Ext.flat h0V _) (Ext.flat h1V _) (Ext.flat h2V _) (Ext.flat h3V _))))))
  refine wpQuiet_nil ?_; rintro _ ⟨E, rfl⟩
  cases e3 : decide (0 ≤ findF gs (8 * p + g))
  all_goals
    go_wp2
    go_ret
    exact ⟨ret_int (by rw [hcl.out, e1]; simp at e3; simp; omega), hE.out E⟩

set_option maxRecDepth 100000 in set_option maxHeartbeats 2000000 in
theorem impl_ClassOf0 (v0 : Value) (bs : List Block) (v1 : Value) (ls : List Int) (v2 : Value) (ps : List Int) (v3 : Value) (gs : List Gone) (n : Int) (p : Int) (w : World) (h0 : Blocks w v0 bs) (h1 : Ints w v1 ls) (h2 : Ints w v2 ps) (h3 : Gones w v3 gs) (hgi : GonesIn gs) :
    Calls Try.prog 17 #[.agg #[v0, v1, v2, v3, .int .i64 n], .int .i64 p] w fun e w' => e = .returned (.int .i64 (classF ⟨⟨bs, ls⟩, ps, gs, n⟩ p)) ∧ Below w.heap.size w w' := by
  obtain ⟨a0, cap0, rfl, hl0, hm0⟩ := h0.form; obtain ⟨a1, cap1, rfl, hl1, hm1⟩ := h1.form; obtain ⟨a2, cap2, rfl, hl2, hm2⟩ := h2.form; obtain ⟨a3, cap3, rfl, hl3, hm3⟩ := h3.form; obtain ⟨W1, hW1⟩ : ∃ X, (w.alloc (.cells #[Value.slice a0 bs.length cap0, Value.slice a1 ls.length cap1, Value.slice a2 ps.length cap2, Value.slice a3 gs.length cap3, .int .i64 n] 30)) = X := ⟨_, rfl⟩; have hB1 : Below w.heap.size w W1 := by rw [← hW1]; exact Below.alloc (Below.refl _ _) (by simp) _
  have hN : w.heap.size + 1 = W1.heap.size := by rw [← hW1]; simp
  have h0w := Blocks.below h0 hB1; have h1w := Ints.below h1 hB1; have h2w := Ints.below h2 hB1; have h3w := Gones.below h3 hB1
  have yb : Box W1 w.heap.size [Value.slice a0 bs.length cap0, Value.slice a1 ls.length cap1, Value.slice a2 ps.length cap2, Value.slice a3 gs.length cap3, .int .i64 n] := by rw [← hW1]; exact Box.alloc _ _ _
  have y0 := Ext.cell yb.1 (yb.2 0 (by simp)); have y1 := Ext.cell yb.1 (yb.2 1 (by simp)); have y2 := Ext.cell yb.1 (yb.2 2 (by simp)); have y3 := Ext.cell yb.1 (yb.2 3 (by simp)); have y4 := Ext.cell yb.1 (yb.2 4 (by simp))
  have q0 := Ext.now y0; have q1 := Ext.now y1; have q2 := Ext.now y2; have q3 := Ext.now y3; have q4 := Ext.now y4
  have hE := hid (fun E : Ext W1 => hB1.trans (E.h.mono (by omega)))
  go_enter Try.func17, Try.ntmps17
  go_wp2_with fail
  clear hW1 q0 q1 q2 q3 q4
  refine (impl_YardOk0 _ bs _ ls _ ps _ gs n _ h0w h1w h2w h3w hgi).mono ?_
  rintro e w2 ⟨rfl, b2⟩
  obtain ⟨E2, rfl⟩ := Ext.of b2
  cases e1 : yardOk ⟨⟨bs, ls⟩, ps, gs, n⟩
  case false =>
    have hno := hid (classF_no e1 p)
    go_wp2
    go_ret
    exact ⟨ret_int hno.out.symm, hE.out E2⟩
  by_cases hq : 0 ≤ p ∧ p < bs.length
  case neg =>
    have hno := hid (classF_out (y := ⟨⟨bs, ls⟩, ps, gs, n⟩) p (by simp only [inB]; rw [Bool.eq_false_iff]; simp; omega))
    by_cases hn : p < 0
    · go_wp2
      go_ret
      exact ⟨ret_int hno.out.symm, hE.out E2⟩
    · have hn2 : (bs.length : Int) ≤ p := by omega
      clear hq
      go_wp2
      go_ret
      exact ⟨ret_int hno.out.symm, hE.out E2⟩
  obtain ⟨q, rfl⟩ : ∃ q : Nat, p = q := ⟨p.toNat, by omega⟩
  have hq2 : q < bs.length := by omega
  have hok := yardOk_arena e1
  have hca := hid (classF_at e1 q hq2)
  have hn1 : ¬ ((q : Int) < 0) := by omega
  have hn2 : ¬ ((bs.length : Int) ≤ (q : Int)) := by omega
  clear hq
  have h0E := Ext.flat h0w E2; have h1E := Ext.flat h1w E2; have h2E := Ext.flat h2w E2; have h3E := Ext.flat h3w E2
  go_wp2_with fail
  refine (impl_class _ bs _ ls _ ps _ gs n q _ h0E h1E h2E h3E hok hq2).mono ?_
  rintro e w2 ⟨rfl, b3⟩
  obtain ⟨E3, rfl⟩ := Ext.ex E2 b3
  go_wp2
  go_ret
  exact ⟨ret_int hca.out.symm, hE.out E3⟩
theorem impl_ClassOf (v0 : Value) (bs : List Block) (v1 : Value) (ls : List Int) (v2 : Value) (ps : List Int) (v3 : Value) (gs : List Gone) (n : Int) (p : Int) (w : World) (h0 : Blocks w v0 bs) (_hx0 : bs.length ≤ 1048576) (h1 : Ints w v1 ls) (_hx1 : ls.length ≤ 1048576) (h2 : Ints w v2 ps) (_hx2 : ps.length ≤ 1048576) (h3 : Gones w v3 gs) (_hx3 : gs.length ≤ 1048576) (hgi : GonesIn gs := by assumption) :
    Calls Try.prog 17 #[.agg #[v0, v1, v2, v3, .int .i64 n], .int .i64 p] w fun e w' => e = .returned (.int .i64 (classF ⟨⟨bs, ls⟩, ps, gs, n⟩ p)) ∧ Below w.heap.size w w' := impl_ClassOf0 v0 bs v1 ls v2 ps v3 gs n p w h0 h1 h2 h3 hgi
end Go.Proofs.Ytdnfphpeleakcaa
