/- Chapter 3's program: Counts. -/
import Derived.Test.YtdnfphpeleakcaaI3c
import Derived.Test.YtdnfphpeleakcaaF3c
namespace Go.Proofs.Ytdnfphpeleakcaa
set_option maxRecDepth 100000
open Go.RowKit Go.Proofs Go.Own
open Go
set_option linter.unusedVariables false
set_option linter.unusedSimpArgs false

set_option maxRecDepth 100000 in set_option maxHeartbeats 2000000 in
theorem impl_Counts0 (v0 : Value) (bs : List Block) (v1 : Value) (ls : List Int) (v2 : Value) (ps : List Int) (v3 : Value) (gs : List Gone) (n : Int) (w : World) (h0 : Blocks w v0 bs) (h1 : Ints w v1 ls) (h2 : Ints w v2 ps) (h3 : Gones w v3 gs) (hgi : GonesIn gs) :
    Calls Try.prog 35 #[.agg #[v0, v1, v2, v3, .int .i64 n]] w fun e w' => e = .returned (.tuple #[.agg #[.int .i64 (cntF ⟨⟨bs, ls⟩, ps, gs, n⟩ 0), .int .i64 (cntF ⟨⟨bs, ls⟩, ps, gs, n⟩ 1), .int .i64 (cntF ⟨⟨bs, ls⟩, ps, gs, n⟩ 2), .int .i64 (cntF ⟨⟨bs, ls⟩, ps, gs, n⟩ 3)], .bool (yardOk ⟨⟨bs, ls⟩, ps, gs, n⟩)]) ∧ Below w.heap.size w w' := by
  obtain ⟨a0, cap0, rfl, hl0, hm0⟩ := h0.form; obtain ⟨a1, cap1, rfl, hl1, hm1⟩ := h1.form; obtain ⟨a2, cap2, rfl, hl2, hm2⟩ := h2.form; obtain ⟨a3, cap3, rfl, hl3, hm3⟩ := h3.form; obtain ⟨W1, hW1⟩ : ∃ X, (w.alloc (.cells #[Value.slice a0 bs.length cap0, Value.slice a1 ls.length cap1, Value.slice a2 ps.length cap2, Value.slice a3 gs.length cap3, .int .i64 n] 30)) = X := ⟨_, rfl⟩; have hB1 : Below w.heap.size w W1 := by rw [← hW1]; exact Below.alloc (Below.refl _ _) (by simp) _
  have hN : w.heap.size + 1 = W1.heap.size := by rw [← hW1]; simp
  obtain ⟨W2, hW2⟩ : ∃ X, (W1.alloc (.cells #[.int .i64 0, .int .i64 0, .int .i64 0, .int .i64 0] 54)) = X := ⟨_, rfl⟩
  have hB2 : Below W1.heap.size W1 W2 := by rw [← hW2]; exact (Below.refl _ _).alloc (Nat.le_refl _) _
  have hN2 : W1.heap.size + 1 = W2.heap.size := by rw [← hW2]; simp
  obtain ⟨W3, hW3⟩ : ∃ X, (W2.alloc (.cells #[.int .i64 0, .int .i64 0, .int .i64 0, .int .i64 0] 54)) = X := ⟨_, rfl⟩
  have hB3 : Below W2.heap.size W2 W3 := by rw [← hW3]; exact (Below.refl _ _).alloc (Nat.le_refl _) _
  have hN3 : W2.heap.size + 1 = W3.heap.size := by rw [← hW3]; simp
  have yb : Box W1 w.heap.size [Value.slice a0 bs.length cap0, Value.slice a1 ls.length cap1, Value.slice a2 ps.length cap2, Value.slice a3 gs.length cap3, .int .i64 n] := by rw [← hW1]; exact Box.alloc _ _ _
  have rb : BoxF W2 W1.heap.size [.int .i64 0, .int .i64 0, .int .i64 0, .int .i64 0] := by rw [← hW2]; exact BoxF.alloc _ _ _
  have ob : BoxF W3 W2.heap.size [.int .i64 0, .int .i64 0, .int .i64 0, .int .i64 0] := by rw [← hW3]; exact BoxF.alloc _ _ _
  replace yb := (yb.below hB2).below hB3
  replace rb := rb.below hB3
  have hBw : Below w.heap.size w W3 := (hB1.trans (hB2.mono (by omega))).trans (hB3.mono (by omega))
  have h0w := Blocks.below h0 hBw; have h1w := Ints.below h1 hBw; have h2w := Ints.below h2 hBw; have h3w := Gones.below h3 hBw
  have y0 := Ext.cell yb.1 (yb.2 0 (by simp)); have y1 := Ext.cell yb.1 (yb.2 1 (by simp)); have y2 := Ext.cell yb.1 (yb.2 2 (by simp)); have y3 := Ext.cell yb.1 (yb.2 3 (by simp)); have y4 := Ext.cell yb.1 (yb.2 4 (by simp))
  have q0 := Ext.now y0; have q1 := Ext.now y1; have q2 := Ext.now y2; have q3 := Ext.now y3; have q4 := Ext.now y4
  go_enter Try.func35, Try.ntmps35
  go_wp2_with fail
  clear hW1 hW2 hW3 q0 q1 q2 q3 q4
  refine (impl_YardOk0 _ bs _ ls _ ps _ gs n _ h0w h1w h2w h3w hgi).mono ?_
  rintro e w4 ⟨rfl, b4⟩
  have hB4 : Below w.heap.size w w4 := hBw.trans (b4.mono (by omega))
  obtain ⟨E, rfl⟩ := Ext.of b4
  have rE := rb.below b4
  have oE := ob.below b4
  have s0 := rE.1.2 0 (by simp); have s1 := rE.1.2 1 (by simp); have s2 := rE.1.2 2 (by simp); have s3 := rE.1.2 3 (by simp)
  have f0 := rE.2 0 (by simp); have f1 := rE.2 1 (by simp); have f2 := rE.2 2 (by simp); have f3 := rE.2 3 (by simp)
  have t0 := oE.1.2 0 (by simp); have t1 := oE.1.2 1 (by simp); have t2 := oE.1.2 2 (by simp); have t3 := oE.1.2 3 (by simp)
  simp only [List.getElem?_cons_zero, List.getElem?_cons_succ] at s0 s1 s2 s3 t0 t1 t2 t3
  cases hY : yardOk ⟨⟨bs, ls⟩, ps, gs, n⟩
  case false =>
    have HN := hid (fun c => show cntF ⟨⟨bs, ls⟩, ps, gs, n⟩ c = 0 by simp [cntF, hY])
    go_wp2
    refine bodyPost_ret (v := .tuple #[.agg #[.int .i64 0, .int .i64 0, .int .i64 0, .int .i64 0], .bool false]) ?_ rfl ⟨by simp only [HN.out, hY], ?_⟩
    · simp [results, Try.results35, go_sem, s0, s1, s2, s3]
    · repeat (refine Below.setCell ?_ (by show w.heap.size ≤ W1.heap.size; omega) _)
      exact hB4
  have hok := yardOk_arena hY
  have h24 := (arenaOk_len hok).2
  have HN := hid (fun c => show cntF ⟨⟨bs, ls⟩, ps, gs, n⟩ c = cntOf bs ls gs c bs.length by simp [cntF, hY])
  have ybE := yb.below b4
  have hsz4 := b4.size
  have HS := hid (show w.heap.size + 1 = W1.heap.size ∧ W1.heap.size + 1 = W2.heap.size ∧ W2.heap.size + 1 = W3.heap.size from ⟨hN, hN2, hN3⟩)
  have y0' := y0 E
  go_wp2
  clear s0 s1 s2 s3 f0 f1 f2 f3 t0 t1 t2 t3 y0' hN hN2 hN3
  go_loopw [14] (fun i wr => ∃ k : Nat, k ≤ bs.length ∧ i = .int .i64 k ∧ Box wr w.heap.size [Value.slice a0 bs.length cap0, Value.slice a1 ls.length cap1, Value.slice a2 ps.length cap2, Value.slice a3 gs.length cap3, .int .i64 n] ∧ BoxF wr W2.heap.size [.int .i64 (cntOf bs ls gs 0 k), .int .i64 (cntOf bs ls gs 1 k), .int .i64 (cntOf bs ls gs 2 k), .int .i64 (cntOf bs ls gs 3 k)] ∧ BoxF wr W1.heap.size [.int .i64 0, .int .i64 0, .int .i64 0, .int .i64 0] ∧ Below w.heap.size w wr ∧ W3.heap.size ≤ wr.heap.size) (fun i _ => bs.length - (intOf i).toNat)
  case atStart => exact ⟨0, by omega, rfl, ybE, oE, rE, hB4, hsz4⟩
  case round =>
    clear ybE oE rE hB4 hsz4 y0 y1 y2 y3 y4 yb rb ob
    obtain ⟨k, hk, rfl, yb, ob, rb, hB, hsz⟩ := hrel
    have y0 := yb.2 0 (by simp); have y1 := yb.2 1 (by simp); have y2 := yb.2 2 (by simp); have y3 := yb.2 3 (by simp); have y4 := yb.2 4 (by simp)
    simp only [List.getElem?_cons_zero, List.getElem?_cons_succ] at y0 y1 y2 y3 y4
    by_cases hlt : k < bs.length
    · go_wp2_with fail
      refine (impl_class _ bs _ ls _ ps _ gs n k _ (Blocks.below h0 hB) (Ints.below h1 hB) (Ints.below h2 hB) (Gones.below h3 hB) hok hlt).mono ?_
      rintro e w5 ⟨rfl, b5⟩
      replace yb := yb.below b5
      replace ob := ob.below b5
      replace rb := rb.below b5
      replace hB := hB.trans (b5.mono (by have := HS.out; omega))
      replace hsz := Nat.le_trans hsz b5.size
      clear y0 y1 y2 y3 y4 b5
      obtain ⟨n0, hn0⟩ : ∃ m, Hid (cntOf bs ls gs 0 k = m) := ⟨_, hid rfl⟩
      obtain ⟨lo0, hi0⟩ := cntOf_le bs ls gs 0 k
      rw [hn0.out] at lo0 hi0 ob
      have hs0 := hid (cntOf_succ bs ls gs 0 k)
      rw [hn0.out] at hs0
      obtain ⟨n1, hn1⟩ : ∃ m, Hid (cntOf bs ls gs 1 k = m) := ⟨_, hid rfl⟩
      obtain ⟨lo1, hi1⟩ := cntOf_le bs ls gs 1 k
      rw [hn1.out] at lo1 hi1 ob
      have hs1 := hid (cntOf_succ bs ls gs 1 k)
      rw [hn1.out] at hs1
      obtain ⟨n2, hn2⟩ : ∃ m, Hid (cntOf bs ls gs 2 k = m) := ⟨_, hid rfl⟩
      obtain ⟨lo2, hi2⟩ := cntOf_le bs ls gs 2 k
      rw [hn2.out] at lo2 hi2 ob
      have hs2 := hid (cntOf_succ bs ls gs 2 k)
      rw [hn2.out] at hs2
      obtain ⟨n3, hn3⟩ : ∃ m, Hid (cntOf bs ls gs 3 k = m) := ⟨_, hid rfl⟩
      obtain ⟨lo3, hi3⟩ := cntOf_le bs ls gs 3 k
      rw [hn3.out] at lo3 hi3 ob
      have hs3 := hid (cntOf_succ bs ls gs 3 k)
      rw [hn3.out] at hs3
      rcases class_four bs ls gs k with hc | hc | hc | hc
      · rw [hc] at hs0 hs1 hs2 hs3 ⊢
        have hw : IntKind.i64.wrap (n0 + 1) = n0 + 1 := by rw [IntKind.wrap_i64]; omega
        have oc := ob.1.2 0 (by simp); have of := ob.2 0 (by simp)
        simp only [List.getElem?_cons_zero, List.getElem?_cons_succ] at oc
        have S0 := hid (yb.other ⟨W2.heap.size, 0, none⟩ (.int .i64 (n0 + 1)) (by show W2.heap.size ≠ w.heap.size; have := HS.out; omega))
        have S1 := hid (ob.set 0 (by simp) (.int .i64 (n0 + 1)))
        have S2 := hid (rb.other ⟨W2.heap.size, 0, none⟩ (.int .i64 (n0 + 1)) (by show W2.heap.size ≠ W1.heap.size; have := HS.out; omega))
        have S3 := hid (hB.setCell (p := ⟨W2.heap.size, 0, none⟩) (by show w.heap.size ≤ W2.heap.size; have := HS.out; omega) (.int .i64 (n0 + 1)))
        have S4 := hid hsz
        clear yb ob rb hB hsz
        go_wp2
        go_roundw
        case rel => exact ⟨k+1, by omega, by go_num, S0.out, by rw [hs0.out, hs1.out, hs2.out, hs3.out]; simpa using S1.out, S2.out, S3.out, by have := S4.out; simp [World.setCell]; omega⟩
        case measure => simp [intOf]; omega
      · rw [hc] at hs0 hs1 hs2 hs3 ⊢
        have hw : IntKind.i64.wrap (n1 + 1) = n1 + 1 := by rw [IntKind.wrap_i64]; omega
        have oc := ob.1.2 1 (by simp); have of := ob.2 1 (by simp)
        simp only [List.getElem?_cons_zero, List.getElem?_cons_succ] at oc
        have S0 := hid (yb.other ⟨W2.heap.size, 1, none⟩ (.int .i64 (n1 + 1)) (by show W2.heap.size ≠ w.heap.size; have := HS.out; omega))
        have S1 := hid (ob.set 1 (by simp) (.int .i64 (n1 + 1)))
        have S2 := hid (rb.other ⟨W2.heap.size, 1, none⟩ (.int .i64 (n1 + 1)) (by show W2.heap.size ≠ W1.heap.size; have := HS.out; omega))
        have S3 := hid (hB.setCell (p := ⟨W2.heap.size, 1, none⟩) (by show w.heap.size ≤ W2.heap.size; have := HS.out; omega) (.int .i64 (n1 + 1)))
        have S4 := hid hsz
        clear yb ob rb hB hsz
        go_wp2
        go_roundw
        case rel => exact ⟨k+1, by omega, by go_num, S0.out, by rw [hs0.out, hs1.out, hs2.out, hs3.out]; simpa using S1.out, S2.out, S3.out, by have := S4.out; simp [World.setCell]; omega⟩
        case measure => simp [intOf]; omega
      · rw [hc] at hs0 hs1 hs2 hs3 ⊢
        have hw : IntKind.i64.wrap (n2 + 1) = n2 + 1 := by rw [IntKind.wrap_i64]; omega
        have oc := ob.1.2 2 (by simp); have of := ob.2 2 (by simp)
        simp only [List.getElem?_cons_zero, List.getElem?_cons_succ] at oc
        have S0 := hid (yb.other ⟨W2.heap.size, 2, none⟩ (.int .i64 (n2 + 1)) (by show W2.heap.size ≠ w.heap.size; have := HS.out; omega))
        have S1 := hid (ob.set 2 (by simp) (.int .i64 (n2 + 1)))
        have S2 := hid (rb.other ⟨W2.heap.size, 2, none⟩ (.int .i64 (n2 + 1)) (by show W2.heap.size ≠ W1.heap.size; have := HS.out; omega))
        have S3 := hid (hB.setCell (p := ⟨W2.heap.size, 2, none⟩) (by show w.heap.size ≤ W2.heap.size; have := HS.out; omega) (.int .i64 (n2 + 1)))
        have S4 := hid hsz
        clear yb ob rb hB hsz
        go_wp2
        go_roundw
        case rel => exact ⟨k+1, by omega, by go_num, S0.out, by rw [hs0.out, hs1.out, hs2.out, hs3.out]; simpa using S1.out, S2.out, S3.out, by have := S4.out; simp [World.setCell]; omega⟩
        case measure => simp [intOf]; omega
      · rw [hc] at hs0 hs1 hs2 hs3 ⊢
        have hw : IntKind.i64.wrap (n3 + 1) = n3 + 1 := by rw [IntKind.wrap_i64]; omega
        have oc := ob.1.2 3 (by simp); have of := ob.2 3 (by simp)
        simp only [List.getElem?_cons_zero, List.getElem?_cons_succ] at oc
        have S0 := hid (yb.other ⟨W2.heap.size, 3, none⟩ (.int .i64 (n3 + 1)) (by show W2.heap.size ≠ w.heap.size; have := HS.out; omega))
        have S1 := hid (ob.set 3 (by simp) (.int .i64 (n3 + 1)))
        have S2 := hid (rb.other ⟨W2.heap.size, 3, none⟩ (.int .i64 (n3 + 1)) (by show W2.heap.size ≠ W1.heap.size; have := HS.out; omega))
        have S3 := hid (hB.setCell (p := ⟨W2.heap.size, 3, none⟩) (by show w.heap.size ≤ W2.heap.size; have := HS.out; omega) (.int .i64 (n3 + 1)))
        have S4 := hid hsz
        clear yb ob rb hB hsz
        go_wp2
        go_roundw
        case rel => exact ⟨k+1, by omega, by go_num, S0.out, by rw [hs0.out, hs1.out, hs2.out, hs3.out]; simpa using S1.out, S2.out, S3.out, by have := S4.out; simp [World.setCell]; omega⟩
        case measure => simp [intOf]; omega
    · obtain rfl : k = bs.length := by omega
      have hwr := hid hB
      have s0 := rb.1.2 0 (by simp); have s1 := rb.1.2 1 (by simp); have s2 := rb.1.2 2 (by simp); have s3 := rb.1.2 3 (by simp)
      have f0 := rb.2 0 (by simp); have f1 := rb.2 1 (by simp); have f2 := rb.2 2 (by simp); have f3 := rb.2 3 (by simp)
      have t0 := ob.1.2 0 (by simp); have t1 := ob.1.2 1 (by simp); have t2 := ob.1.2 2 (by simp); have t3 := ob.1.2 3 (by simp)
      simp only [List.getElem?_cons_zero, List.getElem?_cons_succ] at s0 s1 s2 s3 t0 t1 t2 t3
      go_wp2
      refine bodyPost_ret (v := .tuple #[.agg #[.int .i64 (cntOf bs ls gs 0 bs.length), .int .i64 (cntOf bs ls gs 1 bs.length), .int .i64 (cntOf bs ls gs 2 bs.length), .int .i64 (cntOf bs ls gs 3 bs.length)], .bool true]) ?_ rfl ⟨by simp only [HN.out, hY], ?_⟩
      · simp [results, Try.results35, go_sem, s0, s1, s2, s3]
      · repeat (refine Below.setCell ?_ (by show w.heap.size ≤ W1.heap.size; have := HS.out; omega) _)
        exact hwr.out
theorem impl_Counts (v0 : Value) (bs : List Block) (v1 : Value) (ls : List Int) (v2 : Value) (ps : List Int) (v3 : Value) (gs : List Gone) (n : Int) (w : World) (h0 : Blocks w v0 bs) (_hx0 : bs.length ≤ 1048576) (h1 : Ints w v1 ls) (_hx1 : ls.length ≤ 1048576) (h2 : Ints w v2 ps) (_hx2 : ps.length ≤ 1048576) (h3 : Gones w v3 gs) (_hx3 : gs.length ≤ 1048576) (hgi : GonesIn gs := by assumption) :
    Calls Try.prog 35 #[.agg #[v0, v1, v2, v3, .int .i64 n]] w fun e w' => e = .returned (.tuple #[.agg #[.int .i64 (cntF ⟨⟨bs, ls⟩, ps, gs, n⟩ 0), .int .i64 (cntF ⟨⟨bs, ls⟩, ps, gs, n⟩ 1), .int .i64 (cntF ⟨⟨bs, ls⟩, ps, gs, n⟩ 2), .int .i64 (cntF ⟨⟨bs, ls⟩, ps, gs, n⟩ 3)], .bool (yardOk ⟨⟨bs, ls⟩, ps, gs, n⟩)]) ∧ Below w.heap.size w w' := impl_Counts0 v0 bs v1 ls v2 ps v3 gs n w h0 h1 h2 h3 hgi
end Go.Proofs.Ytdnfphpeleakcaa
