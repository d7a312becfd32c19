/- Chapter 3's model: YardOk's loop. -/
import Derived.Test.YtdnfphpeleakcaaS3a
import Derived.Test.YtdnfphpeleakcaaExt
namespace Go.Proofs.Ytdnfphpeleakcaa
set_option maxRecDepth 100000
open Go.RowKit Go.Proofs Go.Own
open Go Go.BigFrame
set_option linter.unusedVariables false
set_option linter.unusedSimpArgs false

set_option maxRecDepth 100000 in set_option maxHeartbeats 2000000 in
theorem spec_YardOk0 (v0 : Value) (bs : List Block) (v1 : Value) (ls : List Int) (v2 : Value) (ps : List Int) (v3 : Value) (gs : List Gone) (n : Int) (w : World) (h0 : Blocks w v0 bs) (h1 : Ints w v1 ls) (h2 : Ints w v2 ps) (h3 : Gones w v3 gs) :
    Calls Try.prog 20 #[.agg #[v0, v1, v2, v3, .int .i64 n]] w fun e w' => e = .returned (.bool (yardOk ⟨⟨bs, ls⟩, ps, gs, n⟩)) ∧ Below w.heap.size w w' := by
  cases ht : yardTop ⟨⟨bs, ls⟩, ps, gs, n⟩
  case false => exact spec_YardOk_top v0 bs v1 ls v2 ps v3 gs n w h0 h1 h2 h3 ht
  obtain ⟨t1, t2, t3, t4, t5⟩ : arenaOk ⟨bs, ls⟩ = true ∧ inB n 0 1000000 = true ∧ inB ps.length 1 6 = true ∧ allIn ps (-1) n 0 = true ∧ gs.length ≤ 24 := by
    simpa [yardTop, and_assoc] using ht
  have hT := hid ht
  clear ht
  obtain ⟨a0, cap0, rfl, hl0, hm0⟩ := h0.form; obtain ⟨a1, cap1, rfl, hl1, hm1⟩ := h1.form; obtain ⟨a2, cap2, rfl, hl2, hm2⟩ := h2.form; obtain ⟨a3, cap3, rfl, hl3, hm3⟩ := h3.form; obtain ⟨W1, hW1⟩ : ∃ X, (w.alloc (.cells #[Value.slice a0 bs.length cap0, Value.slice a1 ls.length cap1, Value.slice a2 ps.length cap2, Value.slice a3 gs.length cap3, .int .i64 n] 30)) = X := ⟨_, rfl⟩; have hB1 : Below w.heap.size w W1 := by rw [← hW1]; exact Below.alloc (Below.refl _ _) (by simp) _
  have hN : w.heap.size + 1 = W1.heap.size := by rw [← hW1]; simp
  have k0 : W1.cell? ⟨w.heap.size, 0, none⟩ = some (Value.slice a0 bs.length cap0) := by rw [← hW1]; simp [go_sem]
  have k1 : W1.cell? ⟨w.heap.size, 1, none⟩ = some (Value.slice a1 ls.length cap1) := by rw [← hW1]; simp [go_sem]
  have k2 : W1.cell? ⟨w.heap.size, 2, none⟩ = some (Value.slice a2 ps.length cap2) := by rw [← hW1]; simp [go_sem]
  have k3 : W1.cell? ⟨w.heap.size, 3, none⟩ = some (Value.slice a3 gs.length cap3) := by rw [← hW1]; simp [go_sem]
  have k4 : W1.cell? ⟨w.heap.size, 4, none⟩ = some (.int .i64 n) := by rw [← hW1]; simp [go_sem]
  have h0w := Blocks.below h0 hB1; have h1w := Ints.below h1 hB1; have h2w := Ints.below h2 hB1; have h3w := Gones.below h3 hB1
  go_enter Try.func20, Try.ntmps20
  go_wp2_with fail
  refine (spec_ArenaOk0 _ bs _ ls _ h0w h1w).mono ?_
  rintro e w2 ⟨rfl, b2⟩
  have hcl : ∀ o, w2.cell? ⟨w.heap.size, o, none⟩ = W1.cell? ⟨w.heap.size, o, none⟩ := fun o => b2.cell (p := ⟨w.heap.size, o, none⟩) (show w.heap.size < _ by omega)
  rw [← hcl] at k0 k1 k2 k3 k4
  have h0v := Blocks.below h0w b2
  have h1v := Ints.below h1w b2
  have h2v := Ints.below h2w b2
  have h3v := Gones.below h3w b2
  have hB2 := hB1.trans (b2.mono (by omega))
  have hN2 : w.heap.size < w2.heap.size := by have := b2.size; omega
  clear hW1 hcl h0w h1w h2w h3w b2
  rw [t1]
  go_wp2_with (first | (go_at_call 53; refine (spec_l1In _ _ _ _).mono ?_; rintro e w' ⟨rfl, rfl⟩) | (go_at_call 54; refine (spec_l1All _ _ _ _ _ h2v).mono ?_; rintro e w' ⟨rfl, rfl⟩))
  go_loopw [3] (fun i wr => ∃ k : Nat, k ≤ gs.length ∧ i = .int .i64 k ∧ yardPre ⟨⟨bs, ls⟩, ps, gs, n⟩ k ∧ Below w2.heap.size w2 wr) (fun i _ => gs.length - (intOf i).toNat)
  case atStart => exact ⟨0, by omega, rfl, (by intro j h; omega), Below.refl _ _⟩
  case round =>
    obtain ⟨k, hk, rfl, hpre, hB⟩ := hrel
    have q0 := (hB.cell (p := ⟨w.heap.size, 0, none⟩) hN2).trans k0
    have q1 := (hB.cell (p := ⟨w.heap.size, 1, none⟩) hN2).trans k1
    have q2 := (hB.cell (p := ⟨w.heap.size, 2, none⟩) hN2).trans k2
    have q3 := (hB.cell (p := ⟨w.heap.size, 3, none⟩) hN2).trans k3
    have q4 := (hB.cell (p := ⟨w.heap.size, 4, none⟩) hN2).trans k4
    have hBw := hB2.trans (hB.mono (by omega))
    have hz : w2.heap.size ≤ wr.heap.size := hB.size
    have hne : (w.heap.size == wr.heap.size) = false := by simp; omega
    by_cases hlt : k < gs.length
    · obtain ⟨⟨h, p⟩, ho⟩ : ∃ o, Hid (gs[k] = o) := ⟨_, hid rfl⟩
      have hgone := hid (goneOk_at (a := ⟨bs, ls⟩) (ps := ps) (n := n) hlt h p ho.out)
      have hno := hid (yardOk_gone (y := ⟨⟨bs, ls⟩, ps, gs, n⟩) hlt)
      have h3r := Gones.below h3v hB
      obtain ⟨bb, off, rfl, hbs, c0, c1⟩ := Gones.at h3r k hlt _ ho
      dsimp only at c0 c1
      obtain ⟨V, hV⟩ : ∃ X, (wr.alloc (.cells #[.int .i64 h, .int .i64 p] 70)) = X := ⟨_, rfl⟩
      have hBV : Below wr.heap.size wr V := by rw [← hV]; exact Below.alloc (Below.refl _ _) (Nat.le_refl _) _
      have hNV : wr.heap.size + 1 = V.heap.size := by rw [← hV]; simp
      have g0 : ∀ E : Ext V, E.w.cell? ⟨wr.heap.size, 0, none⟩ = some (.int .i64 h) := Ext.cell (by omega) (by rw [← hV]; simp [go_sem])
      have g1 : ∀ E : Ext V, E.w.cell? ⟨wr.heap.size, 1, none⟩ = some (.int .i64 p) := Ext.cell (by omega) (by rw [← hV]; simp [go_sem])
      have h0V := Blocks.below (Blocks.below h0v hB) hBV
      have h1V := Ints.below (Ints.below h1v hB) hBV
      have h3V := Gones.below h3r hBV
      have hlv : ∀ o, V.cell? ⟨w.heap.size, o, none⟩ = wr.cell? ⟨w.heap.size, o, none⟩ := fun o => hBV.cell (p := ⟨w.heap.size, o, none⟩) (show w.heap.size < _ by omega)
      have hlt0 : w.heap.size < V.heap.size := by omega
      have r0 := Ext.cell hlt0 ((hlv 0).trans q0)
      have r1 := Ext.cell hlt0 ((hlv 1).trans q1)
      have r2 := Ext.cell hlt0 ((hlv 2).trans q2)
      have r3 := Ext.cell hlt0 ((hlv 3).trans q3)
      have r4 := Ext.cell hlt0 ((hlv 4).trans q4)
      clear hlv k0 k1 k2 k3 k4
      have hcut := Gones.cut h3V rfl k hk
      have hBN := hid (show Below w2.heap.size w2 V from hB.trans (hBV.mono (by omega)))
      have hBE := hid (show Below w.heap.size w V from hBw.trans (hBV.mono (by omega)))
      cases e1 : liveF ⟨bs, ls⟩ h
      case false =>
        have hno2 := hid (hno.out (by rw [hgone.out, e1]; rfl))
        go_wp2_with fail
        refine wp_region_ext V (Below.refl _ _) (by kernel_rfl) (by kernel_rfl) ?_
        (repeat (go_big_quiet_step (first | (go_at_call 55; exact call_ext _ (spec_LiveIs _ bs _ ls h _ _ (Ext.flat h0V _) (Ext.flat h1V _) e1)) | (go_at_call 53; exact call_ext_same _ (spec_inIs _ _ _ _ _ e2)) | (go_at_call 56; exact call_ext_same _ (spec_l3Find _ _ _ _ (Ext.flat hcut _))))))
        refine wpQuiet_nil ?_; rintro _ ⟨E, rfl⟩
        go_wp2
        go_ret
        exact ⟨ret_bool hno2.out.symm, hBE.out.trans (E.h.mono (by omega))⟩
      cases e2 : inB p 0 n
      case false =>
        have hno2 := hid (hno.out (by rw [hgone.out, e1, e2]; rfl))
        go_wp2_with fail
        refine wp_region_ext V (Below.refl _ _) (by kernel_rfl) (by kernel_rfl) ?_
        (repeat (go_big_quiet_step (first | (go_at_call 55; exact call_ext _ (spec_LiveIs _ bs _ ls h _ _ (Ext.flat h0V _) (Ext.flat h1V _) e1)) | (go_at_call 53; exact call_ext_same _ (spec_inIs _ _ _ _ _ e2)) | (go_at_call 56; exact call_ext_same _ (spec_l3Find _ _ _ _ (Ext.flat hcut _))))))
        refine wpQuiet_nil ?_; rintro _ ⟨E, rfl⟩
        go_wp2
        go_ret
        exact ⟨ret_bool hno2.out.symm, hBE.out.trans (E.h.mono (by omega))⟩
      have hmain : Hid (∀ E : Ext V, goneOk ⟨⟨bs, ls⟩, ps, gs, n⟩ k = true → Below w2.heap.size w2 E.w ∧ yardPre ⟨⟨bs, ls⟩, ps, gs, n⟩ (k+1)) := hid fun E hg => ⟨hBN.out.trans (E.h.mono (by omega)), yardPre_succ hpre hg⟩
      rcases Nat.eq_zero_or_pos k with hk0 | hk0
      · subst hk0
        rw [Nat.zero_mul, Nat.add_zero] at c0 c1
        have e4 : decide (0 ≤ findF (gs.take 0) h) = false := by simp [findF]
        have hyes := hid (show goneOk ⟨⟨bs, ls⟩, ps, gs, n⟩ 0 = true by rw [hgone.out, e1, e2, e4]; simp)
        obtain ⟨L, hL⟩ : ∃ L, gs.take 0 = L := ⟨_, rfl⟩
        rw [hL] at hcut e4
        clear hL
        go_wp2_with fail
        refine wp_region_ext V (Below.refl _ _) (by kernel_rfl) (by kernel_rfl) ?_
        (repeat (go_big_quiet_step (first | (go_at_call 55; exact call_ext _ (spec_LiveIs _ bs _ ls h _ _ (Ext.flat h0V _) (Ext.flat h1V _) e1)) | (go_at_call 53; exact call_ext_same _ (spec_inIs _ _ _ _ _ e2)) | (go_at_call 56; exact call_ext_same _ (spec_l3Find _ _ _ _ (Ext.flat hcut _))))))
        refine wpQuiet_nil ?_; rintro _ ⟨E, rfl⟩
        go_wp2
        go_roundw
        case rel => exact ⟨1, by omega, rfl, (hmain.out E hyes.out).2, (hmain.out E hyes.out).1⟩
        case measure => simp [intOf]; omega
      · obtain ⟨j, rfl⟩ : ∃ j, k = j + 1 := ⟨k - 1, by omega⟩
        obtain ⟨pp, d1, dp⟩ : ∃ pp, V.cell? ⟨bb, off + j * 2 + 1, none⟩ = some (.int .i64 pp) ∧ ((gs.getD j zeroG).pass_ = pp) := by
          have hk1 : j < gs.length := by omega
          obtain ⟨b', o', e, _, _, hd⟩ := Gones.at h3V j hk1 _ (hid rfl)
          simp only [Option.some.injEq, Addr.mk.injEq, and_true] at e
          obtain ⟨rfl, rfl⟩ := e
          exact ⟨_, hd, by rw [List.getD, List.getElem?_eq_getElem hk1]; rfl⟩
        rw [Nat.add_sub_cancel, dp] at hgone
        replace d1 := Ext.cell (W := V) (by omega : bb < V.heap.size) d1
        clear dp
        have hjl : ((j : Int) + 1 < gs.length) := by omega
        cases e3 : decide (p < pp)
        case true =>
          have hno2 := hid (hno.out (by rw [hgone.out, e1, e2, show decide (pp > p) = true from e3]; simp))
          go_wp2_with fail
          refine wp_region_ext V (Below.refl _ _) (by kernel_rfl) (by kernel_rfl) ?_
          (repeat (go_big_quiet_step (first | (go_at_call 55; exact call_ext _ (spec_LiveIs _ bs _ ls h _ _ (Ext.flat h0V _) (Ext.flat h1V _) e1)) | (go_at_call 53; exact call_ext_same _ (spec_inIs _ _ _ _ _ e2)) | (go_at_call 56; exact call_ext_same _ (spec_l3Find _ _ _ _ (Ext.flat hcut _))))))
          refine wpQuiet_nil ?_; rintro _ ⟨E, rfl⟩
          go_wp2
          go_ret
          exact ⟨ret_bool hno2.out.symm, hBE.out.trans (E.h.mono (by omega))⟩
        case false =>
          cases e4 : decide (0 ≤ findF (gs.take (j + 1)) h)
          case true =>
            have hno2 := hid (hno.out (by rw [hgone.out, e1, e2, e4]; simp))
            go_wp2_with fail
            refine wp_region_ext V (Below.refl _ _) (by kernel_rfl) (by kernel_rfl) ?_
            (repeat (go_big_quiet_step (first | (go_at_call 55; exact call_ext _ (spec_LiveIs _ bs _ ls h _ _ (Ext.flat h0V _) (Ext.flat h1V _) e1)) | (go_at_call 53; exact call_ext_same _ (spec_inIs _ _ _ _ _ e2)) | (go_at_call 56; exact call_ext_same _ (spec_l3Find _ _ _ _ (Ext.flat hcut _))))))
            refine wpQuiet_nil ?_; rintro _ ⟨E, rfl⟩
            go_wp2
            go_ret
            exact ⟨ret_bool hno2.out.symm, hBE.out.trans (E.h.mono (by omega))⟩
          case false =>
            have hyes := hid (show goneOk ⟨⟨bs, ls⟩, ps, gs, n⟩ (j + 1) = true by rw [hgone.out, e1, e2, show decide (pp > p) = false from e3, e4]; simp)
            go_wp2_with fail
            refine wp_region_ext V (Below.refl _ _) (by kernel_rfl) (by kernel_rfl) ?_
            (repeat (go_big_quiet_step (first | (go_at_call 55; exact call_ext _ (spec_LiveIs _ bs _ ls h _ _ (Ext.flat h0V _) (Ext.flat h1V _) e1)) | (go_at_call 53; exact call_ext_same _ (spec_inIs _ _ _ _ _ e2)) | (go_at_call 56; exact call_ext_same _ (spec_l3Find _ _ _ _ (Ext.flat hcut _))))))
            refine wpQuiet_nil ?_; rintro _ ⟨E, rfl⟩
            go_wp2
            go_roundw
            case rel => exact ⟨j + 1 + 1, by omega, by go_num, (hmain.out E hyes.out).2, (hmain.out E hyes.out).1⟩
            case measure => simp [intOf]; omega
    · obtain rfl : k = gs.length := by omega
      have hyes := hid (yardOk_end (y := ⟨⟨bs, ls⟩, ps, gs, n⟩) hT.out hpre)
      go_wp2
      go_ret
      exact ⟨ret_bool hyes.out.symm, hBw⟩
theorem spec_YardOk (v0 : Value) (bs : List Block) (v1 : Value) (ls : List Int) (v2 : Value) (ps : List Int) (v3 : Value) (gs : List Gone) (n : Int) (w : World) (h0 : Blocks w v0 bs) (_hx0 : bs.length ≤ 1048576) (h1 : Ints w v1 ls) (_hx1 : ls.length ≤ 1048576) (h2 : Ints w v2 ps) (_hx2 : ps.length ≤ 1048576) (h3 : Gones w v3 gs) (_hx3 : gs.length ≤ 1048576) :
    Calls Try.prog 20 #[.agg #[v0, v1, v2, v3, .int .i64 n]] w fun e w' => e = .returned (.bool (yardOk ⟨⟨bs, ls⟩, ps, gs, n⟩)) ∧ Below w.heap.size w w' := spec_YardOk0 v0 bs v1 ls v2 ps v3 gs n w h0 h1 h2 h3
end Go.Proofs.Ytdnfphpeleakcaa
