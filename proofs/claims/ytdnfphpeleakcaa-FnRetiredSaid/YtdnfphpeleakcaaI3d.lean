/- Chapter 3's program: copyYard. -/
import Derived.Test.YtdnfphpeleakcaaS3d
import Derived.Test.YtdnfphpeleakcaaI2d
import Derived.Test.YtdnfphpeleakcaaMk2
import Derived.Test.YtdnfphpeleakcaaBox
namespace Go.Proofs.Ytdnfphpeleakcaa
set_option maxRecDepth 100000
open Go.RowKit Go.Proofs Go.Own
open Go
set_option linter.unusedVariables false
set_option linter.unusedSimpArgs false

set_option maxRecDepth 100000 in set_option maxHeartbeats 2000000 in
theorem impl_copyYard (v0 : Value) (bs : List Block) (v1 : Value) (ls : List Int) (v2 : Value) (ps : List Int) (v3 : Value) (gs : List Gone) (n : Int) (w : World) (h0 : Blocks w v0 bs) (hx0 : bs.length ≤ 1048576) (h1 : Ints w v1 ls) (hx1 : ls.length ≤ 1048576) (h2 : Ints w v2 ps) (hx2 : ps.length ≤ 1048576) (h3 : Gones w v3 gs) (hx3 : gs.length ≤ 1048576) :
    Calls Try.prog 41 #[.agg #[v0, v1, v2, v3, .int .i64 n]] w fun e w' => ∃ u0 u1 u2 u3, e = .returned (.agg #[u0, u1, u2, u3, .int .i64 n]) ∧ w'.ownsRow w.heap.size 64 5 u0 bs.length (bs.flatMap Block.enc) ∧ w'.ownsRow w.heap.size 3 1 u1 ls.length (ls.flatMap encI) ∧ w'.ownsRow w.heap.size 3 1 u2 ps.length (ps.flatMap encI) ∧ w'.ownsRow w.heap.size 70 2 u3 gs.length (gs.flatMap Gone.enc) ∧ ((u0.ownBlock = none ∨ u0.ownBlock ≠ u1.ownBlock) ∧ (u1.ownBlock = none ∨ u1.ownBlock ≠ u0.ownBlock)) ∧ ((u0.ownBlock = none ∨ u0.ownBlock ≠ u2.ownBlock) ∧ (u2.ownBlock = none ∨ u2.ownBlock ≠ u0.ownBlock)) ∧ ((u0.ownBlock = none ∨ u0.ownBlock ≠ u3.ownBlock) ∧ (u3.ownBlock = none ∨ u3.ownBlock ≠ u0.ownBlock)) ∧ ((u1.ownBlock = none ∨ u1.ownBlock ≠ u2.ownBlock) ∧ (u2.ownBlock = none ∨ u2.ownBlock ≠ u1.ownBlock)) ∧ ((u1.ownBlock = none ∨ u1.ownBlock ≠ u3.ownBlock) ∧ (u3.ownBlock = none ∨ u3.ownBlock ≠ u1.ownBlock)) ∧ ((u2.ownBlock = none ∨ u2.ownBlock ≠ u3.ownBlock) ∧ (u3.ownBlock = none ∨ u3.ownBlock ≠ u2.ownBlock)) ∧ Below w.heap.size w w' := by
  obtain ⟨a0, cap0, rfl, hl0, hm0⟩ := h0.form; obtain ⟨a1, cap1, rfl, hl1, hm1⟩ := h1.form; obtain ⟨a2, cap2, rfl, hl2, hm2⟩ := h2.form; obtain ⟨a3, cap3, rfl, hl3, hm3⟩ := h3.form; obtain ⟨W1, hW1⟩ : ∃ X, (w.alloc (.cells #[Value.slice a0 bs.length cap0, Value.slice a1 ls.length cap1, Value.slice a2 ps.length cap2, Value.slice a3 gs.length cap3, .int .i64 n] 30)) = X := ⟨_, rfl⟩; have hB1 : Below w.heap.size w W1 := by rw [← hW1]; exact Below.alloc (Below.refl _ _) (by simp) _
  have hN1 : w.heap.size + 1 = W1.heap.size := by rw [← hW1]; simp
  obtain ⟨W2, hW2⟩ : ∃ X, (W1.alloc (.cells #[.slice none 0 0, .slice none 0 0, .slice none 0 0, .slice none 0 0, .int .i64 0] 30)) = X := ⟨_, rfl⟩
  have hB12 : Below W1.heap.size W1 W2 := by rw [← hW2]; exact (Below.refl _ _).alloc (Nat.le_refl _) _
  have hN2 : w.heap.size + 2 = W2.heap.size := by rw [← hW2]; simp; omega
  have hB2 : Below w.heap.size w W2 := hB1.trans (hB12.mono (by omega))
  have yb : Box W1 w.heap.size [Value.slice a0 bs.length cap0, Value.slice a1 ls.length cap1, Value.slice a2 ps.length cap2, Value.slice a3 gs.length cap3, .int .i64 n] := by rw [← hW1]; exact Box.alloc _ _ _
  have yb2 := yb.below hB12
  have rb : BoxF W2 W1.heap.size [.slice none 0 0, .slice none 0 0, .slice none 0 0, .slice none 0 0, .int .i64 0] := by rw [← hW2]; exact BoxF.alloc _ _ _
  have y0 := Ext.cell yb2.1 (yb2.2 0 (by simp)); have y1 := Ext.cell yb2.1 (yb2.2 1 (by simp)); have y2 := Ext.cell yb2.1 (yb2.2 2 (by simp)); have y3 := Ext.cell yb2.1 (yb2.2 3 (by simp)); have y4 := Ext.cell yb2.1 (yb2.2 4 (by simp))
  have h0V := Blocks.below h0 hB2; have h1V := Ints.below h1 hB2; have h2V := Ints.below h2 hB2; have h3V := Gones.below h3 hB2
  obtain ⟨j0, hj, hy0, hy1, hy2⟩ := info_parts infoGone
  have hone := hid (oneCell_enc oneCell_Gone gs)
  obtain ⟨i0, hi, hz0, hz1, hz2⟩ := info_parts infoInt
  have honeP := hid (oneCell_enc oneCell_I ps)
  go_enter Try.func41, Try.ntmps41
  go_wp2
  clear hW1 hW2
  have mk1 : ∀ (P : Program) (o : Oper) (a : Act) (w : World) (v : Value), Oper.plainAt P o a w v = Oper.plainUpon w v ((execOp a.eval o).run P w) := fun _ _ _ _ _ => rfl; have mk2 : ∀ (w w' : World) (v u : Value), Oper.plainUpon w v (.ok (.value u) w') = (w' = w ∧ u = v) := fun _ _ _ _ => rfl
  refine wp_region_mk 11 (fun i v lo hi w => W2.heap.size ≤ lo ∧ (i = 2 → (∃ u0 u1, v = .agg #[u0, u1] ∧ RowIn w lo hi 64 5 u0 bs.length (bs.flatMap Block.enc) ∧ RowIn w lo hi 3 1 u1 ls.length (ls.flatMap encI) ∧ ((u0.ownBlock = none ∨ u0.ownBlock ≠ u1.ownBlock) ∧ (u1.ownBlock = none ∨ u1.ownBlock ≠ u0.ownBlock)))) ∧ (i = 5 → RowIn w lo hi 3 1 v ps.length (ps.flatMap encI)) ∧ (i = 8 → w.ownsRow W2.heap.size 70 2 v gs.length (gs.flatMap Gone.enc))) (fun i => none) (fun i => i == 2 || i == 5 || i == 8) (by kernel_rfl) (by kernel_rfl) (by kernel_rfl) (fun j hj => rfl) (fun i v lo hi w w' h hs hb => ⟨h.1, fun e => (by obtain ⟨u0, u1, e1, r1, r2, r3⟩ := h.2.1 e; exact ⟨u0, u1, e1, r1.grow hb, r2.grow hb, r3⟩), fun e => (h.2.2.1 e).grow hb, fun e => owns_below (h.2.2.2 e) hb⟩) ?_
  simp only [List.take_succ_cons, List.take_zero, List.drop_succ_cons, List.drop_zero]
  (refine wpMk_plain rfl rfl (fun K hK => ?_); go_simp; refine hK _ ?_; clear hK K)
  (refine wpMk_plain rfl rfl (fun K hK => ?_); go_simp; refine hK _ ?_; clear hK K)
  refine wpMk_make rfl rfl (makes_ext fun E hE => made_call (f := 38) (args := #[.agg #[Value.slice a0 bs.length cap0, Value.slice a1 ls.length cap1]]) (w' := E.w) (by go_simp) ?_) (fun vA loA hiA => ?_)
  · refine (impl_copyArena _ bs _ ls _ (Ext.flat h0V E) hx0 (Ext.flat h1V E) hx1).mono ?_
    rintro e w3 ⟨u0, u1, rfl, o0, o1, ap, b⟩
    exact ⟨_, rfl, E.ex b, b, E.size, fun _ => ⟨u0, u1, rfl, RowIn.here o0, RowIn.here o1, ap⟩, fun e => absurd e (by decide), fun e => absurd e (by decide)⟩
  (refine wpMk_plain rfl rfl (fun K hK => ?_); go_simp; refine hK _ ?_; clear hK K)
  (refine wpMk_plain rfl rfl (fun K hK => ?_); go_simp; refine hK _ ?_; clear hK K)
  refine wpMk_make rfl rfl (makes_ext fun E hE => ?_) (fun vP loP hiP => ?_)
  · exact made_append (.const (.slice none 0 0)) (.tmp 7) 25 rfl E.w.heap.size 3 i0 (.int .i64 0) 1 8 Try.underlying25 hi hz0 hz1 hz2 rfl (by decide) (.slice none 0 0) rfl (.inl rfl) (World.ownsRow_nil _ _ _ _) _ ps.length _ rfl (Ext.flat h2V E) honeP.out (by unfold maxLen; omega) (by omega) (Nat.le_refl _) fun v' w' o b => ⟨E.ex b, b, E.size, fun e => absurd e (by decide), fun _ => RowIn.here o, fun e => absurd e (by decide)⟩
  (refine wpMk_plain rfl rfl (fun K hK => ?_); go_simp; refine hK _ ?_; clear hK K)
  (refine wpMk_plain rfl rfl (fun K hK => ?_); go_simp; refine hK _ ?_; clear hK K)
  refine wpMk_make rfl rfl (makes_ext fun E hE => ?_) (fun vG loG hiG => ?_)
  · exact made_append (.const (.slice none 0 0)) (.tmp 10) 28 rfl W2.heap.size 70 j0 (.agg #[.int .i64 0, .int .i64 0]) 2 16 Try.underlying28 hj hy0 hy1 hy2 rfl (by decide) (.slice none 0 0) rfl (.inl rfl) (World.ownsRow_nil _ _ _ _) _ gs.length _ rfl (Ext.flat h3V E) hone.out (by unfold maxLen; omega) (by omega) E.size fun v' w' o b => ⟨E.ex b, b, E.size, fun e => absurd e (by decide), fun e => absurd e (by decide), fun _ => o⟩
  (refine wpMk_plain rfl rfl (fun K hK => ?_); go_simp; refine hK _ ?_; clear hK K)
  (refine wpMk_plain rfl rfl (fun K hK => ?_); go_simp; refine hK _ ?_; clear hK K)
  clear mk1 mk2
  refine wpMk_nil ?_
  rintro w' ⟨E, rfl⟩ hm
  obtain ⟨hloA, hA, _⟩ := (hm.one 2 vA loA hiA rfl).1
  obtain ⟨u0, u1, rfl, rA, rL, apA⟩ := hA rfl
  obtain ⟨hloP, _, hP, _⟩ := (hm.one 5 vP loP hiP rfl).1
  have rP := hP rfl
  have rG := (hm.one 8 vG loG hiG rfl).1.2.2.2 rfl
  have apLP := rL.apart rP (hm.two 2 5 _ _ _ _ _ _ (by decide) rfl rfl)
  have oA := rA.1; have oL := rL.1; have oP := rP.1
  have ap01 := apA
  have ap02 := apart_types oA oP (by decide)
  have ap03 := apart_types oA rG (by decide)
  have ap13 := apart_types oL rG (by decide)
  have ap23 := apart_types oP rG (by decide)
  obtain ⟨p0, m0, c0, rfl⟩ := owns_form3 oA; obtain ⟨p1, m1, c1, rfl⟩ := owns_form3 oL; obtain ⟨p2, m2, c2, rfl⟩ := owns_form3 oP; obtain ⟨p3, m3, c3, rfl⟩ := owns_form3 rG
  have rE := rb.below E.h
  have hBE : Below w.heap.size w E.w := hB2.trans (E.h.mono (by omega))
  have HA := hid (owns_mono oA hloA); have HL := hid (owns_mono oL hloA); have HP := hid (owns_mono oP hloP); have HG := hid rG
  have q0 := rE.1.2 0 (by simp); have q1 := rE.1.2 1 (by simp); have q2 := rE.1.2 2 (by simp); have q3 := rE.1.2 3 (by simp); have q4 := rE.1.2 4 (by simp)
  have f0 := rE.2 0 (by simp); have f1 := rE.2 1 (by simp); have f2 := rE.2 2 (by simp); have f3 := rE.2 3 (by simp); have f4 := rE.2 4 (by simp)
  simp only [List.getElem?_cons_zero, List.getElem?_cons_succ] at q0 q1 q2 q3 q4
  clear rA rL rP rG oA oL oP hm apA hA hP
  go_wp2
  refine bodyPost_ret (v := .agg #[.slice p0 m0 c0, .slice p1 m1 c1, .slice p2 m2 c2, .slice p3 m3 c3, .int .i64 n]) ?_ rfl ?_
  · simp [results, Try.results41, go_sem, q0, q1, q2, q3, q4]
  · have hb : W1.heap.size < W2.heap.size := by omega
    refine ⟨_, _, _, _, rfl, ?_, ?_, ?_, ?_, ap01, ap02, ap03, apLP, ap13, ap23, ?_⟩
    all_goals first
      | (repeat (refine Below.setCell ?_ (by show w.heap.size ≤ W1.heap.size; omega) _)); exact hBE
      | skip
    all_goals refine owns_mono (base := W2.heap.size) ?_ (by omega)
    all_goals repeat (refine owns_setCell ?_ _ _ hb)
    · exact HA.out
    · exact HL.out
    · exact HP.out
    · exact HG.out
end Go.Proofs.Ytdnfphpeleakcaa
