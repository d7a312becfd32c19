/- Chapter 13's program: MapDrop. (printed by tools/mk_i13d.py) -/
import Derived.Test.YtadbgfaboafkeaaI13u
import Derived.Test.YtadbgfaboafkeaaOv3
import Derived.Test.YtadbgfaboafkeaaS13d
import Derived.Deep.Cut
namespace Go.Proofs.Ytadbgfaboafkeaa
set_option maxRecDepth 100000
open Go.RowKit Go.Proofs Go.Own
open Go Go.BigFrame
set_option linter.unusedVariables false
set_option linter.unusedSimpArgs false
set_option maxHeartbeats 16000000 in
theorem impl_MapDrop0 (c : ChainD) (hc : c.nodes_.length = 16) (key : Int) (w : World) :
    Calls Try.prog 19 #[.agg c.enc.toArray, .int .i64 key] w fun e w' => e = .returned (.tuple #[.agg (dropC c key).1.enc.toArray, .int .i64 (dropC c key).2.1, .int .i64 (dropC c key).2.2]) ∧ Below w.heap.size w w' := by
  have hone := chain_one c
  have hl := chain_len hc
  have hl2 : c.enc.toArray.size = 65 := by rw [List.size_toArray, hl]
  have hln : (c.nodes_.flatMap Node.enc).length = 64 := by rw [nodes_len, hc]
  have HC := hid hc
  have HE := hid (show c.enc = [] ++ c.nodes_.flatMap Node.enc ++ [.int .i64 c.first_] from rfl)
  have HW0 := hid (fun (W : World) => impl_walkToA c hc key W)
  generalize hce : c.enc = ce at *
  obtain ⟨W1, hW1⟩ : ∃ X, (w.alloc (.cells ce.toArray 31)).alloc (.cells #[.bool false, .int .i64 0, .int .i64 0, .int .i64 0, .bool false, .int .i64 0, .int .i64 0, .int .i64 0, .bool false, .int .i64 0, .int .i64 0, .int .i64 0, .bool false, .int .i64 0, .int .i64 0, .int .i64 0, .bool false, .int .i64 0, .int .i64 0, .int .i64 0, .bool false, .int .i64 0, .int .i64 0, .int .i64 0, .bool false, .int .i64 0, .int .i64 0, .int .i64 0, .bool false, .int .i64 0, .int .i64 0, .int .i64 0, .bool false, .int .i64 0, .int .i64 0, .int .i64 0, .bool false, .int .i64 0, .int .i64 0, .int .i64 0, .bool false, .int .i64 0, .int .i64 0, .int .i64 0, .bool false, .int .i64 0, .int .i64 0, .int .i64 0, .bool false, .int .i64 0, .int .i64 0, .int .i64 0, .bool false, .int .i64 0, .int .i64 0, .int .i64 0, .bool false, .int .i64 0, .int .i64 0, .int .i64 0, .bool false, .int .i64 0, .int .i64 0, .int .i64 0, .int .i64 0] 31) = X := ⟨_, rfl⟩
  have hB1 : Below w.heap.size w W1 := by rw [← hW1]; exact ((Below.refl _ _).alloc (Nat.le_refl _) _).alloc (by simp) _
  have b0 : BoxF W1 w.heap.size ce := by
    rw [← hW1]
    exact (BoxF.alloc w ce.toArray 31).below ((Below.refl _ _).alloc (Nat.le_refl _) _)
  have R1 : Hid (BoxF W1 (w.heap.size + 1) [.bool false, .int .i64 0, .int .i64 0, .int .i64 0, .bool false, .int .i64 0, .int .i64 0, .int .i64 0, .bool false, .int .i64 0, .int .i64 0, .int .i64 0, .bool false, .int .i64 0, .int .i64 0, .int .i64 0, .bool false, .int .i64 0, .int .i64 0, .int .i64 0, .bool false, .int .i64 0, .int .i64 0, .int .i64 0, .bool false, .int .i64 0, .int .i64 0, .int .i64 0, .bool false, .int .i64 0, .int .i64 0, .int .i64 0, .bool false, .int .i64 0, .int .i64 0, .int .i64 0, .bool false, .int .i64 0, .int .i64 0, .int .i64 0, .bool false, .int .i64 0, .int .i64 0, .int .i64 0, .bool false, .int .i64 0, .int .i64 0, .int .i64 0, .bool false, .int .i64 0, .int .i64 0, .int .i64 0, .bool false, .int .i64 0, .int .i64 0, .int .i64 0, .bool false, .int .i64 0, .int .i64 0, .int .i64 0, .bool false, .int .i64 0, .int .i64 0, .int .i64 0, .int .i64 0]) := by
    rw [← hW1]
    have z := BoxF.alloc (w.alloc (.cells ce.toArray 31)) #[.bool false, .int .i64 0, .int .i64 0, .int .i64 0, .bool false, .int .i64 0, .int .i64 0, .int .i64 0, .bool false, .int .i64 0, .int .i64 0, .int .i64 0, .bool false, .int .i64 0, .int .i64 0, .int .i64 0, .bool false, .int .i64 0, .int .i64 0, .int .i64 0, .bool false, .int .i64 0, .int .i64 0, .int .i64 0, .bool false, .int .i64 0, .int .i64 0, .int .i64 0, .bool false, .int .i64 0, .int .i64 0, .int .i64 0, .bool false, .int .i64 0, .int .i64 0, .int .i64 0, .bool false, .int .i64 0, .int .i64 0, .int .i64 0, .bool false, .int .i64 0, .int .i64 0, .int .i64 0, .bool false, .int .i64 0, .int .i64 0, .int .i64 0, .bool false, .int .i64 0, .int .i64 0, .int .i64 0, .bool false, .int .i64 0, .int .i64 0, .int .i64 0, .bool false, .int .i64 0, .int .i64 0, .int .i64 0, .bool false, .int .i64 0, .int .i64 0, .int .i64 0, .int .i64 0] 31
    rw [show (w.alloc (.cells ce.toArray 31)).heap.size = w.heap.size + 1 by simp] at z
    exact hid z
  have B1 := hid b0
  have HB1 := hid hB1
  have HCE := hid hce
  have HWK := hid (HW0.out W1)
  have hz : ∀ w : World, (zeroValue 31).run Try.prog w = .ok (.agg #[.bool false, .int .i64 0, .int .i64 0, .int .i64 0, .bool false, .int .i64 0, .int .i64 0, .int .i64 0, .bool false, .int .i64 0, .int .i64 0, .int .i64 0, .bool false, .int .i64 0, .int .i64 0, .int .i64 0, .bool false, .int .i64 0, .int .i64 0, .int .i64 0, .bool false, .int .i64 0, .int .i64 0, .int .i64 0, .bool false, .int .i64 0, .int .i64 0, .int .i64 0, .bool false, .int .i64 0, .int .i64 0, .int .i64 0, .bool false, .int .i64 0, .int .i64 0, .int .i64 0, .bool false, .int .i64 0, .int .i64 0, .int .i64 0, .bool false, .int .i64 0, .int .i64 0, .int .i64 0, .bool false, .int .i64 0, .int .i64 0, .int .i64 0, .bool false, .int .i64 0, .int .i64 0, .int .i64 0, .bool false, .int .i64 0, .int .i64 0, .int .i64 0, .bool false, .int .i64 0, .int .i64 0, .int .i64 0, .bool false, .int .i64 0, .int .i64 0, .int .i64 0, .int .i64 0]) w := fun w => zero_run w (by kernel_rfl)
  clear b0 hc hB1 hce HW0
  go_enter Try.func19, Try.ntmps19
  go_wp2_with (first | (go_at_call 38; refine HWK.out.mono ?_) | (refine wpList_load_box rfl 31 _ rfl w.heap.size ce (by exact B1.out.1) rfl _ Try.underlying31 rfl (by rw [hl]; kernel_rfl) ?_))
  rintro e w2 ⟨⟨v, r, rfl, n, a, p, rfl, hk⟩, b2⟩
  clear hW1
  have B2 := hid (B1.out.below b2)
  have R2 := hid (R1.out.below b2)
  have HB2 := hid (HB1.out.trans (b2.mono HB1.out.size))
  clear b2
  obtain ⟨W3, hW3⟩ : ∃ X, w2.alloc (.cells #[.int .i64 n, .int .i64 a, .int .i64 p] 62) = X := ⟨_, rfl⟩
  have hb3 : Below w2.heap.size w2 W3 := by rw [← hW3]; exact (Below.refl _ _).alloc (Nat.le_refl _) _
  have V3 := hid (show BoxF W3 w2.heap.size [.int .i64 n, .int .i64 a, .int .i64 p] by rw [← hW3]; exact BoxF.alloc w2 #[.int .i64 n, .int .i64 a, .int .i64 p] 62)
  have HV0 := hid (show w2.heap.size ≠ w.heap.size + 1 ∧ w2.heap.size ≠ w.heap.size by have := R2.out.1.1; omega)
  have B3 := hid (B2.out.below hb3)
  have R3 := hid (R2.out.below hb3)
  have HB3 := hid (HB2.out.trans (hb3.mono HB2.out.size))
  clear hb3
  rcases kwP_cases hk with ⟨h1, rfl, rfl⟩ | ⟨h1, m, rfl, hm, (⟨rfl, p0, a0, h2⟩ | ⟨rfl, h2, h3, h4, h5⟩ | ⟨rfl, h2, h4, h3, h5⟩)⟩
  · have Hr := hid (show dropC c key = (c, 0, 1) by unfold dropC; rw [h1]; rfl)
    clear hk h1
    have hSW : ∀ b, b = w.heap.size + 1 → b < W3.heap.size := fun b hb => by rw [hb]; exact R3.out.1.1
    have x0 := Go.ExtS.cell (S := fun b => b = w.heap.size + 1) V3.out.1.1 (by have := HV0.out; omega) (show W3.cell? ⟨w2.heap.size, 0, none⟩ = some (.int .i64 0) by have z := V3.out.1.2 0 (by simp); simpa using z)
    have mk1 : ∀ (P : Program) (o : Oper) (a : Act) (w : World) (v : Value), Oper.plainAt P o a w v = Oper.plainUpon w v ((execOp a.eval o).run P w) := fun _ _ _ _ _ => rfl; have mk2 : ∀ (w w' : World) (v u : Value), Oper.plainUpon w v (.ok (.value u) w') = (w' = w ∧ u = v) := fun _ _ _ _ => rfl
    go_wp2
    refine Go.wp_region_chg (fun b => b = w.heap.size + 1) (fun v lo hi w9 => BoxF w9 (w.heap.size + 1) ce) [Rel.none, Rel.none, Rel.none, Rel.none, Rel.val undef, Rel.none, Rel.none] [[], [], [], [], [], [], []] [.plain, .plain, .plain, .plain, .change, .plain, .plain] (by kernel_rfl) (by kernel_rfl) (by kernel_rfl) (by kernel_rfl) (by kernel_rfl) hSW (fun v lo hi w9 w' h _ hC => h.chg hC (fun h => h.2 rfl)) ?_
    refine Go.wpR_plain (Go.clsExtS _ _ hSW) rfl rfl (fun K hK => ?_)
    refine ⟨.agg ce.toArray, fun w8 hC => by
      obtain ⟨E, rfl⟩ := hC
      exact plain_load_mid 31 _ rfl w.heap.size 0 rfl ce _ (B3.out.chg E.h (by omega)).1.range Try.underlying31 rfl (by rw [hl]; kernel_rfl), ?_⟩
    go_simp
    refine hK _ ?_
    clear hK K
    (refine Go.wpR_plain (Go.clsExtS _ _ hSW) rfl rfl (fun K hK => ?_); go_simp; refine hK _ ?_; clear hK K)
    (refine Go.wpR_plain (Go.clsExtS _ _ hSW) rfl rfl (fun K hK => ?_); go_simp; refine hK _ ?_; clear hK K)
    (refine Go.wpR_plain (Go.clsExtS _ _ hSW) rfl rfl (fun K hK => ?_); go_simp; refine hK _ ?_; clear hK K)
    refine Go.wpR_put (.agg ce.toArray) (fun v lo hi w9 => BoxF w9 (w.heap.size + 1) ce) (by rintro w8 w' ⟨E, rfl⟩ hC; exact ⟨⟨w', E.h.trans hC⟩, rfl⟩) rfl rfl rfl rfl (fun v => by first | rfl | (simp [Go.Oper.told]; go_simp)) (fun w8 hC hold => ?_) (fun lo16 hi16 => ?_)
    · obtain ⟨E, rfl⟩ := hC
      exact put_box 31 _ _ rfl (w.heap.size + 1) [.bool false, .int .i64 0, .int .i64 0, .int .i64 0, .bool false, .int .i64 0, .int .i64 0, .int .i64 0, .bool false, .int .i64 0, .int .i64 0, .int .i64 0, .bool false, .int .i64 0, .int .i64 0, .int .i64 0, .bool false, .int .i64 0, .int .i64 0, .int .i64 0, .bool false, .int .i64 0, .int .i64 0, .int .i64 0, .bool false, .int .i64 0, .int .i64 0, .int .i64 0, .bool false, .int .i64 0, .int .i64 0, .int .i64 0, .bool false, .int .i64 0, .int .i64 0, .int .i64 0, .bool false, .int .i64 0, .int .i64 0, .int .i64 0, .bool false, .int .i64 0, .int .i64 0, .int .i64 0, .bool false, .int .i64 0, .int .i64 0, .int .i64 0, .bool false, .int .i64 0, .int .i64 0, .int .i64 0, .bool false, .int .i64 0, .int .i64 0, .int .i64 0, .bool false, .int .i64 0, .int .i64 0, .int .i64 0, .bool false, .int .i64 0, .int .i64 0, .int .i64 0, .int .i64 0] ce (R3.out.same (hold _ rfl) E.h.size) rfl rfl (by rw [hl]; rfl) (by rw [hl]; kernel_rfl) hone
    (refine Go.wpR_plain (Go.clsExtS _ _ hSW) rfl rfl (fun K hK => ?_); go_simp; refine hK _ ?_; clear hK K)
    (refine Go.wpR_plain (Go.clsExtS _ _ hSW) rfl rfl (fun K hK => ?_); go_simp; refine hK _ ?_; clear hK K)
    refine Go.wpR_nil ?_
    intro E hm
    have O9 := hid (show BoxF E.w (w.heap.size + 1) ce from (hm.one 4 _ _ _ rfl).1)
    have HB9 := hid (below_chg HB3.out E.h HB3.out.size (fun b hb => by omega))
    clear hm
    go_wp2
    exact bodyPost_ret (results_box3 rfl _ _ (w.heap.size + 1) ce rfl O9.out _ Try.underlying31 rfl (by rw [hl]; kernel_rfl)) rfl ⟨by rw [Hr.out, HCE.out]; rfl, HB9.out⟩
  · have Hr := hid (show dropC c key = (c, (m : Int), 2) by unfold dropC dropW; rw [if_pos h1, h2]; rfl)
    clear hk h1 h2
    have hSW : ∀ b, b = w.heap.size + 1 → b < W3.heap.size := fun b hb => by rw [hb]; exact R3.out.1.1
    have x0 := Go.ExtS.cell (S := fun b => b = w.heap.size + 1) V3.out.1.1 (by have := HV0.out; omega) (show W3.cell? ⟨w2.heap.size, 0, none⟩ = some (.int .i64 (m : Int)) by have z := V3.out.1.2 0 (by simp); simpa using z)
    have mk1 : ∀ (P : Program) (o : Oper) (a : Act) (w : World) (v : Value), Oper.plainAt P o a w v = Oper.plainUpon w v ((execOp a.eval o).run P w) := fun _ _ _ _ _ => rfl; have mk2 : ∀ (w w' : World) (v u : Value), Oper.plainUpon w v (.ok (.value u) w') = (w' = w ∧ u = v) := fun _ _ _ _ => rfl
    go_wp2
    refine Go.wp_region_chg (fun b => b = w.heap.size + 1) (fun v lo hi w9 => BoxF w9 (w.heap.size + 1) ce) [Rel.none, Rel.none, Rel.none, Rel.none, Rel.val undef, Rel.none, Rel.none] [[], [], [], [], [], [], []] [.plain, .plain, .plain, .plain, .change, .plain, .plain] (by kernel_rfl) (by kernel_rfl) (by kernel_rfl) (by kernel_rfl) (by kernel_rfl) hSW (fun v lo hi w9 w' h _ hC => h.chg hC (fun h => h.2 rfl)) ?_
    refine Go.wpR_plain (Go.clsExtS _ _ hSW) rfl rfl (fun K hK => ?_)
    refine ⟨.agg ce.toArray, fun w8 hC => by
      obtain ⟨E, rfl⟩ := hC
      exact plain_load_mid 31 _ rfl w.heap.size 0 rfl ce _ (B3.out.chg E.h (by omega)).1.range Try.underlying31 rfl (by rw [hl]; kernel_rfl), ?_⟩
    go_simp
    refine hK _ ?_
    clear hK K
    (refine Go.wpR_plain (Go.clsExtS _ _ hSW) rfl rfl (fun K hK => ?_); go_simp; refine hK _ ?_; clear hK K)
    (refine Go.wpR_plain (Go.clsExtS _ _ hSW) rfl rfl (fun K hK => ?_); go_simp; refine hK _ ?_; clear hK K)
    (refine Go.wpR_plain (Go.clsExtS _ _ hSW) rfl rfl (fun K hK => ?_); go_simp; refine hK _ ?_; clear hK K)
    refine Go.wpR_put (.agg ce.toArray) (fun v lo hi w9 => BoxF w9 (w.heap.size + 1) ce) (by rintro w8 w' ⟨E, rfl⟩ hC; exact ⟨⟨w', E.h.trans hC⟩, rfl⟩) rfl rfl rfl rfl (fun v => by first | rfl | (simp [Go.Oper.told]; go_simp)) (fun w8 hC hold => ?_) (fun lo16 hi16 => ?_)
    · obtain ⟨E, rfl⟩ := hC
      exact put_box 31 _ _ rfl (w.heap.size + 1) [.bool false, .int .i64 0, .int .i64 0, .int .i64 0, .bool false, .int .i64 0, .int .i64 0, .int .i64 0, .bool false, .int .i64 0, .int .i64 0, .int .i64 0, .bool false, .int .i64 0, .int .i64 0, .int .i64 0, .bool false, .int .i64 0, .int .i64 0, .int .i64 0, .bool false, .int .i64 0, .int .i64 0, .int .i64 0, .bool false, .int .i64 0, .int .i64 0, .int .i64 0, .bool false, .int .i64 0, .int .i64 0, .int .i64 0, .bool false, .int .i64 0, .int .i64 0, .int .i64 0, .bool false, .int .i64 0, .int .i64 0, .int .i64 0, .bool false, .int .i64 0, .int .i64 0, .int .i64 0, .bool false, .int .i64 0, .int .i64 0, .int .i64 0, .bool false, .int .i64 0, .int .i64 0, .int .i64 0, .bool false, .int .i64 0, .int .i64 0, .int .i64 0, .bool false, .int .i64 0, .int .i64 0, .int .i64 0, .bool false, .int .i64 0, .int .i64 0, .int .i64 0, .int .i64 0] ce (R3.out.same (hold _ rfl) E.h.size) rfl rfl (by rw [hl]; rfl) (by rw [hl]; kernel_rfl) hone
    (refine Go.wpR_plain (Go.clsExtS _ _ hSW) rfl rfl (fun K hK => ?_); go_simp; refine hK _ ?_; clear hK K)
    (refine Go.wpR_plain (Go.clsExtS _ _ hSW) rfl rfl (fun K hK => ?_); go_simp; refine hK _ ?_; clear hK K)
    refine Go.wpR_nil ?_
    intro E hm
    have O9 := hid (show BoxF E.w (w.heap.size + 1) ce from (hm.one 4 _ _ _ rfl).1)
    have HB9 := hid (below_chg HB3.out E.h HB3.out.size (fun b hb => by omega))
    clear hm
    go_wp2
    exact bodyPost_ret (results_box3 rfl _ _ (w.heap.size + 1) ce rfl O9.out _ Try.underlying31 rfl (by rw [hl]; kernel_rfl)) rfl ⟨by rw [Hr.out, HCE.out]; rfl, HB9.out⟩
  · have Hr := hid (show dropC c key = (c, (m : Int), 4) by unfold dropC dropW; rw [if_pos h1, h2]; dsimp only; rw [if_pos rfl, if_pos h5])
    clear hk h1 h2 h3 h4 h5
    have hSW : ∀ b, b = w.heap.size + 1 → b < W3.heap.size := fun b hb => by rw [hb]; exact R3.out.1.1
    have x0 := Go.ExtS.cell (S := fun b => b = w.heap.size + 1) V3.out.1.1 (by have := HV0.out; omega) (show W3.cell? ⟨w2.heap.size, 0, none⟩ = some (.int .i64 (m : Int)) by have z := V3.out.1.2 0 (by simp); simpa using z)
    have mk1 : ∀ (P : Program) (o : Oper) (a : Act) (w : World) (v : Value), Oper.plainAt P o a w v = Oper.plainUpon w v ((execOp a.eval o).run P w) := fun _ _ _ _ _ => rfl; have mk2 : ∀ (w w' : World) (v u : Value), Oper.plainUpon w v (.ok (.value u) w') = (w' = w ∧ u = v) := fun _ _ _ _ => rfl
    go_wp2
    refine Go.wp_region_chg (fun b => b = w.heap.size + 1) (fun v lo hi w9 => BoxF w9 (w.heap.size + 1) ce) [Rel.none, Rel.none, Rel.none, Rel.none, Rel.val undef, Rel.none, Rel.none] [[], [], [], [], [], [], []] [.plain, .plain, .plain, .plain, .change, .plain, .plain] (by kernel_rfl) (by kernel_rfl) (by kernel_rfl) (by kernel_rfl) (by kernel_rfl) hSW (fun v lo hi w9 w' h _ hC => h.chg hC (fun h => h.2 rfl)) ?_
    refine Go.wpR_plain (Go.clsExtS _ _ hSW) rfl rfl (fun K hK => ?_)
    refine ⟨.agg ce.toArray, fun w8 hC => by
      obtain ⟨E, rfl⟩ := hC
      exact plain_load_mid 31 _ rfl w.heap.size 0 rfl ce _ (B3.out.chg E.h (by omega)).1.range Try.underlying31 rfl (by rw [hl]; kernel_rfl), ?_⟩
    go_simp
    refine hK _ ?_
    clear hK K
    (refine Go.wpR_plain (Go.clsExtS _ _ hSW) rfl rfl (fun K hK => ?_); go_simp; refine hK _ ?_; clear hK K)
    (refine Go.wpR_plain (Go.clsExtS _ _ hSW) rfl rfl (fun K hK => ?_); go_simp; refine hK _ ?_; clear hK K)
    (refine Go.wpR_plain (Go.clsExtS _ _ hSW) rfl rfl (fun K hK => ?_); go_simp; refine hK _ ?_; clear hK K)
    refine Go.wpR_put (.agg ce.toArray) (fun v lo hi w9 => BoxF w9 (w.heap.size + 1) ce) (by rintro w8 w' ⟨E, rfl⟩ hC; exact ⟨⟨w', E.h.trans hC⟩, rfl⟩) rfl rfl rfl rfl (fun v => by first | rfl | (simp [Go.Oper.told]; go_simp)) (fun w8 hC hold => ?_) (fun lo16 hi16 => ?_)
    · obtain ⟨E, rfl⟩ := hC
      exact put_box 31 _ _ rfl (w.heap.size + 1) [.bool false, .int .i64 0, .int .i64 0, .int .i64 0, .bool false, .int .i64 0, .int .i64 0, .int .i64 0, .bool false, .int .i64 0, .int .i64 0, .int .i64 0, .bool false, .int .i64 0, .int .i64 0, .int .i64 0, .bool false, .int .i64 0, .int .i64 0, .int .i64 0, .bool false, .int .i64 0, .int .i64 0, .int .i64 0, .bool false, .int .i64 0, .int .i64 0, .int .i64 0, .bool false, .int .i64 0, .int .i64 0, .int .i64 0, .bool false, .int .i64 0, .int .i64 0, .int .i64 0, .bool false, .int .i64 0, .int .i64 0, .int .i64 0, .bool false, .int .i64 0, .int .i64 0, .int .i64 0, .bool false, .int .i64 0, .int .i64 0, .int .i64 0, .bool false, .int .i64 0, .int .i64 0, .int .i64 0, .bool false, .int .i64 0, .int .i64 0, .int .i64 0, .bool false, .int .i64 0, .int .i64 0, .int .i64 0, .bool false, .int .i64 0, .int .i64 0, .int .i64 0, .int .i64 0] ce (R3.out.same (hold _ rfl) E.h.size) rfl rfl (by rw [hl]; rfl) (by rw [hl]; kernel_rfl) hone
    (refine Go.wpR_plain (Go.clsExtS _ _ hSW) rfl rfl (fun K hK => ?_); go_simp; refine hK _ ?_; clear hK K)
    (refine Go.wpR_plain (Go.clsExtS _ _ hSW) rfl rfl (fun K hK => ?_); go_simp; refine hK _ ?_; clear hK K)
    refine Go.wpR_nil ?_
    intro E hm
    have O9 := hid (show BoxF E.w (w.heap.size + 1) ce from (hm.one 4 _ _ _ rfl).1)
    have HB9 := hid (below_chg HB3.out E.h HB3.out.size (fun b hb => by omega))
    clear hm
    go_wp2
    exact bodyPost_ret (results_box3 rfl _ _ (w.heap.size + 1) ce rfl O9.out _ Try.underlying31 rfl (by rw [hl]; kernel_rfl)) rfl ⟨by rw [Hr.out, HCE.out]; rfl, HB9.out⟩
  · obtain ⟨k, rfl, hk16⟩ : ∃ k : Nat, p = (k : Int) ∧ k < 16 := ⟨p.toNat, by omega, by omega⟩
    have hkL : k < c.nodes_.length := by rw [HC.out]; exact hk16
    have HK := hid (nd_eq c.nodes_ (k : Int) (by rw [Int.toNat_natCast]; exact hkL))
    simp only [Int.toNat_natCast] at HK
    have c3 : W3.cell? ⟨w.heap.size, k * 4 + 3, none⟩ = some (.int .i64 c.nodes_[k].next_) := boxF_nx HE.out B3.out k hkL
    have hk0 : (0 : Int) ≤ (k : Int) := by omega
    have hki : (k : Int) < 16 := by omega
    obtain ⟨X, hX⟩ : ∃ X, c.nodes_[k] = X := ⟨_, rfl⟩
    rw [hX] at c3 HK
    clear hX
    obtain ⟨xu, xk, xv, xn⟩ := X
    dsimp only at c3
    rw [HK.out] at h5
    dsimp only at h5
    subst h5
    have HG3 := hid (show dropC c xk = if a < 0 then (⟨c.nodes_.set k zNode, xn⟩, (m : Int), 0) else (⟨(c.nodes_.set a.toNat { nd c.nodes_ a with next_ := xn }).set k zNode, c.first_⟩, (m : Int), 0) by
      unfold dropC dropW
      rw [if_pos h1, h2]
      dsimp only
      rw [if_pos rfl, if_neg (by rw [HK.out]; rintro (h | h); omega; exact h rfl), HK.out, Int.toNat_natCast])
    clear hk h1 h2 h3
    rcases h4 with h4 | h4
    · subst h4
      have HG4 := hid (HG3.out.trans (if_pos (by omega)))
      clear HG3
      have hSW3 : ∀ b, b = w.heap.size → b < W3.heap.size := fun b hb => by rw [hb]; exact B3.out.1.1
      have x1 := Go.ExtS.cell (S := fun b => b = w.heap.size) V3.out.1.1 HV0.out.2 (show W3.cell? ⟨w2.heap.size, 1, none⟩ = some (.int .i64 (-1)) by have z := V3.out.1.2 1 (by simp); simpa using z)
      have x2 := Go.ExtS.cell (S := fun b => b = w.heap.size) V3.out.1.1 HV0.out.2 (show W3.cell? ⟨w2.heap.size, 2, none⟩ = some (.int .i64 k) by have z := V3.out.1.2 2 (by simp); simpa using z)
      have y3 := Go.ExtO.cell (S := fun b => b = w.heap.size) B3.out.1.1 c3
      have hoff : 64 < ce.length := by rw [hl]; omega
      clear c3
      have mk1 : ∀ (P : Program) (o : Oper) (a : Act) (w : World) (v : Value), Oper.plainAt P o a w v = Oper.plainUpon w v ((execOp a.eval o).run P w) := fun _ _ _ _ _ => rfl; have mk2 : ∀ (w w' : World) (v u : Value), Oper.plainUpon w v (.ok (.value u) w') = (w' = w ∧ u = v) := fun _ _ _ _ => rfl
      go_wp2
      refine Go.wp_region_chg (fun b => b = w.heap.size) (fun v lo hi w9 => BoxF w9 w.heap.size (ce.set (64) (.int .i64 xn))) [Rel.none, Rel.none, Rel.val (.pointer (some ⟨w.heap.size, 64, none⟩)), Rel.none, Rel.none, Rel.none, Rel.none, Rel.none, Rel.none, Rel.none, Rel.val undef] [[], [], [], [], [], [], [], [], [], [], []] [.plain, .plain, .make, .plain, .plain, .plain, .plain, .plain, .look, .plain, .change] (by kernel_rfl) (by kernel_rfl) (by kernel_rfl) (by kernel_rfl) (by kernel_rfl) hSW3 (fun v lo hi w9 w' h _ hC => h.chg hC (fun h => h.2 rfl)) ?_
      (refine Go.wpR_plain (Go.clsExtS _ _ hSW3) rfl rfl (fun K hK => ?_); go_simp; refine hK _ ?_; clear hK K)
      (refine Go.wpR_plain (Go.clsExtS _ _ hSW3) rfl rfl (fun K hK => ?_); go_simp; refine hK _ ?_; clear hK K)
      refine Go.wpR_call (Go.clsExtS _ _ hSW3) 40 #[.pointer (some ⟨w.heap.size, 0, none⟩), .int .i64 (-1)] (Rel.val (.pointer (some ⟨w.heap.size, 64, none⟩))) rfl rfl rfl rfl (fun w => by go_simp) (fun w8 hC hD => ?_) ?_
      · refine (impl_linkBehind0 w.heap.size w8).mono ?_
        rintro e w9 ⟨rfl, rfl⟩
        exact ⟨_, rfl, Below.refl _ _, rfl, trivial⟩
      rintro _ lo2 hi2 rfl
      (refine Go.wpR_plain (Go.clsExtS _ _ hSW3) rfl rfl (fun K hK => ?_); go_simp; refine hK _ ?_; clear hK K)
      (refine Go.wpR_plain (Go.clsExtS _ _ hSW3) rfl rfl (fun K hK => ?_); go_simp; refine hK _ ?_; clear hK K)
      (refine Go.wpR_plain (Go.clsExtS _ _ hSW3) rfl rfl (fun K hK => ?_); go_simp; refine hK _ ?_; clear hK K)
      (refine Go.wpR_plain (Go.clsExtS _ _ hSW3) rfl rfl (fun K hK => ?_); go_simp; refine hK _ ?_; clear hK K)
      (refine Go.wpR_plain (Go.clsExtS _ _ hSW3) rfl rfl (fun K hK => ?_); go_simp; refine hK _ ?_; clear hK K)
      (refine Go.wpR_look rfl rfl (fun K hK => ?_); go_simp; refine hK _ ?_; clear hK K)
      (refine Go.wpR_plain (Go.clsExtS _ _ hSW3) rfl rfl (fun K hK => ?_); go_simp; refine hK _ ?_; clear hK K)
      refine Go.wpR_put (.int .i64 xn) (fun v lo hi w9 => BoxF w9 w.heap.size (ce.set (64) (.int .i64 xn))) (by rintro w8 w' ⟨E, rfl⟩ hC; exact ⟨⟨w', E.h.trans hC⟩, rfl⟩) rfl rfl rfl rfl (fun v => by first | rfl | (simp [Go.Oper.told]; go_simp)) (fun w8 hC hold => ?_) (fun lo16 hi16 => ?_)
      · obtain ⟨E, rfl⟩ := hC
        exact put_cell 3 _ _ rfl w.heap.size (64) ce (.int .i64 xn) (B3.out.same (hold _ rfl) E.h.size) rfl rfl hoff (by kernel_rfl) rfl rfl
      refine Go.wpR_nil ?_
      intro E hm
      have B5 := hid (show BoxF E.w w.heap.size ([] ++ (c.nodes_).flatMap Node.enc ++ [.int .i64 xn]) by
        have z := (hm.one 10 _ _ _ rfl).1
        have z2 : BoxF E.w w.heap.size (ce.set (64) (.int .i64 xn)) := z
        rw [show ce.set (64) (.int .i64 xn) = [] ++ (c.nodes_).flatMap Node.enc ++ [.int .i64 xn] by rw [HE.out, List.nil_append, List.set_append_right _ _ (by omega), hln]; rfl] at z2
        exact z2)
      have V5 := hid (V3.out.chg E.h HV0.out.2)
      have R5 := hid (R3.out.chg E.h (by omega))
      have HB5 := hid (below_chg HB3.out E.h HB3.out.size (fun b hb => by omega))
      obtain ⟨W5, hW5⟩ : ∃ X, E.w = X := ⟨_, rfl⟩
      rw [hW5] at B5 V5 R5 HB5 ⊢
      have v52 := V5.out.1.2 2 (by simp)
      simp only [List.getElem?_cons_zero, List.getElem?_cons_succ] at v52
      clear hm hW5 x1 x2 y3 mk1 mk2
      go_wp2_with (refine wpList_store_el Node.enc 4 (fun _ => rfl) rfl 28 _ _ rfl w.heap.size (k * 4) [] [.int .i64 xn] (c.nodes_) k zNode B5.out (by first | exact HkL2.out | (rw [HC.out]; exact hk16)) (by simp) rfl rfl (by kernel_rfl) rfl ?_)
      intro w6 o6 C6
      have A6 := hid (show BoxF w6 w.heap.size (ChainD.enc ⟨(c.nodes_).set k zNode, xn⟩) from o6)
      have V6 := hid (V5.out.chg C6 (fun h => HV0.out.2 h))
      have R6 := hid (R5.out.chg C6 (by omega))
      have HB6 := hid (below_chg HB5.out C6 HB5.out.size (fun b hb => by omega))
      have hl9 := chain_len (c := ⟨(c.nodes_).set k zNode, xn⟩) (by show (List.set _ _ _).length = 16; simp [HC.out])
      have hone9 := chain_one ⟨(c.nodes_).set k zNode, xn⟩
      have HR := hid (show dropC c xk = (⟨(c.nodes_).set k zNode, xn⟩, (m : Int), 0) from HG4.out)
      clear o6 C6 B5 R5 V5 HB5 v52
      obtain ⟨cf, hcf⟩ : ∃ Y, ChainD.enc ⟨(c.nodes_).set k zNode, xn⟩ = Y := ⟨_, rfl⟩
      rw [hcf] at A6 hl9 hone9
      have HCF := hid hcf
      clear hcf
      have hSW : ∀ b, b = w.heap.size + 1 → b < w6.heap.size := fun b hb => by rw [hb]; exact R6.out.1.1
      have x0 := Go.ExtS.cell (S := fun b => b = w.heap.size + 1) V6.out.1.1 (by have := HV0.out; omega) (show w6.cell? ⟨w2.heap.size, 0, none⟩ = some (.int .i64 m) by have z := V6.out.1.2 0 (by simp); simpa using z)
      have mk1 : ∀ (P : Program) (o : Oper) (a : Act) (w : World) (v : Value), Oper.plainAt P o a w v = Oper.plainUpon w v ((execOp a.eval o).run P w) := fun _ _ _ _ _ => rfl; have mk2 : ∀ (w w' : World) (v u : Value), Oper.plainUpon w v (.ok (.value u) w') = (w' = w ∧ u = v) := fun _ _ _ _ => rfl
      go_wp2
      refine Go.wp_region_chg (fun b => b = w.heap.size + 1) (fun v lo hi w9 => BoxF w9 (w.heap.size + 1) cf) [Rel.none, Rel.none, Rel.none, Rel.none, Rel.val undef, Rel.none, Rel.none] [[], [], [], [], [], [], []] [.plain, .plain, .plain, .plain, .change, .plain, .plain] (by kernel_rfl) (by kernel_rfl) (by kernel_rfl) (by kernel_rfl) (by kernel_rfl) hSW (fun v lo hi w9 w' h _ hC => h.chg hC (fun h => h.2 rfl)) ?_
      refine Go.wpR_plain (Go.clsExtS _ _ hSW) rfl rfl (fun K hK => ?_)
      refine ⟨.agg cf.toArray, fun w8 hC => by
        obtain ⟨E, rfl⟩ := hC
        exact plain_load_mid 31 _ rfl w.heap.size 0 rfl cf _ (A6.out.chg E.h (by omega)).1.range Try.underlying31 rfl (by rw [hl9]; kernel_rfl), ?_⟩
      go_simp
      refine hK _ ?_
      clear hK K
      (refine Go.wpR_plain (Go.clsExtS _ _ hSW) rfl rfl (fun K hK => ?_); go_simp; refine hK _ ?_; clear hK K)
      (refine Go.wpR_plain (Go.clsExtS _ _ hSW) rfl rfl (fun K hK => ?_); go_simp; refine hK _ ?_; clear hK K)
      (refine Go.wpR_plain (Go.clsExtS _ _ hSW) rfl rfl (fun K hK => ?_); go_simp; refine hK _ ?_; clear hK K)
      refine Go.wpR_put (.agg cf.toArray) (fun v lo hi w9 => BoxF w9 (w.heap.size + 1) cf) (by rintro w8 w' ⟨E, rfl⟩ hC; exact ⟨⟨w', E.h.trans hC⟩, rfl⟩) rfl rfl rfl rfl (fun v => by first | rfl | (simp [Go.Oper.told]; go_simp)) (fun w8 hC hold => ?_) (fun lo16 hi16 => ?_)
      · obtain ⟨E, rfl⟩ := hC
        exact put_box 31 _ _ rfl (w.heap.size + 1) [.bool false, .int .i64 0, .int .i64 0, .int .i64 0, .bool false, .int .i64 0, .int .i64 0, .int .i64 0, .bool false, .int .i64 0, .int .i64 0, .int .i64 0, .bool false, .int .i64 0, .int .i64 0, .int .i64 0, .bool false, .int .i64 0, .int .i64 0, .int .i64 0, .bool false, .int .i64 0, .int .i64 0, .int .i64 0, .bool false, .int .i64 0, .int .i64 0, .int .i64 0, .bool false, .int .i64 0, .int .i64 0, .int .i64 0, .bool false, .int .i64 0, .int .i64 0, .int .i64 0, .bool false, .int .i64 0, .int .i64 0, .int .i64 0, .bool false, .int .i64 0, .int .i64 0, .int .i64 0, .bool false, .int .i64 0, .int .i64 0, .int .i64 0, .bool false, .int .i64 0, .int .i64 0, .int .i64 0, .bool false, .int .i64 0, .int .i64 0, .int .i64 0, .bool false, .int .i64 0, .int .i64 0, .int .i64 0, .bool false, .int .i64 0, .int .i64 0, .int .i64 0, .int .i64 0] cf (R6.out.same (hold _ rfl) E.h.size) rfl rfl (by rw [hl9]; rfl) (by rw [hl9]; kernel_rfl) hone9
      (refine Go.wpR_plain (Go.clsExtS _ _ hSW) rfl rfl (fun K hK => ?_); go_simp; refine hK _ ?_; clear hK K)
      (refine Go.wpR_plain (Go.clsExtS _ _ hSW) rfl rfl (fun K hK => ?_); go_simp; refine hK _ ?_; clear hK K)
      refine Go.wpR_nil ?_
      intro E hm
      have O9 := hid (show BoxF E.w (w.heap.size + 1) cf from (hm.one 4 _ _ _ rfl).1)
      have HB9 := hid (below_chg HB6.out E.h HB6.out.size (fun b hb => by omega))
      clear hm
      go_wp2
      exact bodyPost_ret (results_box3 rfl _ _ (w.heap.size + 1) cf rfl O9.out _ Try.underlying31 rfl (by rw [hl9]; kernel_rfl)) rfl ⟨by rw [HR.out, HCF.out]; rfl, HB9.out⟩
    · obtain ⟨j, rfl, hj16⟩ : ∃ j : Nat, a = (j : Int) ∧ j < 16 := ⟨a.toNat, by omega, by omega⟩
      clear h4
      have hjL : j < c.nodes_.length := by rw [HC.out]; exact hj16
      have HJ := hid (nd_eq c.nodes_ (j : Int) (by rw [Int.toNat_natCast]; exact hjL))
      simp only [Int.toNat_natCast] at HJ
      have hnj : ¬ (j : Int) < 0 := by omega
      have HG4 := HG3.out.trans (if_neg hnj)
      rw [HJ.out] at HG4
      simp only [Int.toNat_natCast] at HG4
      have HG4 := hid HG4
      have HkL2 := hid (show k < (c.nodes_.set j { c.nodes_[j] with next_ := xn }).length by rw [List.length_set]; exact hkL)
      clear HG3
      have hSW3 : ∀ b, b = w.heap.size → b < W3.heap.size := fun b hb => by rw [hb]; exact B3.out.1.1
      have x1 := Go.ExtS.cell (S := fun b => b = w.heap.size) V3.out.1.1 HV0.out.2 (show W3.cell? ⟨w2.heap.size, 1, none⟩ = some (.int .i64 (j : Int)) by have z := V3.out.1.2 1 (by simp); simpa using z)
      have x2 := Go.ExtS.cell (S := fun b => b = w.heap.size) V3.out.1.1 HV0.out.2 (show W3.cell? ⟨w2.heap.size, 2, none⟩ = some (.int .i64 k) by have z := V3.out.1.2 2 (by simp); simpa using z)
      have y3 := Go.ExtO.cell (S := fun b => b = w.heap.size) B3.out.1.1 c3
      have hoff : j * 4 + 3 < ce.length := by rw [hl]; omega
      clear c3
      have mk1 : ∀ (P : Program) (o : Oper) (a : Act) (w : World) (v : Value), Oper.plainAt P o a w v = Oper.plainUpon w v ((execOp a.eval o).run P w) := fun _ _ _ _ _ => rfl; have mk2 : ∀ (w w' : World) (v u : Value), Oper.plainUpon w v (.ok (.value u) w') = (w' = w ∧ u = v) := fun _ _ _ _ => rfl
      go_wp2
      refine Go.wp_region_chg (fun b => b = w.heap.size) (fun v lo hi w9 => BoxF w9 w.heap.size (ce.set (j * 4 + 3) (.int .i64 xn))) [Rel.none, Rel.none, Rel.val (.pointer (some ⟨w.heap.size, j * 4 + 3, none⟩)), Rel.none, Rel.none, Rel.none, Rel.none, Rel.none, Rel.none, Rel.none, Rel.val undef] [[], [], [], [], [], [], [], [], [], [], []] [.plain, .plain, .make, .plain, .plain, .plain, .plain, .plain, .look, .plain, .change] (by kernel_rfl) (by kernel_rfl) (by kernel_rfl) (by kernel_rfl) (by kernel_rfl) hSW3 (fun v lo hi w9 w' h _ hC => h.chg hC (fun h => h.2 rfl)) ?_
      (refine Go.wpR_plain (Go.clsExtS _ _ hSW3) rfl rfl (fun K hK => ?_); go_simp; refine hK _ ?_; clear hK K)
      (refine Go.wpR_plain (Go.clsExtS _ _ hSW3) rfl rfl (fun K hK => ?_); go_simp; refine hK _ ?_; clear hK K)
      refine Go.wpR_call (Go.clsExtS _ _ hSW3) 40 #[.pointer (some ⟨w.heap.size, 0, none⟩), .int .i64 (j : Int)] (Rel.val (.pointer (some ⟨w.heap.size, j * 4 + 3, none⟩))) rfl rfl rfl rfl (fun w => by go_simp) (fun w8 hC hD => ?_) ?_
      · refine (impl_linkBehind1 w.heap.size j hj16 w8).mono ?_
        rintro e w9 ⟨rfl, rfl⟩
        exact ⟨_, rfl, Below.refl _ _, rfl, trivial⟩
      rintro _ lo2 hi2 rfl
      (refine Go.wpR_plain (Go.clsExtS _ _ hSW3) rfl rfl (fun K hK => ?_); go_simp; refine hK _ ?_; clear hK K)
      (refine Go.wpR_plain (Go.clsExtS _ _ hSW3) rfl rfl (fun K hK => ?_); go_simp; refine hK _ ?_; clear hK K)
      (refine Go.wpR_plain (Go.clsExtS _ _ hSW3) rfl rfl (fun K hK => ?_); go_simp; refine hK _ ?_; clear hK K)
      (refine Go.wpR_plain (Go.clsExtS _ _ hSW3) rfl rfl (fun K hK => ?_); go_simp; refine hK _ ?_; clear hK K)
      (refine Go.wpR_plain (Go.clsExtS _ _ hSW3) rfl rfl (fun K hK => ?_); go_simp; refine hK _ ?_; clear hK K)
      (refine Go.wpR_look rfl rfl (fun K hK => ?_); go_simp; refine hK _ ?_; clear hK K)
      (refine Go.wpR_plain (Go.clsExtS _ _ hSW3) rfl rfl (fun K hK => ?_); go_simp; refine hK _ ?_; clear hK K)
      refine Go.wpR_put (.int .i64 xn) (fun v lo hi w9 => BoxF w9 w.heap.size (ce.set (j * 4 + 3) (.int .i64 xn))) (by rintro w8 w' ⟨E, rfl⟩ hC; exact ⟨⟨w', E.h.trans hC⟩, rfl⟩) rfl rfl rfl rfl (fun v => by first | rfl | (simp [Go.Oper.told]; go_simp)) (fun w8 hC hold => ?_) (fun lo16 hi16 => ?_)
      · obtain ⟨E, rfl⟩ := hC
        exact put_cell 3 _ _ rfl w.heap.size (j * 4 + 3) ce (.int .i64 xn) (B3.out.same (hold _ rfl) E.h.size) rfl rfl hoff (by kernel_rfl) rfl rfl
      refine Go.wpR_nil ?_
      intro E hm
      have B5 := hid (show BoxF E.w w.heap.size ([] ++ (c.nodes_.set j { c.nodes_[j] with next_ := xn }).flatMap Node.enc ++ [.int .i64 c.first_]) by
        have z := (hm.one 10 _ _ _ rfl).1
        have z2 : BoxF E.w w.heap.size (ce.set (j * 4 + 3) (.int .i64 xn)) := z
        rw [show ce.set (j * 4 + 3) (.int .i64 xn) = [] ++ (c.nodes_.set j { c.nodes_[j] with next_ := xn }).flatMap Node.enc ++ [.int .i64 c.first_] by rw [HE.out, List.nil_append, List.set_append_left _ _ (by rw [hln]; omega), set_next c.nodes_ j hjL xn]; rfl] at z2
        exact z2)
      have V5 := hid (V3.out.chg E.h HV0.out.2)
      have R5 := hid (R3.out.chg E.h (by omega))
      have HB5 := hid (below_chg HB3.out E.h HB3.out.size (fun b hb => by omega))
      obtain ⟨W5, hW5⟩ : ∃ X, E.w = X := ⟨_, rfl⟩
      rw [hW5] at B5 V5 R5 HB5 ⊢
      have v52 := V5.out.1.2 2 (by simp)
      simp only [List.getElem?_cons_zero, List.getElem?_cons_succ] at v52
      clear hm hW5 x1 x2 y3 mk1 mk2
      go_wp2_with (refine wpList_store_el Node.enc 4 (fun _ => rfl) rfl 28 _ _ rfl w.heap.size (k * 4) [] [.int .i64 c.first_] (c.nodes_.set j { c.nodes_[j] with next_ := xn }) k zNode B5.out (by first | exact HkL2.out | (rw [HC.out]; exact hk16)) (by simp) rfl rfl (by kernel_rfl) rfl ?_)
      intro w6 o6 C6
      have A6 := hid (show BoxF w6 w.heap.size (ChainD.enc ⟨(c.nodes_.set j { c.nodes_[j] with next_ := xn }).set k zNode, c.first_⟩) from o6)
      have V6 := hid (V5.out.chg C6 (fun h => HV0.out.2 h))
      have R6 := hid (R5.out.chg C6 (by omega))
      have HB6 := hid (below_chg HB5.out C6 HB5.out.size (fun b hb => by omega))
      have hl9 := chain_len (c := ⟨(c.nodes_.set j { c.nodes_[j] with next_ := xn }).set k zNode, c.first_⟩) (by show (List.set _ _ _).length = 16; simp [HC.out])
      have hone9 := chain_one ⟨(c.nodes_.set j { c.nodes_[j] with next_ := xn }).set k zNode, c.first_⟩
      have HR := hid (show dropC c xk = (⟨(c.nodes_.set j { c.nodes_[j] with next_ := xn }).set k zNode, c.first_⟩, (m : Int), 0) from HG4.out)
      clear o6 C6 B5 R5 V5 HB5 v52
      obtain ⟨cf, hcf⟩ : ∃ Y, ChainD.enc ⟨(c.nodes_.set j { c.nodes_[j] with next_ := xn }).set k zNode, c.first_⟩ = Y := ⟨_, rfl⟩
      rw [hcf] at A6 hl9 hone9
      have HCF := hid hcf
      clear hcf
      have hSW : ∀ b, b = w.heap.size + 1 → b < w6.heap.size := fun b hb => by rw [hb]; exact R6.out.1.1
      have x0 := Go.ExtS.cell (S := fun b => b = w.heap.size + 1) V6.out.1.1 (by have := HV0.out; omega) (show w6.cell? ⟨w2.heap.size, 0, none⟩ = some (.int .i64 m) by have z := V6.out.1.2 0 (by simp); simpa using z)
      have mk1 : ∀ (P : Program) (o : Oper) (a : Act) (w : World) (v : Value), Oper.plainAt P o a w v = Oper.plainUpon w v ((execOp a.eval o).run P w) := fun _ _ _ _ _ => rfl; have mk2 : ∀ (w w' : World) (v u : Value), Oper.plainUpon w v (.ok (.value u) w') = (w' = w ∧ u = v) := fun _ _ _ _ => rfl
      go_wp2
      refine Go.wp_region_chg (fun b => b = w.heap.size + 1) (fun v lo hi w9 => BoxF w9 (w.heap.size + 1) cf) [Rel.none, Rel.none, Rel.none, Rel.none, Rel.val undef, Rel.none, Rel.none] [[], [], [], [], [], [], []] [.plain, .plain, .plain, .plain, .change, .plain, .plain] (by kernel_rfl) (by kernel_rfl) (by kernel_rfl) (by kernel_rfl) (by kernel_rfl) hSW (fun v lo hi w9 w' h _ hC => h.chg hC (fun h => h.2 rfl)) ?_
      refine Go.wpR_plain (Go.clsExtS _ _ hSW) rfl rfl (fun K hK => ?_)
      refine ⟨.agg cf.toArray, fun w8 hC => by
        obtain ⟨E, rfl⟩ := hC
        exact plain_load_mid 31 _ rfl w.heap.size 0 rfl cf _ (A6.out.chg E.h (by omega)).1.range Try.underlying31 rfl (by rw [hl9]; kernel_rfl), ?_⟩
      go_simp
      refine hK _ ?_
      clear hK K
      (refine Go.wpR_plain (Go.clsExtS _ _ hSW) rfl rfl (fun K hK => ?_); go_simp; refine hK _ ?_; clear hK K)
      (refine Go.wpR_plain (Go.clsExtS _ _ hSW) rfl rfl (fun K hK => ?_); go_simp; refine hK _ ?_; clear hK K)
      (refine Go.wpR_plain (Go.clsExtS _ _ hSW) rfl rfl (fun K hK => ?_); go_simp; refine hK _ ?_; clear hK K)
      refine Go.wpR_put (.agg cf.toArray) (fun v lo hi w9 => BoxF w9 (w.heap.size + 1) cf) (by rintro w8 w' ⟨E, rfl⟩ hC; exact ⟨⟨w', E.h.trans hC⟩, rfl⟩) rfl rfl rfl rfl (fun v => by first | rfl | (simp [Go.Oper.told]; go_simp)) (fun w8 hC hold => ?_) (fun lo16 hi16 => ?_)
      · obtain ⟨E, rfl⟩ := hC
        exact put_box 31 _ _ rfl (w.heap.size + 1) [.bool false, .int .i64 0, .int .i64 0, .int .i64 0, .bool false, .int .i64 0, .int .i64 0, .int .i64 0, .bool false, .int .i64 0, .int .i64 0, .int .i64 0, .bool false, .int .i64 0, .int .i64 0, .int .i64 0, .bool false, .int .i64 0, .int .i64 0, .int .i64 0, .bool false, .int .i64 0, .int .i64 0, .int .i64 0, .bool false, .int .i64 0, .int .i64 0, .int .i64 0, .bool false, .int .i64 0, .int .i64 0, .int .i64 0, .bool false, .int .i64 0, .int .i64 0, .int .i64 0, .bool false, .int .i64 0, .int .i64 0, .int .i64 0, .bool false, .int .i64 0, .int .i64 0, .int .i64 0, .bool false, .int .i64 0, .int .i64 0, .int .i64 0, .bool false, .int .i64 0, .int .i64 0, .int .i64 0, .bool false, .int .i64 0, .int .i64 0, .int .i64 0, .bool false, .int .i64 0, .int .i64 0, .int .i64 0, .bool false, .int .i64 0, .int .i64 0, .int .i64 0, .int .i64 0] cf (R6.out.same (hold _ rfl) E.h.size) rfl rfl (by rw [hl9]; rfl) (by rw [hl9]; kernel_rfl) hone9
      (refine Go.wpR_plain (Go.clsExtS _ _ hSW) rfl rfl (fun K hK => ?_); go_simp; refine hK _ ?_; clear hK K)
      (refine Go.wpR_plain (Go.clsExtS _ _ hSW) rfl rfl (fun K hK => ?_); go_simp; refine hK _ ?_; clear hK K)
      refine Go.wpR_nil ?_
      intro E hm
      have O9 := hid (show BoxF E.w (w.heap.size + 1) cf from (hm.one 4 _ _ _ rfl).1)
      have HB9 := hid (below_chg HB6.out E.h HB6.out.size (fun b hb => by omega))
      clear hm
      go_wp2
      exact bodyPost_ret (results_box3 rfl _ _ (w.heap.size + 1) cf rfl O9.out _ Try.underlying31 rfl (by rw [hl9]; kernel_rfl)) rfl ⟨by rw [HR.out, HCF.out]; rfl, HB9.out⟩
end Go.Proofs.Ytadbgfaboafkeaa
