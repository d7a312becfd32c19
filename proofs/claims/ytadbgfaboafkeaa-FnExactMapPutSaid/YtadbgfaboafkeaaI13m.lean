/- Chapter 13's program: MapPut. (printed by tools/mk_i13d.py) -/
import Derived.Test.YtadbgfaboafkeaaI13u
import Derived.Test.YtadbgfaboafkeaaOv3
import Derived.Test.YtadbgfaboafkeaaF13m
import Derived.Test.YtadbgfaboafkeaaS13d
import Derived.Deep.Cut
namespace Go.Proofs.Ytadbgfaboafkeaa
set_option maxRecDepth 100000
open Go.RowKit Go.Proofs Go.Own
open Go Go.BigFrame
set_option linter.unusedVariables false
set_option linter.unusedSimpArgs false
set_option maxHeartbeats 16000000 in
theorem impl_MapPut0 (c : ChainD) (hc : c.nodes_.length = 16) (key val : Int) (w : World) :
    Calls Try.prog 17 #[.agg c.enc.toArray, .int .i64 key, .int .i64 val] w fun e w' => e = .returned (.tuple #[.agg (putC c key val).1.enc.toArray, .int .i64 (putC c key val).2.1, .int .i64 (putC c key val).2.2]) ∧ Below w.heap.size w w' := by
  have hone := chain_one c
  have hl := chain_len hc
  have hl2 : c.enc.toArray.size = 65 := by rw [List.size_toArray, hl]
  have hln : (c.nodes_.flatMap Node.enc).length = 64 := by rw [nodes_len, hc]
  have HC := hid hc
  have HE := hid (show c.enc = [] ++ c.nodes_.flatMap Node.enc ++ [.int .i64 c.first_] from rfl)
  have HW0 := hid (fun (W : World) => impl_walkToA c hc key W)
  generalize hce : c.enc = ce at *
  obtain ⟨W1, hW1⟩ : ∃ X, (w.alloc (.cells ce.toArray 31)).alloc (.cells #[.bool false, .int .i64 0, .int .i64 0, .int .i64 0, .bool false, .int .i64 0, .int .i64 0, .int .i64 0, .bool false, .int .i64 0, .int .i64 0, .int .i64 0, .bool false, .int .i64 0, .int .i64 0, .int .i64 0, .bool false, .int .i64 0, .int .i64 0, .int .i64 0, .bool false, .int .i64 0, .int .i64 0, .int .i64 0, .bool false, .int .i64 0, .int .i64 0, .int .i64 0, .bool false, .int .i64 0, .int .i64 0, .int .i64 0, .bool false, .int .i64 0, .int .i64 0, .int .i64 0, .bool false, .int .i64 0, .int .i64 0, .int .i64 0, .bool false, .int .i64 0, .int .i64 0, .int .i64 0, .bool false, .int .i64 0, .int .i64 0, .int .i64 0, .bool false, .int .i64 0, .int .i64 0, .int .i64 0, .bool false, .int .i64 0, .int .i64 0, .int .i64 0, .bool false, .int .i64 0, .int .i64 0, .int .i64 0, .bool false, .int .i64 0, .int .i64 0, .int .i64 0, .int .i64 0] 31) = X := ⟨_, rfl⟩
  have hB1 : Below w.heap.size w W1 := by rw [← hW1]; exact ((Below.refl _ _).alloc (Nat.le_refl _) _).alloc (by simp) _
  have b0 : BoxF W1 w.heap.size ce := by
    rw [← hW1]
    exact (BoxF.alloc w ce.toArray 31).below ((Below.refl _ _).alloc (Nat.le_refl _) _)
  have R1 : Hid (BoxF W1 (w.heap.size + 1) [.bool false, .int .i64 0, .int .i64 0, .int .i64 0, .bool false, .int .i64 0, .int .i64 0, .int .i64 0, .bool false, .int .i64 0, .int .i64 0, .int .i64 0, .bool false, .int .i64 0, .int .i64 0, .int .i64 0, .bool false, .int .i64 0, .int .i64 0, .int .i64 0, .bool false, .int .i64 0, .int .i64 0, .int .i64 0, .bool false, .int .i64 0, .int .i64 0, .int .i64 0, .bool false, .int .i64 0, .int .i64 0, .int .i64 0, .bool false, .int .i64 0, .int .i64 0, .int .i64 0, .bool false, .int .i64 0, .int .i64 0, .int .i64 0, .bool false, .int .i64 0, .int .i64 0, .int .i64 0, .bool false, .int .i64 0, .int .i64 0, .int .i64 0, .bool false, .int .i64 0, .int .i64 0, .int .i64 0, .bool false, .int .i64 0, .int .i64 0, .int .i64 0, .bool false, .int .i64 0, .int .i64 0, .int .i64 0, .bool false, .int .i64 0, .int .i64 0, .int .i64 0, .int .i64 0]) := by
    rw [← hW1]
    have z := BoxF.alloc (w.alloc (.cells ce.toArray 31)) #[.bool false, .int .i64 0, .int .i64 0, .int .i64 0, .bool false, .int .i64 0, .int .i64 0, .int .i64 0, .bool false, .int .i64 0, .int .i64 0, .int .i64 0, .bool false, .int .i64 0, .int .i64 0, .int .i64 0, .bool false, .int .i64 0, .int .i64 0, .int .i64 0, .bool false, .int .i64 0, .int .i64 0, .int .i64 0, .bool false, .int .i64 0, .int .i64 0, .int .i64 0, .bool false, .int .i64 0, .int .i64 0, .int .i64 0, .bool false, .int .i64 0, .int .i64 0, .int .i64 0, .bool false, .int .i64 0, .int .i64 0, .int .i64 0, .bool false, .int .i64 0, .int .i64 0, .int .i64 0, .bool false, .int .i64 0, .int .i64 0, .int .i64 0, .bool false, .int .i64 0, .int .i64 0, .int .i64 0, .bool false, .int .i64 0, .int .i64 0, .int .i64 0, .bool false, .int .i64 0, .int .i64 0, .int .i64 0, .bool false, .int .i64 0, .int .i64 0, .int .i64 0, .int .i64 0] 31
    rw [show (w.alloc (.cells ce.toArray 31)).heap.size = w.heap.size + 1 by simp] at z
    exact hid z
  have B1 := hid b0
  have HB1 := hid hB1
  have HCE := hid hce
  have HWK := hid (HW0.out W1)
  have HUN := hid (fun (W : World) => impl_unused0 c HC.out W)
  rw [HCE.out] at HUN
  have hz : ∀ w : World, (zeroValue 31).run Try.prog w = .ok (.agg #[.bool false, .int .i64 0, .int .i64 0, .int .i64 0, .bool false, .int .i64 0, .int .i64 0, .int .i64 0, .bool false, .int .i64 0, .int .i64 0, .int .i64 0, .bool false, .int .i64 0, .int .i64 0, .int .i64 0, .bool false, .int .i64 0, .int .i64 0, .int .i64 0, .bool false, .int .i64 0, .int .i64 0, .int .i64 0, .bool false, .int .i64 0, .int .i64 0, .int .i64 0, .bool false, .int .i64 0, .int .i64 0, .int .i64 0, .bool false, .int .i64 0, .int .i64 0, .int .i64 0, .bool false, .int .i64 0, .int .i64 0, .int .i64 0, .bool false, .int .i64 0, .int .i64 0, .int .i64 0, .bool false, .int .i64 0, .int .i64 0, .int .i64 0, .bool false, .int .i64 0, .int .i64 0, .int .i64 0, .bool false, .int .i64 0, .int .i64 0, .int .i64 0, .bool false, .int .i64 0, .int .i64 0, .int .i64 0, .bool false, .int .i64 0, .int .i64 0, .int .i64 0, .int .i64 0]) w := fun w => zero_run w (by kernel_rfl)
  clear b0 hc hB1 hce HW0
  cases hv2 : isVal val with
  | false =>
    have Hr := hid (show putC c key val = (c, 0, 1) by simp [putC, hv2])
    go_enter Try.func17, Try.ntmps17
    go_wp2_with (first | (go_at_call 37; refine (impl_isValueIs _ _ _ (by assumption)).mono ?_; rintro e w' ⟨rfl, rfl⟩) | (refine wpList_load_box rfl 31 _ rfl w.heap.size ce (by exact B1.out.1) rfl _ Try.underlying31 rfl (by rw [hl]; kernel_rfl) ?_) | (refine wpList_store_box rfl 31 _ _ rfl (w.heap.size + 1) [.bool false, .int .i64 0, .int .i64 0, .int .i64 0, .bool false, .int .i64 0, .int .i64 0, .int .i64 0, .bool false, .int .i64 0, .int .i64 0, .int .i64 0, .bool false, .int .i64 0, .int .i64 0, .int .i64 0, .bool false, .int .i64 0, .int .i64 0, .int .i64 0, .bool false, .int .i64 0, .int .i64 0, .int .i64 0, .bool false, .int .i64 0, .int .i64 0, .int .i64 0, .bool false, .int .i64 0, .int .i64 0, .int .i64 0, .bool false, .int .i64 0, .int .i64 0, .int .i64 0, .bool false, .int .i64 0, .int .i64 0, .int .i64 0, .bool false, .int .i64 0, .int .i64 0, .int .i64 0, .bool false, .int .i64 0, .int .i64 0, .int .i64 0, .bool false, .int .i64 0, .int .i64 0, .int .i64 0, .bool false, .int .i64 0, .int .i64 0, .int .i64 0, .bool false, .int .i64 0, .int .i64 0, .int .i64 0, .bool false, .int .i64 0, .int .i64 0, .int .i64 0, .int .i64 0] ce R1.out rfl rfl (by rw [hl]; rfl) (by rw [hl]; kernel_rfl) hone ?_))
    intro w9 o9 C9
    have O9 := hid o9
    have HB9 := hid (below_chg HB1.out C9 HB1.out.size (fun b hb => by omega))
    clear o9 C9
    go_wp2
    exact bodyPost_ret (results_box3 rfl _ _ (w.heap.size + 1) ce rfl O9.out _ Try.underlying31 rfl (by rw [hl]; kernel_rfl)) rfl ⟨by rw [Hr.out, HCE.out]; rfl, HB9.out⟩
  | true =>
  go_enter Try.func17, Try.ntmps17
  go_wp2_with (first | (go_at_call 37; refine (impl_isValueIs _ _ _ (by assumption)).mono ?_; rintro e w' ⟨rfl, rfl⟩) | (go_at_call 38; refine HWK.out.mono ?_) | (refine wpList_load_box rfl 31 _ rfl w.heap.size ce (by exact B1.out.1) rfl _ Try.underlying31 rfl (by rw [hl]; kernel_rfl) ?_))
  rintro e w2 ⟨⟨v, r, rfl, n, a, p, rfl, hk⟩, b2⟩
  clear hW1
  have B2 := hid (B1.out.below b2)
  have R2 := hid (R1.out.below b2)
  have HB2 := hid (HB1.out.trans (b2.mono HB1.out.size))
  clear b2
  obtain ⟨W3, hW3⟩ : ∃ X, w2.alloc (.cells #[.int .i64 n, .int .i64 a, .int .i64 p] 62) = X := ⟨_, rfl⟩
  have hb3 : Below w2.heap.size w2 W3 := by rw [← hW3]; exact (Below.refl _ _).alloc (Nat.le_refl _) _
  have V3 := hid (show BoxF W3 w2.heap.size [.int .i64 n, .int .i64 a, .int .i64 p] by rw [← hW3]; exact BoxF.alloc w2 #[.int .i64 n, .int .i64 a, .int .i64 p] 62)
  have HV0 := hid (show w2.heap.size ≠ w.heap.size + 1 ∧ w2.heap.size ≠ w.heap.size by have := R2.out.1.1; omega)
  have B3 := hid (B2.out.below hb3)
  have R3 := hid (R2.out.below hb3)
  have HB3 := hid (HB2.out.trans (hb3.mono HB2.out.size))
  clear hb3
  rcases kwP_cases hk with ⟨h1, rfl, rfl⟩ | ⟨h1, m, rfl, hm, (⟨rfl, p0, a0, h2⟩ | ⟨rfl, h2, h3, h4, h5⟩ | ⟨rfl, h2, h4, h3, h5⟩)⟩
  · have Hr := hid (show putC c key val = (c, 0, 1) by unfold putC; rw [h1]; rfl)
    clear hk h1
    have hSW : ∀ b, b = w.heap.size + 1 → b < W3.heap.size := fun b hb => by rw [hb]; exact R3.out.1.1
    have x0 := Go.ExtS.cell (S := fun b => b = w.heap.size + 1) V3.out.1.1 (by have := HV0.out; omega) (show W3.cell? ⟨w2.heap.size, 0, none⟩ = some (.int .i64 0) by have z := V3.out.1.2 0 (by simp); simpa using z)
    have mk1 : ∀ (P : Program) (o : Oper) (a : Act) (w : World) (v : Value), Oper.plainAt P o a w v = Oper.plainUpon w v ((execOp a.eval o).run P w) := fun _ _ _ _ _ => rfl; have mk2 : ∀ (w w' : World) (v u : Value), Oper.plainUpon w v (.ok (.value u) w') = (w' = w ∧ u = v) := fun _ _ _ _ => rfl
    go_wp2
    refine Go.wp_region_chg (fun b => b = w.heap.size + 1) (fun v lo hi w9 => BoxF w9 (w.heap.size + 1) ce) [Rel.none, Rel.none, Rel.none, Rel.none, Rel.val undef, Rel.none, Rel.none] [[], [], [], [], [], [], []] [.plain, .plain, .plain, .plain, .change, .plain, .plain] (by kernel_rfl) (by kernel_rfl) (by kernel_rfl) (by kernel_rfl) (by kernel_rfl) hSW (fun v lo hi w9 w' h _ hC => h.chg hC (fun h => h.2 rfl)) ?_
    refine Go.wpR_plain (Go.clsExtS _ _ hSW) rfl rfl (fun K hK => ?_)
    refine ⟨.agg ce.toArray, fun w8 hC => by
      obtain ⟨E, rfl⟩ := hC
      exact plain_load_mid 31 _ rfl w.heap.size 0 rfl ce _ (B3.out.chg E.h (by omega)).1.range Try.underlying31 rfl (by rw [hl]; kernel_rfl), ?_⟩
    go_simp
    refine hK _ ?_
    clear hK K
    (refine Go.wpR_plain (Go.clsExtS _ _ hSW) rfl rfl (fun K hK => ?_); go_simp; refine hK _ ?_; clear hK K)
    (refine Go.wpR_plain (Go.clsExtS _ _ hSW) rfl rfl (fun K hK => ?_); go_simp; refine hK _ ?_; clear hK K)
    (refine Go.wpR_plain (Go.clsExtS _ _ hSW) rfl rfl (fun K hK => ?_); go_simp; refine hK _ ?_; clear hK K)
    refine Go.wpR_put (.agg ce.toArray) (fun v lo hi w9 => BoxF w9 (w.heap.size + 1) ce) (by rintro w8 w' ⟨E, rfl⟩ hC; exact ⟨⟨w', E.h.trans hC⟩, rfl⟩) rfl rfl rfl rfl (fun v => by first | rfl | (simp [Go.Oper.told]; go_simp)) (fun w8 hC hold => ?_) (fun lo16 hi16 => ?_)
    · obtain ⟨E, rfl⟩ := hC
      exact put_box 31 _ _ rfl (w.heap.size + 1) [.bool false, .int .i64 0, .int .i64 0, .int .i64 0, .bool false, .int .i64 0, .int .i64 0, .int .i64 0, .bool false, .int .i64 0, .int .i64 0, .int .i64 0, .bool false, .int .i64 0, .int .i64 0, .int .i64 0, .bool false, .int .i64 0, .int .i64 0, .int .i64 0, .bool false, .int .i64 0, .int .i64 0, .int .i64 0, .bool false, .int .i64 0, .int .i64 0, .int .i64 0, .bool false, .int .i64 0, .int .i64 0, .int .i64 0, .bool false, .int .i64 0, .int .i64 0, .int .i64 0, .bool false, .int .i64 0, .int .i64 0, .int .i64 0, .bool false, .int .i64 0, .int .i64 0, .int .i64 0, .bool false, .int .i64 0, .int .i64 0, .int .i64 0, .bool false, .int .i64 0, .int .i64 0, .int .i64 0, .bool false, .int .i64 0, .int .i64 0, .int .i64 0, .bool false, .int .i64 0, .int .i64 0, .int .i64 0, .bool false, .int .i64 0, .int .i64 0, .int .i64 0, .int .i64 0] ce (R3.out.same (hold _ rfl) E.h.size) rfl rfl (by rw [hl]; rfl) (by rw [hl]; kernel_rfl) hone
    (refine Go.wpR_plain (Go.clsExtS _ _ hSW) rfl rfl (fun K hK => ?_); go_simp; refine hK _ ?_; clear hK K)
    (refine Go.wpR_plain (Go.clsExtS _ _ hSW) rfl rfl (fun K hK => ?_); go_simp; refine hK _ ?_; clear hK K)
    refine Go.wpR_nil ?_
    intro E hm
    have O9 := hid (show BoxF E.w (w.heap.size + 1) ce from (hm.one 4 _ _ _ rfl).1)
    have HB9 := hid (below_chg HB3.out E.h HB3.out.size (fun b hb => by omega))
    clear hm
    go_wp2
    exact bodyPost_ret (results_box3 rfl _ _ (w.heap.size + 1) ce rfl O9.out _ Try.underlying31 rfl (by rw [hl]; kernel_rfl)) rfl ⟨by rw [Hr.out, HCE.out]; rfl, HB9.out⟩
  · have Hr := hid (show putC c key val = (c, (m : Int), 2) by unfold putC putW; rw [h1, hv2, h2]; rfl)
    clear hk h1 h2
    have hSW : ∀ b, b = w.heap.size + 1 → b < W3.heap.size := fun b hb => by rw [hb]; exact R3.out.1.1
    have x0 := Go.ExtS.cell (S := fun b => b = w.heap.size + 1) V3.out.1.1 (by have := HV0.out; omega) (show W3.cell? ⟨w2.heap.size, 0, none⟩ = some (.int .i64 (m : Int)) by have z := V3.out.1.2 0 (by simp); simpa using z)
    have mk1 : ∀ (P : Program) (o : Oper) (a : Act) (w : World) (v : Value), Oper.plainAt P o a w v = Oper.plainUpon w v ((execOp a.eval o).run P w) := fun _ _ _ _ _ => rfl; have mk2 : ∀ (w w' : World) (v u : Value), Oper.plainUpon w v (.ok (.value u) w') = (w' = w ∧ u = v) := fun _ _ _ _ => rfl
    go_wp2
    refine Go.wp_region_chg (fun b => b = w.heap.size + 1) (fun v lo hi w9 => BoxF w9 (w.heap.size + 1) ce) [Rel.none, Rel.none, Rel.none, Rel.none, Rel.val undef, Rel.none, Rel.none] [[], [], [], [], [], [], []] [.plain, .plain, .plain, .plain, .change, .plain, .plain] (by kernel_rfl) (by kernel_rfl) (by kernel_rfl) (by kernel_rfl) (by kernel_rfl) hSW (fun v lo hi w9 w' h _ hC => h.chg hC (fun h => h.2 rfl)) ?_
    refine Go.wpR_plain (Go.clsExtS _ _ hSW) rfl rfl (fun K hK => ?_)
    refine ⟨.agg ce.toArray, fun w8 hC => by
      obtain ⟨E, rfl⟩ := hC
      exact plain_load_mid 31 _ rfl w.heap.size 0 rfl ce _ (B3.out.chg E.h (by omega)).1.range Try.underlying31 rfl (by rw [hl]; kernel_rfl), ?_⟩
    go_simp
    refine hK _ ?_
    clear hK K
    (refine Go.wpR_plain (Go.clsExtS _ _ hSW) rfl rfl (fun K hK => ?_); go_simp; refine hK _ ?_; clear hK K)
    (refine Go.wpR_plain (Go.clsExtS _ _ hSW) rfl rfl (fun K hK => ?_); go_simp; refine hK _ ?_; clear hK K)
    (refine Go.wpR_plain (Go.clsExtS _ _ hSW) rfl rfl (fun K hK => ?_); go_simp; refine hK _ ?_; clear hK K)
    refine Go.wpR_put (.agg ce.toArray) (fun v lo hi w9 => BoxF w9 (w.heap.size + 1) ce) (by rintro w8 w' ⟨E, rfl⟩ hC; exact ⟨⟨w', E.h.trans hC⟩, rfl⟩) rfl rfl rfl rfl (fun v => by first | rfl | (simp [Go.Oper.told]; go_simp)) (fun w8 hC hold => ?_) (fun lo16 hi16 => ?_)
    · obtain ⟨E, rfl⟩ := hC
      exact put_box 31 _ _ rfl (w.heap.size + 1) [.bool false, .int .i64 0, .int .i64 0, .int .i64 0, .bool false, .int .i64 0, .int .i64 0, .int .i64 0, .bool false, .int .i64 0, .int .i64 0, .int .i64 0, .bool false, .int .i64 0, .int .i64 0, .int .i64 0, .bool false, .int .i64 0, .int .i64 0, .int .i64 0, .bool false, .int .i64 0, .int .i64 0, .int .i64 0, .bool false, .int .i64 0, .int .i64 0, .int .i64 0, .bool false, .int .i64 0, .int .i64 0, .int .i64 0, .bool false, .int .i64 0, .int .i64 0, .int .i64 0, .bool false, .int .i64 0, .int .i64 0, .int .i64 0, .bool false, .int .i64 0, .int .i64 0, .int .i64 0, .bool false, .int .i64 0, .int .i64 0, .int .i64 0, .bool false, .int .i64 0, .int .i64 0, .int .i64 0, .bool false, .int .i64 0, .int .i64 0, .int .i64 0, .bool false, .int .i64 0, .int .i64 0, .int .i64 0, .bool false, .int .i64 0, .int .i64 0, .int .i64 0, .int .i64 0] ce (R3.out.same (hold _ rfl) E.h.size) rfl rfl (by rw [hl]; rfl) (by rw [hl]; kernel_rfl) hone
    (refine Go.wpR_plain (Go.clsExtS _ _ hSW) rfl rfl (fun K hK => ?_); go_simp; refine hK _ ?_; clear hK K)
    (refine Go.wpR_plain (Go.clsExtS _ _ hSW) rfl rfl (fun K hK => ?_); go_simp; refine hK _ ?_; clear hK K)
    refine Go.wpR_nil ?_
    intro E hm
    have O9 := hid (show BoxF E.w (w.heap.size + 1) ce from (hm.one 4 _ _ _ rfl).1)
    have HB9 := hid (below_chg HB3.out E.h HB3.out.size (fun b hb => by omega))
    clear hm
    go_wp2
    exact bodyPost_ret (results_box3 rfl _ _ (w.heap.size + 1) ce rfl O9.out _ Try.underlying31 rfl (by rw [hl]; kernel_rfl)) rfl ⟨by rw [Hr.out, HCE.out]; rfl, HB9.out⟩
  · have HG := hid (show putC c key val = if freeC c.nodes_ = -1 then (c, (m : Int), 3) else if a < 0 then (⟨c.nodes_.set (freeC c.nodes_).toNat ⟨true, key, val, p⟩, freeC c.nodes_⟩, (m : Int), 0) else (⟨(c.nodes_.set (freeC c.nodes_).toNat ⟨true, key, val, p⟩).set a.toNat { nd (c.nodes_.set (freeC c.nodes_).toNat ⟨true, key, val, p⟩) a with next_ := freeC c.nodes_ }, c.first_⟩, (m : Int), 0) by
      unfold putC putW; rw [h1, hv2, h2]; dsimp only; rw [if_pos (show (true && true) = true from rfl), if_pos rfl, if_pos h5])
    have HPA := hid h4
    have UN3 := hid (HUN.out W3)
    clear hk h1 h2 h3 h4 h5
    go_wp2_with (first | (refine wpList_load_box rfl 31 _ rfl w.heap.size ce (by exact B3.out.1) rfl _ Try.underlying31 rfl (by rw [hl]; kernel_rfl) ?_) | (go_at_call 39; refine UN3.out.mono ?_))
    rintro e w4 ⟨rfl, b4⟩
    have B4 := hid (B3.out.below b4)
    have R4 := hid (R3.out.below b4)
    have V4 := hid (V3.out.below b4)
    have HB4 := hid (HB3.out.trans (b4.mono HB3.out.size))
    clear b4 B1 R1 B2 R2 HB1 HB2 hW3
    rcases freeC_in HC.out with hf | ⟨f, hf, hf16⟩
    · rw [hf]
      have Hr := hid (show putC c key val = (c, (m : Int), 3) by rw [HG.out, if_pos hf])
      clear HG hf
      have hSW : ∀ b, b = w.heap.size + 1 → b < w4.heap.size := fun b hb => by rw [hb]; exact R4.out.1.1
      have x0 := Go.ExtS.cell (S := fun b => b = w.heap.size + 1) V4.out.1.1 (by have := HV0.out; omega) (show w4.cell? ⟨w2.heap.size, 0, none⟩ = some (.int .i64 m) by have z := V4.out.1.2 0 (by simp); simpa using z)
      have mk1 : ∀ (P : Program) (o : Oper) (a : Act) (w : World) (v : Value), Oper.plainAt P o a w v = Oper.plainUpon w v ((execOp a.eval o).run P w) := fun _ _ _ _ _ => rfl; have mk2 : ∀ (w w' : World) (v u : Value), Oper.plainUpon w v (.ok (.value u) w') = (w' = w ∧ u = v) := fun _ _ _ _ => rfl
      go_wp2
      refine Go.wp_region_chg (fun b => b = w.heap.size + 1) (fun v lo hi w9 => BoxF w9 (w.heap.size + 1) ce) [Rel.none, Rel.none, Rel.none, Rel.val undef, Rel.none, Rel.none] [[], [], [], [], [], []] [.plain, .plain, .plain, .change, .plain, .plain] (by kernel_rfl) (by kernel_rfl) (by kernel_rfl) (by kernel_rfl) (by kernel_rfl) hSW (fun v lo hi w9 w' h _ hC => h.chg hC (fun h => h.2 rfl)) ?_
      refine Go.wpR_plain (Go.clsExtS _ _ hSW) rfl rfl (fun K hK => ?_)
      refine ⟨.agg ce.toArray, fun w8 hC => by
        obtain ⟨E, rfl⟩ := hC
        exact plain_load_mid 31 _ rfl w.heap.size 0 rfl ce _ (B4.out.chg E.h (by omega)).1.range Try.underlying31 rfl (by rw [hl]; kernel_rfl), ?_⟩
      go_simp
      refine hK _ ?_
      clear hK K
      (refine Go.wpR_plain (Go.clsExtS _ _ hSW) rfl rfl (fun K hK => ?_); go_simp; refine hK _ ?_; clear hK K)
      (refine Go.wpR_plain (Go.clsExtS _ _ hSW) rfl rfl (fun K hK => ?_); go_simp; refine hK _ ?_; clear hK K)
      refine Go.wpR_put (.agg ce.toArray) (fun v lo hi w9 => BoxF w9 (w.heap.size + 1) ce) (by rintro w8 w' ⟨E, rfl⟩ hC; exact ⟨⟨w', E.h.trans hC⟩, rfl⟩) rfl rfl rfl rfl (fun v => by first | rfl | (simp [Go.Oper.told]; go_simp)) (fun w8 hC hold => ?_) (fun lo16 hi16 => ?_)
      · obtain ⟨E, rfl⟩ := hC
        exact put_box 31 _ _ rfl (w.heap.size + 1) [.bool false, .int .i64 0, .int .i64 0, .int .i64 0, .bool false, .int .i64 0, .int .i64 0, .int .i64 0, .bool false, .int .i64 0, .int .i64 0, .int .i64 0, .bool false, .int .i64 0, .int .i64 0, .int .i64 0, .bool false, .int .i64 0, .int .i64 0, .int .i64 0, .bool false, .int .i64 0, .int .i64 0, .int .i64 0, .bool false, .int .i64 0, .int .i64 0, .int .i64 0, .bool false, .int .i64 0, .int .i64 0, .int .i64 0, .bool false, .int .i64 0, .int .i64 0, .int .i64 0, .bool false, .int .i64 0, .int .i64 0, .int .i64 0, .bool false, .int .i64 0, .int .i64 0, .int .i64 0, .bool false, .int .i64 0, .int .i64 0, .int .i64 0, .bool false, .int .i64 0, .int .i64 0, .int .i64 0, .bool false, .int .i64 0, .int .i64 0, .int .i64 0, .bool false, .int .i64 0, .int .i64 0, .int .i64 0, .bool false, .int .i64 0, .int .i64 0, .int .i64 0, .int .i64 0] ce (R4.out.same (hold _ rfl) E.h.size) rfl rfl (by rw [hl]; rfl) (by rw [hl]; kernel_rfl) hone
      (refine Go.wpR_plain (Go.clsExtS _ _ hSW) rfl rfl (fun K hK => ?_); go_simp; refine hK _ ?_; clear hK K)
      (refine Go.wpR_plain (Go.clsExtS _ _ hSW) rfl rfl (fun K hK => ?_); go_simp; refine hK _ ?_; clear hK K)
      refine Go.wpR_nil ?_
      intro E hm
      have O9 := hid (show BoxF E.w (w.heap.size + 1) ce from (hm.one 3 _ _ _ rfl).1)
      have HB9 := hid (below_chg HB4.out E.h HB4.out.size (fun b hb => by omega))
      clear hm
      go_wp2
      exact bodyPost_ret (results_box3 rfl _ _ (w.heap.size + 1) ce rfl O9.out _ Try.underlying31 rfl (by rw [hl]; kernel_rfl)) rfl ⟨by rw [Hr.out, HCE.out]; rfl, HB9.out⟩
    · rw [hf]
      have hG2 := HG.out
      rw [hf, if_neg (by omega)] at hG2
      simp only [Int.toNat_natCast] at hG2
      clear hf HG
      have hfL : f < c.nodes_.length := by rw [HC.out]; exact hf16
      have hf0 : (0 : Int) ≤ (f : Int) := by omega
      have hfi : (f : Int) < 16 := by omega
      have hfn : ¬ (f : Int) = -1 := by omega
      have v42 := V4.out.1.2 2 (by simp)
      simp only [List.getElem?_cons_zero, List.getElem?_cons_succ] at v42
      have HG2 := hid hG2
      clear hG2
      go_wp2_with (first | (refine wpList_store_el Node.enc 4 (fun _ => rfl) rfl 28 _ _ rfl w.heap.size (f * 4) [] [.int .i64 c.first_] c.nodes_ f ⟨true, key, val, p⟩ (by rw [← HE.out]; exact B4.out) hfL (by simp) rfl rfl (by kernel_rfl) rfl ?_))
      intro w6 o6 C6
      have R5 := hid (R4.out.chg C6 (by omega))
      have V5 := hid (V4.out.chg C6 (fun h => HV0.out.2 h))
      have HB5 := hid (below_chg HB4.out C6 HB4.out.size (fun b hb => by omega))
      have B5 := hid (show BoxF w6 w.heap.size ([] ++ (c.nodes_.set f ⟨true, key, val, p⟩).flatMap Node.enc ++ [.int .i64 c.first_]) from o6)
      have hnl : (([] ++ (c.nodes_.set f ⟨true, key, val, p⟩).flatMap Node.enc ++ [.int .i64 c.first_] : List Value)).length = 65 := by simp only [List.length_append, List.length_nil, nodes_len, List.length_set, HC.out, List.length_cons]
      obtain ⟨c5, h5⟩ : ∃ Y : List Value, [] ++ (c.nodes_.set f ⟨true, key, val, p⟩).flatMap Node.enc ++ [.int .i64 c.first_] = Y := ⟨_, rfl⟩
      rw [h5] at hnl B5
      have H5 := hid h5
      clear h5 o6 C6 v42 B4 R4 V4 HB4
      rcases HPA.out with ha | ha
      · subst ha
        have HG4 := hid (HG2.out.trans (if_pos (by omega)))
        clear HG2
        have v51 := V5.out.1.2 1 (by simp)
        simp only [List.getElem?_cons_zero, List.getElem?_cons_succ] at v51
        go_wp2_with (first | (go_at_call 40; refine (impl_linkBehind0 w.heap.size _).mono ?_; rintro e w' ⟨rfl, rfl⟩) | (refine wpList_store_cell rfl 3 _ _ rfl w.heap.size (64) c5 (.int .i64 f) B5.out rfl rfl (by rw [hnl]; omega) (by kernel_rfl) rfl rfl ?_))
        intro w7 o7 C7
        have A6 := hid (show BoxF w7 w.heap.size (ChainD.enc ⟨c.nodes_.set f ⟨true, key, val, p⟩, f⟩) by
          have z := o7
          rw [← H5.out, show ([] ++ (c.nodes_.set f ⟨true, key, val, p⟩).flatMap Node.enc ++ [.int .i64 c.first_] : List Value).set (64) (.int .i64 f) = ChainD.enc ⟨c.nodes_.set f ⟨true, key, val, p⟩, f⟩ by
            have h64 : ((c.nodes_.set f ⟨true, key, val, p⟩).flatMap Node.enc).length = 64 := by rw [nodes_len, List.length_set, HC.out]
            rw [List.nil_append, List.set_append_right _ _ (by omega), h64]; rfl] at z
          exact z)
        have V6 := hid (V5.out.chg C7 (fun h => HV0.out.2 h))
        have R6 := hid (R5.out.chg C7 (by omega))
        have HB6 := hid (below_chg HB5.out C7 HB5.out.size (fun b hb => by omega))
        have hl9 := chain_len (c := ⟨c.nodes_.set f ⟨true, key, val, p⟩, f⟩) (by show (List.set _ _ _).length = 16; simp [HC.out])
        have hone9 := chain_one ⟨c.nodes_.set f ⟨true, key, val, p⟩, f⟩
        have HR := hid (show putC c key val = (⟨c.nodes_.set f ⟨true, key, val, p⟩, f⟩, (m : Int), 0) from HG4.out)
        clear o7 C7 B5 R5 V5 HB5 v51
        obtain ⟨cf, hcf⟩ : ∃ Y, ChainD.enc ⟨c.nodes_.set f ⟨true, key, val, p⟩, f⟩ = Y := ⟨_, rfl⟩
        rw [hcf] at A6 hl9 hone9
        have HCF := hid hcf
        clear hcf
        have hSW : ∀ b, b = w.heap.size + 1 → b < w7.heap.size := fun b hb => by rw [hb]; exact R6.out.1.1
        have x0 := Go.ExtS.cell (S := fun b => b = w.heap.size + 1) V6.out.1.1 (by have := HV0.out; omega) (show w7.cell? ⟨w2.heap.size, 0, none⟩ = some (.int .i64 m) by have z := V6.out.1.2 0 (by simp); simpa using z)
        have mk1 : ∀ (P : Program) (o : Oper) (a : Act) (w : World) (v : Value), Oper.plainAt P o a w v = Oper.plainUpon w v ((execOp a.eval o).run P w) := fun _ _ _ _ _ => rfl; have mk2 : ∀ (w w' : World) (v u : Value), Oper.plainUpon w v (.ok (.value u) w') = (w' = w ∧ u = v) := fun _ _ _ _ => rfl
        go_wp2
        refine Go.wp_region_chg (fun b => b = w.heap.size + 1) (fun v lo hi w9 => BoxF w9 (w.heap.size + 1) cf) [Rel.none, Rel.none, Rel.none, Rel.none, Rel.val undef, Rel.none, Rel.none] [[], [], [], [], [], [], []] [.plain, .plain, .plain, .plain, .change, .plain, .plain] (by kernel_rfl) (by kernel_rfl) (by kernel_rfl) (by kernel_rfl) (by kernel_rfl) hSW (fun v lo hi w9 w' h _ hC => h.chg hC (fun h => h.2 rfl)) ?_
        refine Go.wpR_plain (Go.clsExtS _ _ hSW) rfl rfl (fun K hK => ?_)
        refine ⟨.agg cf.toArray, fun w8 hC => by
          obtain ⟨E, rfl⟩ := hC
          exact plain_load_mid 31 _ rfl w.heap.size 0 rfl cf _ (A6.out.chg E.h (by omega)).1.range Try.underlying31 rfl (by rw [hl9]; kernel_rfl), ?_⟩
        go_simp
        refine hK _ ?_
        clear hK K
        (refine Go.wpR_plain (Go.clsExtS _ _ hSW) rfl rfl (fun K hK => ?_); go_simp; refine hK _ ?_; clear hK K)
        (refine Go.wpR_plain (Go.clsExtS _ _ hSW) rfl rfl (fun K hK => ?_); go_simp; refine hK _ ?_; clear hK K)
        (refine Go.wpR_plain (Go.clsExtS _ _ hSW) rfl rfl (fun K hK => ?_); go_simp; refine hK _ ?_; clear hK K)
        refine Go.wpR_put (.agg cf.toArray) (fun v lo hi w9 => BoxF w9 (w.heap.size + 1) cf) (by rintro w8 w' ⟨E, rfl⟩ hC; exact ⟨⟨w', E.h.trans hC⟩, rfl⟩) rfl rfl rfl rfl (fun v => by first | rfl | (simp [Go.Oper.told]; go_simp)) (fun w8 hC hold => ?_) (fun lo16 hi16 => ?_)
        · obtain ⟨E, rfl⟩ := hC
          exact put_box 31 _ _ rfl (w.heap.size + 1) [.bool false, .int .i64 0, .int .i64 0, .int .i64 0, .bool false, .int .i64 0, .int .i64 0, .int .i64 0, .bool false, .int .i64 0, .int .i64 0, .int .i64 0, .bool false, .int .i64 0, .int .i64 0, .int .i64 0, .bool false, .int .i64 0, .int .i64 0, .int .i64 0, .bool false, .int .i64 0, .int .i64 0, .int .i64 0, .bool false, .int .i64 0, .int .i64 0, .int .i64 0, .bool false, .int .i64 0, .int .i64 0, .int .i64 0, .bool false, .int .i64 0, .int .i64 0, .int .i64 0, .bool false, .int .i64 0, .int .i64 0, .int .i64 0, .bool false, .int .i64 0, .int .i64 0, .int .i64 0, .bool false, .int .i64 0, .int .i64 0, .int .i64 0, .bool false, .int .i64 0, .int .i64 0, .int .i64 0, .bool false, .int .i64 0, .int .i64 0, .int .i64 0, .bool false, .int .i64 0, .int .i64 0, .int .i64 0, .bool false, .int .i64 0, .int .i64 0, .int .i64 0, .int .i64 0] cf (R6.out.same (hold _ rfl) E.h.size) rfl rfl (by rw [hl9]; rfl) (by rw [hl9]; kernel_rfl) hone9
        (refine Go.wpR_plain (Go.clsExtS _ _ hSW) rfl rfl (fun K hK => ?_); go_simp; refine hK _ ?_; clear hK K)
        (refine Go.wpR_plain (Go.clsExtS _ _ hSW) rfl rfl (fun K hK => ?_); go_simp; refine hK _ ?_; clear hK K)
        refine Go.wpR_nil ?_
        intro E hm
        have O9 := hid (show BoxF E.w (w.heap.size + 1) cf from (hm.one 4 _ _ _ rfl).1)
        have HB9 := hid (below_chg HB6.out E.h HB6.out.size (fun b hb => by omega))
        clear hm
        go_wp2
        exact bodyPost_ret (results_box3 rfl _ _ (w.heap.size + 1) cf rfl O9.out _ Try.underlying31 rfl (by rw [hl9]; kernel_rfl)) rfl ⟨by rw [HR.out, HCF.out]; rfl, HB9.out⟩
      · obtain ⟨j, rfl, hj16⟩ : ∃ j : Nat, a = (j : Int) ∧ j < 16 := ⟨a.toNat, by omega, by omega⟩
        clear ha
        have hjL : j < (c.nodes_.set f ⟨true, key, val, p⟩).length := by rw [List.length_set, HC.out]; exact hj16
        have HJ := hid (nd_eq (c.nodes_.set f ⟨true, key, val, p⟩) (j : Int) (by rw [Int.toNat_natCast]; exact hjL))
        simp only [Int.toNat_natCast] at HJ
        have HG4 := HG2.out.trans (if_neg (by omega))
        simp only [Int.toNat_natCast] at HG4
        rw [HJ.out] at HG4
        have HG4 := hid HG4
        clear HG2
        have v51 := V5.out.1.2 1 (by simp)
        simp only [List.getElem?_cons_zero, List.getElem?_cons_succ] at v51
        go_wp2_with (first | (go_at_call 40; refine (impl_linkBehind1 w.heap.size j hj16 _).mono ?_; rintro e w' ⟨rfl, rfl⟩) | (refine wpList_store_cell rfl 3 _ _ rfl w.heap.size (j * 4 + 3) c5 (.int .i64 f) B5.out rfl rfl (by rw [hnl]; omega) (by kernel_rfl) rfl rfl ?_))
        intro w7 o7 C7
        have A6 := hid (show BoxF w7 w.heap.size (ChainD.enc ⟨(c.nodes_.set f ⟨true, key, val, p⟩).set j { (c.nodes_.set f ⟨true, key, val, p⟩)[j] with next_ := (f : Int) }, c.first_⟩) by
          have z := o7
          rw [← H5.out, show ([] ++ (c.nodes_.set f ⟨true, key, val, p⟩).flatMap Node.enc ++ [.int .i64 c.first_] : List Value).set (j * 4 + 3) (.int .i64 f) = ChainD.enc ⟨(c.nodes_.set f ⟨true, key, val, p⟩).set j { (c.nodes_.set f ⟨true, key, val, p⟩)[j] with next_ := (f : Int) }, c.first_⟩ by
            have h64 : ((c.nodes_.set f ⟨true, key, val, p⟩).flatMap Node.enc).length = 64 := by rw [nodes_len, List.length_set, HC.out]
            rw [List.nil_append, List.set_append_left _ _ (by omega), set_next (c.nodes_.set f ⟨true, key, val, p⟩) j hjL (f : Int)]; rfl] at z
          exact z)
        have V6 := hid (V5.out.chg C7 (fun h => HV0.out.2 h))
        have R6 := hid (R5.out.chg C7 (by omega))
        have HB6 := hid (below_chg HB5.out C7 HB5.out.size (fun b hb => by omega))
        have hl9 := chain_len (c := ⟨(c.nodes_.set f ⟨true, key, val, p⟩).set j { (c.nodes_.set f ⟨true, key, val, p⟩)[j] with next_ := (f : Int) }, c.first_⟩) (by show (List.set _ _ _).length = 16; simp [HC.out])
        have hone9 := chain_one ⟨(c.nodes_.set f ⟨true, key, val, p⟩).set j { (c.nodes_.set f ⟨true, key, val, p⟩)[j] with next_ := (f : Int) }, c.first_⟩
        have HR := hid (show putC c key val = (⟨(c.nodes_.set f ⟨true, key, val, p⟩).set j { (c.nodes_.set f ⟨true, key, val, p⟩)[j] with next_ := (f : Int) }, c.first_⟩, (m : Int), 0) from HG4.out)
        clear o7 C7 B5 R5 V5 HB5 v51
        obtain ⟨cf, hcf⟩ : ∃ Y, ChainD.enc ⟨(c.nodes_.set f ⟨true, key, val, p⟩).set j { (c.nodes_.set f ⟨true, key, val, p⟩)[j] with next_ := (f : Int) }, c.first_⟩ = Y := ⟨_, rfl⟩
        rw [hcf] at A6 hl9 hone9
        have HCF := hid hcf
        clear hcf
        have hSW : ∀ b, b = w.heap.size + 1 → b < w7.heap.size := fun b hb => by rw [hb]; exact R6.out.1.1
        have x0 := Go.ExtS.cell (S := fun b => b = w.heap.size + 1) V6.out.1.1 (by have := HV0.out; omega) (show w7.cell? ⟨w2.heap.size, 0, none⟩ = some (.int .i64 m) by have z := V6.out.1.2 0 (by simp); simpa using z)
        have mk1 : ∀ (P : Program) (o : Oper) (a : Act) (w : World) (v : Value), Oper.plainAt P o a w v = Oper.plainUpon w v ((execOp a.eval o).run P w) := fun _ _ _ _ _ => rfl; have mk2 : ∀ (w w' : World) (v u : Value), Oper.plainUpon w v (.ok (.value u) w') = (w' = w ∧ u = v) := fun _ _ _ _ => rfl
        go_wp2
        refine Go.wp_region_chg (fun b => b = w.heap.size + 1) (fun v lo hi w9 => BoxF w9 (w.heap.size + 1) cf) [Rel.none, Rel.none, Rel.none, Rel.none, Rel.val undef, Rel.none, Rel.none] [[], [], [], [], [], [], []] [.plain, .plain, .plain, .plain, .change, .plain, .plain] (by kernel_rfl) (by kernel_rfl) (by kernel_rfl) (by kernel_rfl) (by kernel_rfl) hSW (fun v lo hi w9 w' h _ hC => h.chg hC (fun h => h.2 rfl)) ?_
        refine Go.wpR_plain (Go.clsExtS _ _ hSW) rfl rfl (fun K hK => ?_)
        refine ⟨.agg cf.toArray, fun w8 hC => by
          obtain ⟨E, rfl⟩ := hC
          exact plain_load_mid 31 _ rfl w.heap.size 0 rfl cf _ (A6.out.chg E.h (by omega)).1.range Try.underlying31 rfl (by rw [hl9]; kernel_rfl), ?_⟩
        go_simp
        refine hK _ ?_
        clear hK K
        (refine Go.wpR_plain (Go.clsExtS _ _ hSW) rfl rfl (fun K hK => ?_); go_simp; refine hK _ ?_; clear hK K)
        (refine Go.wpR_plain (Go.clsExtS _ _ hSW) rfl rfl (fun K hK => ?_); go_simp; refine hK _ ?_; clear hK K)
        (refine Go.wpR_plain (Go.clsExtS _ _ hSW) rfl rfl (fun K hK => ?_); go_simp; refine hK _ ?_; clear hK K)
        refine Go.wpR_put (.agg cf.toArray) (fun v lo hi w9 => BoxF w9 (w.heap.size + 1) cf) (by rintro w8 w' ⟨E, rfl⟩ hC; exact ⟨⟨w', E.h.trans hC⟩, rfl⟩) rfl rfl rfl rfl (fun v => by first | rfl | (simp [Go.Oper.told]; go_simp)) (fun w8 hC hold => ?_) (fun lo16 hi16 => ?_)
        · obtain ⟨E, rfl⟩ := hC
          exact put_box 31 _ _ rfl (w.heap.size + 1) [.bool false, .int .i64 0, .int .i64 0, .int .i64 0, .bool false, .int .i64 0, .int .i64 0, .int .i64 0, .bool false, .int .i64 0, .int .i64 0, .int .i64 0, .bool false, .int .i64 0, .int .i64 0, .int .i64 0, .bool false, .int .i64 0, .int .i64 0, .int .i64 0, .bool false, .int .i64 0, .int .i64 0, .int .i64 0, .bool false, .int .i64 0, .int .i64 0, .int .i64 0, .bool false, .int .i64 0, .int .i64 0, .int .i64 0, .bool false, .int .i64 0, .int .i64 0, .int .i64 0, .bool false, .int .i64 0, .int .i64 0, .int .i64 0, .bool false, .int .i64 0, .int .i64 0, .int .i64 0, .bool false, .int .i64 0, .int .i64 0, .int .i64 0, .bool false, .int .i64 0, .int .i64 0, .int .i64 0, .bool false, .int .i64 0, .int .i64 0, .int .i64 0, .bool false, .int .i64 0, .int .i64 0, .int .i64 0, .bool false, .int .i64 0, .int .i64 0, .int .i64 0, .int .i64 0] cf (R6.out.same (hold _ rfl) E.h.size) rfl rfl (by rw [hl9]; rfl) (by rw [hl9]; kernel_rfl) hone9
        (refine Go.wpR_plain (Go.clsExtS _ _ hSW) rfl rfl (fun K hK => ?_); go_simp; refine hK _ ?_; clear hK K)
        (refine Go.wpR_plain (Go.clsExtS _ _ hSW) rfl rfl (fun K hK => ?_); go_simp; refine hK _ ?_; clear hK K)
        refine Go.wpR_nil ?_
        intro E hm
        have O9 := hid (show BoxF E.w (w.heap.size + 1) cf from (hm.one 4 _ _ _ rfl).1)
        have HB9 := hid (below_chg HB6.out E.h HB6.out.size (fun b hb => by omega))
        clear hm
        go_wp2
        exact bodyPost_ret (results_box3 rfl _ _ (w.heap.size + 1) cf rfl O9.out _ Try.underlying31 rfl (by rw [hl9]; kernel_rfl)) rfl ⟨by rw [HR.out, HCF.out]; rfl, HB9.out⟩
  · obtain ⟨k, rfl, hk16⟩ : ∃ k : Nat, p = (k : Int) ∧ k < 16 := ⟨p.toNat, by omega, by omega⟩
    have hkL : k < c.nodes_.length := by rw [HC.out]; exact hk16
    have HK := hid (nd_eq c.nodes_ (k : Int) (by rw [Int.toNat_natCast]; exact hkL))
    simp only [Int.toNat_natCast] at HK
    have hk0 : (0 : Int) ≤ (k : Int) := by omega
    have hki : (k : Int) < 16 := by omega
    have HSV := hid (set_value c.nodes_ k hkL val)
    have HR0 := hid (show putC c key val = (⟨c.nodes_.set k { c.nodes_[k] with value_ := val }, c.first_⟩, (m : Int), 0) by
      unfold putC putW; rw [h1, hv2, h2]; dsimp only
      rw [if_pos (show (true && true) = true from rfl), if_pos rfl, if_neg (by rintro (h | h); omega; exact h h5), HK.out]; rfl)
    have v32 := V3.out.1.2 2 (by simp)
    simp only [List.getElem?_cons_zero, List.getElem?_cons_succ] at v32
    clear hk h1 h2 h3 h4 h5 HK
    go_wp2_with (first | (refine wpList_store_cell rfl 3 _ _ rfl w.heap.size (k * 4 + 2) ce (.int .i64 val) B3.out rfl rfl (by rw [hl]; omega) (by kernel_rfl) rfl rfl ?_))
    intro w7 o7 C7
    have A6 := hid (show BoxF w7 w.heap.size (ChainD.enc ⟨c.nodes_.set k { c.nodes_[k] with value_ := val }, c.first_⟩) by
      have z := o7
      rw [show ce.set (k * 4 + 2) (.int .i64 val) = ChainD.enc ⟨c.nodes_.set k { c.nodes_[k] with value_ := val }, c.first_⟩ by
        rw [HE.out, List.nil_append, List.set_append_left _ _ (by rw [hln]; omega), HSV.out]; rfl] at z
      exact z)
    have V6 := hid (V3.out.chg C7 (fun h => HV0.out.2 h))
    have R6 := hid (R3.out.chg C7 (by omega))
    have HB6 := hid (below_chg HB3.out C7 HB3.out.size (fun b hb => by omega))
    have hl9 := chain_len (c := ⟨c.nodes_.set k { c.nodes_[k] with value_ := val }, c.first_⟩) (by show (List.set _ _ _).length = 16; simp [HC.out])
    have hone9 := chain_one ⟨c.nodes_.set k { c.nodes_[k] with value_ := val }, c.first_⟩
    clear o7 C7 v32
    obtain ⟨cf, hcf⟩ : ∃ Y, ChainD.enc ⟨c.nodes_.set k { c.nodes_[k] with value_ := val }, c.first_⟩ = Y := ⟨_, rfl⟩
    rw [hcf] at A6 hl9 hone9
    have HCF := hid hcf
    clear hcf
    have hSW : ∀ b, b = w.heap.size + 1 → b < w7.heap.size := fun b hb => by rw [hb]; exact R6.out.1.1
    have x0 := Go.ExtS.cell (S := fun b => b = w.heap.size + 1) V6.out.1.1 (by have := HV0.out; omega) (show w7.cell? ⟨w2.heap.size, 0, none⟩ = some (.int .i64 m) by have z := V6.out.1.2 0 (by simp); simpa using z)
    have mk1 : ∀ (P : Program) (o : Oper) (a : Act) (w : World) (v : Value), Oper.plainAt P o a w v = Oper.plainUpon w v ((execOp a.eval o).run P w) := fun _ _ _ _ _ => rfl; have mk2 : ∀ (w w' : World) (v u : Value), Oper.plainUpon w v (.ok (.value u) w') = (w' = w ∧ u = v) := fun _ _ _ _ => rfl
    go_wp2
    refine Go.wp_region_chg (fun b => b = w.heap.size + 1) (fun v lo hi w9 => BoxF w9 (w.heap.size + 1) cf) [Rel.none, Rel.none, Rel.none, Rel.none, Rel.val undef, Rel.none, Rel.none] [[], [], [], [], [], [], []] [.plain, .plain, .plain, .plain, .change, .plain, .plain] (by kernel_rfl) (by kernel_rfl) (by kernel_rfl) (by kernel_rfl) (by kernel_rfl) hSW (fun v lo hi w9 w' h _ hC => h.chg hC (fun h => h.2 rfl)) ?_
    refine Go.wpR_plain (Go.clsExtS _ _ hSW) rfl rfl (fun K hK => ?_)
    refine ⟨.agg cf.toArray, fun w8 hC => by
      obtain ⟨E, rfl⟩ := hC
      exact plain_load_mid 31 _ rfl w.heap.size 0 rfl cf _ (A6.out.chg E.h (by omega)).1.range Try.underlying31 rfl (by rw [hl9]; kernel_rfl), ?_⟩
    go_simp
    refine hK _ ?_
    clear hK K
    (refine Go.wpR_plain (Go.clsExtS _ _ hSW) rfl rfl (fun K hK => ?_); go_simp; refine hK _ ?_; clear hK K)
    (refine Go.wpR_plain (Go.clsExtS _ _ hSW) rfl rfl (fun K hK => ?_); go_simp; refine hK _ ?_; clear hK K)
    (refine Go.wpR_plain (Go.clsExtS _ _ hSW) rfl rfl (fun K hK => ?_); go_simp; refine hK _ ?_; clear hK K)
    refine Go.wpR_put (.agg cf.toArray) (fun v lo hi w9 => BoxF w9 (w.heap.size + 1) cf) (by rintro w8 w' ⟨E, rfl⟩ hC; exact ⟨⟨w', E.h.trans hC⟩, rfl⟩) rfl rfl rfl rfl (fun v => by first | rfl | (simp [Go.Oper.told]; go_simp)) (fun w8 hC hold => ?_) (fun lo16 hi16 => ?_)
    · obtain ⟨E, rfl⟩ := hC
      exact put_box 31 _ _ rfl (w.heap.size + 1) [.bool false, .int .i64 0, .int .i64 0, .int .i64 0, .bool false, .int .i64 0, .int .i64 0, .int .i64 0, .bool false, .int .i64 0, .int .i64 0, .int .i64 0, .bool false, .int .i64 0, .int .i64 0, .int .i64 0, .bool false, .int .i64 0, .int .i64 0, .int .i64 0, .bool false, .int .i64 0, .int .i64 0, .int .i64 0, .bool false, .int .i64 0, .int .i64 0, .int .i64 0, .bool false, .int .i64 0, .int .i64 0, .int .i64 0, .bool false, .int .i64 0, .int .i64 0, .int .i64 0, .bool false, .int .i64 0, .int .i64 0, .int .i64 0, .bool false, .int .i64 0, .int .i64 0, .int .i64 0, .bool false, .int .i64 0, .int .i64 0, .int .i64 0, .bool false, .int .i64 0, .int .i64 0, .int .i64 0, .bool false, .int .i64 0, .int .i64 0, .int .i64 0, .bool false, .int .i64 0, .int .i64 0, .int .i64 0, .bool false, .int .i64 0, .int .i64 0, .int .i64 0, .int .i64 0] cf (R6.out.same (hold _ rfl) E.h.size) rfl rfl (by rw [hl9]; rfl) (by rw [hl9]; kernel_rfl) hone9
    (refine Go.wpR_plain (Go.clsExtS _ _ hSW) rfl rfl (fun K hK => ?_); go_simp; refine hK _ ?_; clear hK K)
    (refine Go.wpR_plain (Go.clsExtS _ _ hSW) rfl rfl (fun K hK => ?_); go_simp; refine hK _ ?_; clear hK K)
    refine Go.wpR_nil ?_
    intro E hm
    have O9 := hid (show BoxF E.w (w.heap.size + 1) cf from (hm.one 4 _ _ _ rfl).1)
    have HB9 := hid (below_chg HB6.out E.h HB6.out.size (fun b hb => by omega))
    clear hm
    go_wp2
    exact bodyPost_ret (results_box3 rfl _ _ (w.heap.size + 1) cf rfl O9.out _ Try.underlying31 rfl (by rw [hl9]; kernel_rfl)) rfl ⟨by rw [HR0.out, HCF.out]; rfl, HB9.out⟩
end Go.Proofs.Ytadbgfaboafkeaa
