/- Chapter 8's model: one step of a stack, on a store and a stack of the call's own. -/
import Derived.Test.YtbbdchlabdilcabGreatS7g
import Derived.Test.YtbbdchlabdilcabGreatM11
import Derived.Test.YtbbdchlabdilcabGreatWr3
namespace Go.Proofs.YtbbdchlabdilcabGreat
set_option maxRecDepth 100000
open Go.RowKit Go.Proofs Go.Own
open Go Go.BigFrame
set_option linter.unusedVariables false
set_option linter.unusedSimpArgs false
/-- What a step of a stack answers. -/
def HelpOwn (w w' : World) (v0 v1 u : Value) (S0 S1 S2 : Nat → Prop) (y : HS) : Prop := ∃ S' : Nat → Prop, ownL S0 w' v0 y.hs ∧ ownL S1 w' v1 y.ds ∧ ownL S' w' u y.st ∧ (∀ k, S' k → S2 k ∨ (w.heap.size ≤ k ∧ k < w'.heap.size)) ∧ ChgS (fun b => S0 b ∨ S1 b ∨ S2 b) w w'
set_option maxHeartbeats 8000000 in
theorem spec_l8Help0 (x : HS) (S0 S1 S2 : Nat → Prop) (v0 v1 v2 : Value) (w : World) (hS0 : ∀ b, S0 b → b < w.heap.size) (hS1 : ∀ b, S1 b → b < w.heap.size) (hS2 : ∀ b, S2 b → b < w.heap.size) (d01 : ∀ b, S0 b → ¬ S1 b) (d02 : ∀ b, S0 b → ¬ S2 b) (d12 : ∀ b, S1 b → ¬ S2 b)
    (o0 : ownL S0 w v0 x.hs) (o1 : ownL S1 w v1 x.ds) (o2 : ownL S2 w v2 x.st) (hok : x.ok) :
    Calls Tryz.prog 74 #[.agg #[v0, v1], v2] w fun e w' => ∃ u, e = .returned u ∧ HelpOwn w w' v0 v1 u S0 S1 S2 (helpR x) := by
  obtain ⟨j0, hj, hy0, hy1, hy2⟩ := info_parts infoFrame
  obtain ⟨hs, ds, st⟩ := x
  dsimp only at o0 o1 o2
  obtain ⟨a0, cap0, rfl, -, -⟩ := ownL_len o0
  obtain ⟨a1, cap1, rfl, -, -⟩ := ownL_len o1
  have hst := stackOk_iff.1 hok
  dsimp only at hst
  obtain ⟨hso, hl130, hall⟩ := hst
  obtain ⟨W1, hW1⟩ : ∃ X, w.alloc (.cells #[Value.slice a0 hs.length cap0, Value.slice a1 ds.length cap1] 37) = X := ⟨_, rfl⟩
  have hB1 : Below w.heap.size w W1 := by rw [← hW1]; exact (Below.refl _ _).alloc (Nat.le_refl _) _
  have hN1 : W1.heap.size = w.heap.size + 1 := by rw [← hW1]; simp
  have BP : Hid (BoxF W1 w.heap.size [Value.slice a0 hs.length cap0, Value.slice a1 ds.length cap1]) := by rw [← hW1]; exact hid (BoxF.alloc w #[Value.slice a0 hs.length cap0, Value.slice a1 ds.length cap1] 37)
  have O0 := hid (o0.keep (w' := W1) fun b hb => hB1.block b (hS0 b hb))
  have O1 := hid (o1.keep (w' := W1) fun b hb => hB1.block b (hS1 b hb))
  have O2 := hid (o2.keep (w' := W1) fun b hb => hB1.block b (hS2 b hb))
  by_cases hz : st.length = 0
  · obtain ⟨a2, cap2, rfl, -, -⟩ := ownL_len o2
    have HR := hid (helpR_nil (x := ⟨hs, ds, st⟩) hz)
    have hi0 : (st.length : Int) - 1 = -1 := by omega
    go_enter Tryz.func74, Tryz.ntmps74
    go_wp2
    go_ret
    exact ⟨_, rfl, S2, by rw [HR.out]; exact O0.out, by rw [HR.out]; exact O1.out, by rw [HR.out]; exact O2.out, fun k h => .inl h, ChgS.of_below hB1 _⟩
  obtain ⟨n, hn⟩ : ∃ n, st.length = n + 1 := ⟨st.length - 1, by omega⟩
  obtain ⟨g, cap, rfl, hgS, hgl, c0, c1, c2, cf⟩ := own_frame o2 n (by omega)
  obtain ⟨T, hT⟩ : ∃ T, Hid (topF st = T) := ⟨_, hid rfl⟩
  have hTn : Hid (st[n]'(by omega) = T) := hid (by rw [← hT.out, topF_eq (by omega)]; simp [hn])
  rw [hTn.out] at c0 c1 c2
  have hf : frameOk hs ds T = true := by rw [← hT.out]; exact (hall _ (top_mem hz)).2
  have HR := hid (show helpR ⟨hs, ds, st⟩ = ⟨stepH hs ds T, stepD ds T, helpSt hs ds st⟩ by rw [helpR_cons hz]; dsimp only; rw [hT.out])
  have hSt : Hid (helpSt hs ds st = if 0 ≤ stepN hs ds T then (if st.length = 130 then st else st.take n ++ [stepF hs ds T] ++ [⟨stepN hs ds T, 0, 0⟩]) else if (stepF hs ds T).phase_ = 5 then st.take n else st.take n ++ [stepF hs ds T]) := hid (by unfold helpSt; rw [hT.out, hn]; rfl)
  obtain ⟨FR, hFR⟩ : ∃ FR, Hid (stepF hs ds T = FR) := ⟨_, hid rfl⟩
  obtain ⟨NV, hNV⟩ : ∃ NV, Hid (stepN hs ds T = NV) := ⟨_, hid rfl⟩
  rw [hFR.out, hNV.out] at hSt
  have hSl := hid (show st.set n FR = st.take n ++ [FR] by have h9 := set_last st FR hz; rw [hn] at h9; exact h9)
  clear hT hTn hz hall hok
  rw [hn] at O2 ⊢
  have hSW : ∀ b, (S0 b ∨ S1 b) → b < W1.heap.size := fun b hb => by rw [hN1]; rcases hb with h | h; have := hS0 b h; omega; have := hS1 b h; omega
  have hgn : ¬ (S0 g ∨ S1 g) := fun h => h.elim (fun h => d02 g h hgS) (fun h => d12 g h hgS)
  have hwn : ¬ (S0 w.heap.size ∨ S1 w.heap.size) := fun h => h.elim (fun h => by have := hS0 _ h; omega) (fun h => by have := hS1 _ h; omega)
  have hg1 : g < W1.heap.size := by omega
  have x0 := Go.ExtS.cell (S := fun b => S0 b ∨ S1 b) BP.out.1.1 hwn (show W1.cell? ⟨w.heap.size, 0, none⟩ = some (Value.slice a0 hs.length cap0) from BP.out.1.2 0 (by simp))
  have x1 := Go.ExtS.cell (S := fun b => S0 b ∨ S1 b) BP.out.1.1 hwn (show W1.cell? ⟨w.heap.size, 1, none⟩ = some (Value.slice a1 ds.length cap1) from BP.out.1.2 1 (by simp))
  have y0 := Go.ExtS.cell (S := fun b => S0 b ∨ S1 b) hg1 hgn ((hB1.cell (p := ⟨g, n * 3, none⟩) hgl).trans c0)
  have y1 := Go.ExtS.cell (S := fun b => S0 b ∨ S1 b) hg1 hgn ((hB1.cell (p := ⟨g, n * 3 + 1, none⟩) hgl).trans c1)
  have y2 := Go.ExtS.cell (S := fun b => S0 b ∨ S1 b) hg1 hgn ((hB1.cell (p := ⟨g, n * 3 + 2, none⟩) hgl).trans c2)
  have hni : ((n + 1 : Nat) : Int) - 1 = (n : Int) := by omega
  have hn0 : (0 : Int) ≤ (n : Int) := by omega
  have hnb : n ≤ 9223372036854775806 := by omega
  have hn1 : (n : Int) < (n : Int) + 1 := by omega
  have HC := hid cf
  have HSs := hid (And.intro hS0 (And.intro hS1 hS2))
  have HD := hid (And.intro d01 (And.intro d02 d12))
  have HW1 := hid hW1
  clear c0 c1 c2 cf o0 o1 o2 hW1
  have mk1 : ∀ (P : Program) (o : Oper) (a : Act) (w : World) (v : Value), Oper.plainAt P o a w v = Oper.plainUpon w v ((execOp a.eval o).run P w) := fun _ _ _ _ _ => rfl; have mk2 : ∀ (w w' : World) (v u : Value), Oper.plainUpon w v (.ok (.value u) w') = (w' = w ∧ u = v) := fun _ _ _ _ => rfl
  go_enter Tryz.func74, Tryz.ntmps74
  go_upto_region 4 with fail
  rw [HW1.out]
  refine Go.wp_region_chg (fun b => S0 b ∨ S1 b) (fun v lo hi w9 => w.heap.size < w9.heap.size ∧ ownL S0 w9 (Value.slice a0 hs.length cap0) (stepH hs ds T) ∧ ownL S1 w9 (Value.slice a1 ds.length cap1) (stepD ds T)) [Rel.none, Rel.none, Rel.none, Rel.none, Rel.none, Rel.val (.tuple #[.agg #[.int .i64 FR.desc_, .int .i64 FR.phase_, .int .i64 FR.at_], .int .i64 NV]), Rel.none, Rel.none, Rel.none, Rel.box W1.heap.size 3, Rel.wrote] [[], [], [], [], [], [], [], [], [], [], [9]] [.plain, .plain, .plain, .plain, .plain, .change, .plain, .plain, .plain, .make, .write 9] (by kernel_rfl) (by kernel_rfl) (by kernel_rfl) (by kernel_rfl) (by kernel_rfl) hSW ?hRC ?_
  case hRC =>
    rintro v lo hi w9 w' ⟨h1, h2, h3⟩ h4 hC
    exact ⟨Nat.lt_of_lt_of_le h1 hC.size, h2.keep fun b hb => hC.block b (Nat.lt_trans (HSs.out.1 b hb) h1) (fun h => h.2 (.inl hb)), h3.keep fun b hb => hC.block b (Nat.lt_trans (HSs.out.2.1 b hb) h1) (fun h => h.2 (.inr hb))⟩
  (refine Go.wpR_plain (Go.clsExtS _ _ hSW) rfl rfl (fun K hK => ?_); go_simp; refine hK _ ?_; clear hK K)
  (refine Go.wpR_plain (Go.clsExtS _ _ hSW) rfl rfl (fun K hK => ?_); go_simp; refine hK _ ?_; clear hK K)
  (refine Go.wpR_plain (Go.clsExtS _ _ hSW) rfl rfl (fun K hK => ?_); go_simp; refine hK _ ?_; clear hK K)
  (refine Go.wpR_plain (Go.clsExtS _ _ hSW) rfl rfl (fun K hK => ?_); go_simp; refine hK _ ?_; clear hK K)
  (refine Go.wpR_plain (Go.clsExtS _ _ hSW) rfl rfl (fun K hK => ?_); go_simp; refine hK _ ?_; clear hK K)
  refine Go.wpR_change 101 #[.agg #[Value.slice a0 hs.length cap0, Value.slice a1 ds.length cap1], .agg #[.int .i64 T.desc_, .int .i64 T.phase_, .int .i64 T.at_]] (by rintro w8 w' ⟨E, rfl⟩ hC; exact ⟨⟨w', E.h.trans hC⟩, rfl⟩) (Rel.val (.tuple #[.agg #[.int .i64 FR.desc_, .int .i64 FR.phase_, .int .i64 FR.at_], .int .i64 NV])).sh (fun v lo hi w9 => w.heap.size < w9.heap.size ∧ ownL S0 w9 (Value.slice a0 hs.length cap0) (stepH hs ds T) ∧ ownL S1 w9 (Value.slice a1 ds.length cap1) (stepD ds T)) rfl rfl rfl rfl (fun w => by go_simp) (fun w8 hC hD hold => ?_) ?_
  · obtain ⟨E, rfl⟩ := hC
    refine (spec_l7Drive0 hs ds S0 S1 _ _ T E.w (fun b hb => Nat.lt_of_lt_of_le (hSW b (.inl hb)) E.size) (fun b hb => Nat.lt_of_lt_of_le (hSW b (.inr hb)) E.size) HD.out.1 (O0.out.keep fun b hb => hold b (.inl hb)) (O1.out.keep fun b hb => hold b (.inr hb)) hf).mono ?_
    rintro e w9 ⟨rfl, p0, p1, C⟩
    exact ⟨_, rfl, C, by rw [hFR.out, hNV.out]; rfl, by have := E.size; have := C.size; omega, p0, p1⟩
  rintro _ lo5 hi5 rfl
  (refine Go.wpR_plain (Go.clsExtS _ _ hSW) rfl rfl (fun K hK => ?_); go_simp; refine hK _ ?_; clear hK K)
  (refine Go.wpR_plain (Go.clsExtS _ _ hSW) rfl rfl (fun K hK => ?_); go_simp; refine hK _ ?_; clear hK K)
  (refine Go.wpR_plain (Go.clsExtS _ _ hSW) rfl rfl (fun K hK => ?_); go_simp; refine hK _ ?_; clear hK K)
  refine Go.wpR_box (Go.clsExtS _ _ hSW) 3 #[.int .i64 0, .int .i64 0, .int .i64 0] 91 rfl rfl rfl rfl rfl (fun w => by go_simp) (fun lo => ?_)
  refine Go.wpR_store (Go.clsExtS _ _ hSW) 9 3 lo _ (.agg #[.int .i64 FR.desc_, .int .i64 FR.phase_, .int .i64 FR.at_]) [.int .i64 FR.desc_, .int .i64 FR.phase_, .int .i64 FR.at_] rfl rfl rfl (by decide) rfl (by first | rfl | (simp [Go.Oper.stored]; go_simp)) (fun w h => Go.wrote_r h) (fun w cs0 hn hB => ⟨_, (by obtain ⟨z0, z1, z2, kz0, kz1, kz2, fz0, fz1, fz2⟩ := box_any3 hn hB; go_simp), boxset3 hn hB _ _ _⟩) rfl ?_
  (refine Go.wpR_plain (Go.clsExtS _ _ hSW) rfl rfl (fun K hK => ?_); go_simp; refine hK _ ?_; clear hK K)
  refine Go.wpR_nil ?_
  intro E hm
  have bx := (hm.one 10 _ _ _ rfl).1.2 _ rfl
  have hlo := hm.low 9 _ _ _ rfl
  obtain ⟨-, p0, p1⟩ := (hm.one 5 _ _ _ rfl).1
  have hC := E.h
  obtain ⟨X, hX⟩ : ∃ X, X = E.w := ⟨_, rfl⟩
  rw [← hX] at bx p0 p1 hC ⊢
  clear hX hm E x0 x1 y0 y1 y2 mk1 mk2
  have k0 : X.cell? ⟨lo, 0, none⟩ = some (.int .i64 FR.desc_) := bx.1.2 0 (by simp)
  have k1 : X.cell? ⟨lo, 1, none⟩ = some (.int .i64 FR.phase_) := bx.1.2 1 (by simp)
  have k2 : X.cell? ⟨lo, 2, none⟩ = some (.int .i64 FR.at_) := bx.1.2 2 (by simp)
  have hXl := bx.1.1
  have hXs := hC.size
  have O2X := hid (O2.out.keep (w' := X) fun b hb => hC.block b (by have := HSs.out.2.2 b hb; omega) (fun h => h.elim (fun h => HD.out.2.1 b h hb) (fun h => HD.out.2.2 b h hb)))
  have P0 := hid p0
  have P1 := hid p1
  have CX : Hid (ChgS (fun b => S0 b ∨ S1 b ∨ S2 b) w X) := hid ((ChgS.of_below hB1 _).trans (hC.mono fun b hb => hb.elim .inl (fun h => .inr (.inl h))))
  have HSX := hid (show (∀ b, S0 b → b < X.heap.size) ∧ (∀ b, S1 b → b < X.heap.size) ∧ (∀ b, S2 b → b < X.heap.size) from ⟨fun b hb => by have := HSs.out.1 b hb; omega, fun b hb => by have := HSs.out.2.1 b hb; omega, fun b hb => by have := HSs.out.2.2 b hb; omega⟩)
  clear bx p0 p1 hC O0 O1 O2 BP HC
  by_cases hNV : 0 ≤ NV
  · by_cases h130 : st.length = 130
    · have hc : ((n : Int) + 1 == 130) = true := by rw [beq_iff_eq]; omega
      have HO := hid (show helpSt hs ds st = st by rw [hSt.out, if_pos hNV, if_pos h130])
      clear h130
      go_wp2
      go_ret
      exact ⟨_, rfl, S2, by rw [HR.out]; exact P0.out, by rw [HR.out]; exact P1.out, by rw [HR.out]; dsimp only; rw [HO.out]; exact O2X.out, fun k h => .inl h, CX.out⟩
    · have hc : ((n : Int) + 1 == 130) = false := by rw [beq_eq_false_iff_ne]; omega
      have HO := hid (show helpSt hs ds st = st.set n FR ++ [⟨NV, 0, 0⟩] by rw [hSt.out, if_pos hNV, if_neg h130, hSl.out])
      clear h130
      obtain ⟨g', cap', e', hgS', hgl', c0, c1, c2, cf⟩ := own_frame O2X.out n (by omega)
      simp only [Value.slice.injEq, Option.some.injEq, Addr.mk.injEq, and_true, true_and] at e'
      obtain ⟨rfl, -, rfl⟩ := e'
      have f0 := cf (n * 3); have f1 := cf (n * 3 + 1); have f2 := cf (n * 3 + 2)
      obtain ⟨Y, hY⟩ : ∃ Y, (((X.setCell ⟨g, n * 3, none⟩ (.int .i64 FR.desc_)).setCell ⟨g, n * 3 + 1, none⟩ (.int .i64 FR.phase_)).setCell ⟨g, n * 3 + 2, none⟩ (.int .i64 FR.at_)) = Y := ⟨_, rfl⟩
      have hYs : Y.heap.size = X.heap.size := by rw [← hY]; simp [World.setCell]
      have hgs0 : ∀ b, S0 b → b ≠ g := fun b hb e => HD.out.2.1 b hb (by rw [e]; exact hgS)
      have hgs1 : ∀ b, S1 b → b ≠ g := fun b hb e => HD.out.2.2 b hb (by rw [e]; exact hgS)
      have O2Y : Hid (ownL S2 Y (.slice (some ⟨g, 0, none⟩) (n + 1) cap) (st.set n FR)) := by rw [← hY]; exact hid (own_frame_set O2X.out n (by omega) _ _ _)
      have P0Y : Hid (ownL S0 Y (Value.slice a0 hs.length cap0) (stepH hs ds T)) := by rw [← hY]; exact hid (own_set (own_set (own_set P0.out hgs0) hgs0) hgs0)
      have P1Y : Hid (ownL S1 Y (Value.slice a1 ds.length cap1) (stepD ds T)) := by rw [← hY]; exact hid (own_set (own_set (own_set P1.out hgs1) hgs1) hgs1)
      have CY : Hid (ChgS (fun b => S0 b ∨ S1 b ∨ S2 b) w Y) := by rw [← hY]; exact hid (((CX.out.set _ _ (.inr (.inr hgS))).set _ _ (.inr (.inr hgS))).set _ _ (.inr (.inr hgS)))
      have hlg : lo ≠ g := by omega
      clear cf hgs0 hgs1
      obtain ⟨L, hL⟩ : ∃ L, Y.alloc (.cells #[.int .i64 NV, .int .i64 0, .int .i64 0] 91) = L := ⟨_, rfl⟩
      have bL : Below Y.heap.size Y L := by rw [← hL]; exact (Below.refl _ _).alloc (Nat.le_refl _) _
      have hlL : Flat L (.slice (some ⟨X.heap.size, 0, none⟩) 1 1) 1 3 [.int .i64 NV, .int .i64 0, .int .i64 0] := by
        rw [← hL, ← hYs]
        exact Flat.of_owns (owns_litN Y 91 3 1 #[.int .i64 NV, .int .i64 0, .int .i64 0] 0 (Nat.zero_le _) rfl (by decide))
      have O2L := hid (O2Y.out.keep (w' := L) fun b hb => bL.block b (by rw [hYs]; exact HSX.out.2.2 b hb))
      have hrow : L.ownsRow 0 91 3 (.slice (some ⟨g, 0, none⟩) (n + 1) cap) (n + 1) ((st.set n FR).flatMap Frame.enc) := by have h9 := (ownFrames.1 O2L.out).1; rw [List.length_set, hn] at h9; exact h9
      have hone := oneCell_F [⟨NV, 0, 0⟩]
      go_wp2_with (at_builtin; refine wpList_append_at rfl _ _ 80 rfl 0 91 j0 (.agg #[.int .i64 0, .int .i64 0, .int .i64 0]) 3 24 Tryz.underlying80 hj hy0 hy1 hy2 rfl (by decide) _ _ _ rfl hrow _ 1 _ rfl hlL (by decide) hone (by unfold maxLen; omega) (by omega) (Nat.zero_le _) ?_)
      intro v8 w8 o8 g8 p8
      have hsn := own_frame_snoc (f := ⟨NV, 0, 0⟩) O2L.out (fun b hb => Nat.lt_of_lt_of_le (HSX.out.2.2 b hb) (by rw [← hYs]; exact bL.size)) (by rw [List.length_set, hn]; exact o8) g8 p8
      obtain ⟨q2, q3, q4⟩ := hsn
      have hLs := bL.size
      have Q2 := hid q2
      have Q3 := hid q3
      have Q4 := hid q4
      have P0L := hid ((P0Y.out.keep (w' := L) fun b hb => bL.block b (by rw [hYs]; exact HSX.out.1 b hb)).chg q4 (fun b hb => ⟨Nat.lt_of_lt_of_le (HSX.out.1 b hb) (by rw [← hYs]; exact hLs), HD.out.2.1 b hb⟩))
      have P1L := hid ((P1Y.out.keep (w' := L) fun b hb => bL.block b (by rw [hYs]; exact HSX.out.2.1 b hb)).chg q4 (fun b hb => ⟨Nat.lt_of_lt_of_le (HSX.out.2.1 b hb) (by rw [← hYs]; exact hLs), HD.out.2.2 b hb⟩))
      have C8 := hid ((CY.out.trans (ChgS.of_below bL _)).trans (q4.mono fun b hb => .inr (.inr hb)))
      clear q2 q3 q4 o8 g8 p8 hrow hlL hone hL bL
      go_wp2
      go_ret
      exact ⟨_, rfl, _, by rw [HR.out]; exact P0L.out, by rw [HR.out]; exact P1L.out, by rw [HR.out]; dsimp only; rw [HO.out]; exact Q2.out, fun k hk => (Q3.out k hk).imp id (fun h => ⟨by omega, h.2⟩), C8.out⟩
  · have hNV' : ¬ 0 ≤ NV := hNV
    by_cases h5 : FR.phase_ = 5
    · have hc : (FR.phase_ == 5) = true := by rw [beq_iff_eq]; exact h5
      have HO := hid (show helpSt hs ds st = (st.set n FR).take n by rw [hSt.out, if_neg hNV, if_pos h5, List.take_set_of_le (by omega)])
      clear h5
      obtain ⟨g', cap', e', hgS', hgl', c0, c1, c2, cf⟩ := own_frame O2X.out n (by omega)
      simp only [Value.slice.injEq, Option.some.injEq, Addr.mk.injEq, and_true, true_and] at e'
      obtain ⟨rfl, -, rfl⟩ := e'
      have f0 := cf (n * 3); have f1 := cf (n * 3 + 1); have f2 := cf (n * 3 + 2)
      obtain ⟨Y, hY⟩ : ∃ Y, (((X.setCell ⟨g, n * 3, none⟩ (.int .i64 FR.desc_)).setCell ⟨g, n * 3 + 1, none⟩ (.int .i64 FR.phase_)).setCell ⟨g, n * 3 + 2, none⟩ (.int .i64 FR.at_)) = Y := ⟨_, rfl⟩
      have hYs : Y.heap.size = X.heap.size := by rw [← hY]; simp [World.setCell]
      have hgs0 : ∀ b, S0 b → b ≠ g := fun b hb e => HD.out.2.1 b hb (by rw [e]; exact hgS)
      have hgs1 : ∀ b, S1 b → b ≠ g := fun b hb e => HD.out.2.2 b hb (by rw [e]; exact hgS)
      have O2Y : Hid (ownL S2 Y (.slice (some ⟨g, 0, none⟩) (n + 1) cap) (st.set n FR)) := by rw [← hY]; exact hid (own_frame_set O2X.out n (by omega) _ _ _)
      have P0Y : Hid (ownL S0 Y (Value.slice a0 hs.length cap0) (stepH hs ds T)) := by rw [← hY]; exact hid (own_set (own_set (own_set P0.out hgs0) hgs0) hgs0)
      have P1Y : Hid (ownL S1 Y (Value.slice a1 ds.length cap1) (stepD ds T)) := by rw [← hY]; exact hid (own_set (own_set (own_set P1.out hgs1) hgs1) hgs1)
      have CY : Hid (ChgS (fun b => S0 b ∨ S1 b ∨ S2 b) w Y) := by rw [← hY]; exact hid (((CX.out.set _ _ (.inr (.inr hgS))).set _ _ (.inr (.inr hgS))).set _ _ (.inr (.inr hgS)))
      have hlg : lo ≠ g := by omega
      clear cf hgs0 hgs1
      have hlk : Y.cell? ⟨lo, 1, none⟩ = some (.int .i64 FR.phase_) := by rw [← hY, World.cell?_setCell_other _ _ _ _ (by intro e; exact hlg (congrArg Addr.block e).symm), World.cell?_setCell_other _ _ _ _ (by intro e; exact hlg (congrArg Addr.block e).symm), World.cell?_setCell_other _ _ _ _ (by intro e; exact hlg (congrArg Addr.block e).symm)]; exact k1
      have hnc : n + 1 ≤ cap := by
        obtain ⟨a9, c9, e9, h9, -⟩ := ownL_len O2Y.out
        simp only [Value.slice.injEq] at e9
        omega
      go_wp2
      go_ret
      exact ⟨_, rfl, S2, by rw [HR.out]; exact P0Y.out, by rw [HR.out]; exact P1Y.out, by rw [HR.out]; dsimp only; rw [HO.out]; exact own_frame_take O2Y.out n (by rw [List.length_set]; omega), fun k h => .inl h, CY.out⟩
    · have hc : (FR.phase_ == 5) = false := by rw [beq_eq_false_iff_ne]; exact h5
      have HO := hid (show helpSt hs ds st = st.set n FR by rw [hSt.out, if_neg hNV, if_neg h5, hSl.out])
      clear h5
      obtain ⟨g', cap', e', hgS', hgl', c0, c1, c2, cf⟩ := own_frame O2X.out n (by omega)
      simp only [Value.slice.injEq, Option.some.injEq, Addr.mk.injEq, and_true, true_and] at e'
      obtain ⟨rfl, -, rfl⟩ := e'
      have f0 := cf (n * 3); have f1 := cf (n * 3 + 1); have f2 := cf (n * 3 + 2)
      obtain ⟨Y, hY⟩ : ∃ Y, (((X.setCell ⟨g, n * 3, none⟩ (.int .i64 FR.desc_)).setCell ⟨g, n * 3 + 1, none⟩ (.int .i64 FR.phase_)).setCell ⟨g, n * 3 + 2, none⟩ (.int .i64 FR.at_)) = Y := ⟨_, rfl⟩
      have hYs : Y.heap.size = X.heap.size := by rw [← hY]; simp [World.setCell]
      have hgs0 : ∀ b, S0 b → b ≠ g := fun b hb e => HD.out.2.1 b hb (by rw [e]; exact hgS)
      have hgs1 : ∀ b, S1 b → b ≠ g := fun b hb e => HD.out.2.2 b hb (by rw [e]; exact hgS)
      have O2Y : Hid (ownL S2 Y (.slice (some ⟨g, 0, none⟩) (n + 1) cap) (st.set n FR)) := by rw [← hY]; exact hid (own_frame_set O2X.out n (by omega) _ _ _)
      have P0Y : Hid (ownL S0 Y (Value.slice a0 hs.length cap0) (stepH hs ds T)) := by rw [← hY]; exact hid (own_set (own_set (own_set P0.out hgs0) hgs0) hgs0)
      have P1Y : Hid (ownL S1 Y (Value.slice a1 ds.length cap1) (stepD ds T)) := by rw [← hY]; exact hid (own_set (own_set (own_set P1.out hgs1) hgs1) hgs1)
      have CY : Hid (ChgS (fun b => S0 b ∨ S1 b ∨ S2 b) w Y) := by rw [← hY]; exact hid (((CX.out.set _ _ (.inr (.inr hgS))).set _ _ (.inr (.inr hgS))).set _ _ (.inr (.inr hgS)))
      have hlg : lo ≠ g := by omega
      clear cf hgs0 hgs1
      have hlk : Y.cell? ⟨lo, 1, none⟩ = some (.int .i64 FR.phase_) := by rw [← hY, World.cell?_setCell_other _ _ _ _ (by intro e; exact hlg (congrArg Addr.block e).symm), World.cell?_setCell_other _ _ _ _ (by intro e; exact hlg (congrArg Addr.block e).symm), World.cell?_setCell_other _ _ _ _ (by intro e; exact hlg (congrArg Addr.block e).symm)]; exact k1
      go_wp2
      go_ret
      exact ⟨_, rfl, S2, by rw [HR.out]; exact P0Y.out, by rw [HR.out]; exact P1Y.out, by rw [HR.out]; dsimp only; rw [HO.out]; exact O2Y.out, fun k h => .inl h, CY.out⟩
end Go.Proofs.YtbbdchlabdilcabGreat
