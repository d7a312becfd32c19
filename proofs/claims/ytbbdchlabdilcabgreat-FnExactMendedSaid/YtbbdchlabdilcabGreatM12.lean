/- Chapter 8's program: one step of a stack, on a store and a stack of the call's own. -/
import Derived.Test.YtbbdchlabdilcabGreatI7n
import Derived.Test.YtbbdchlabdilcabGreatI8
import Derived.Test.YtbbdchlabdilcabGreatS8b
import Derived.Test.YtbbdchlabdilcabGreatM11
import Derived.Test.YtbbdchlabdilcabGreatWr3
import Derived.Test.YtbbdchlabdilcabGreatF8
namespace Go.Proofs.YtbbdchlabdilcabGreat
set_option maxRecDepth 100000
open Go.RowKit Go.Proofs Go.Own
open Go Go.BigFrame
set_option linter.unusedVariables false
set_option linter.unusedSimpArgs false
set_option maxHeartbeats 8000000 in
theorem impl_help0 (x : HS) (S0 S1 S2 : Nat → Prop) (v0 v1 v2 : Value) (w : World) (hS0 : ∀ b, S0 b → b < w.heap.size) (hS1 : ∀ b, S1 b → b < w.heap.size) (hS2 : ∀ b, S2 b → b < w.heap.size) (d01 : ∀ b, S0 b → ¬ S1 b) (d02 : ∀ b, S0 b → ¬ S2 b) (d12 : ∀ b, S1 b → ¬ S2 b)
    (o0 : ownL S0 w v0 x.hs) (o1 : ownL S1 w v1 x.ds) (o2 : ownL S2 w v2 x.st) (hok : x.ok) :
    Calls Tryz.prog 91 #[.agg #[v0, v1], v2] w fun e w' => ∃ u, e = .returned u ∧ HelpOwn w w' v0 v1 u S0 S1 S2 (helpR x) := by
  obtain ⟨j0, hj, hy0, hy1, hy2⟩ := info_parts infoFrame
  obtain ⟨hs, ds, st⟩ := x
  dsimp only at o0 o1 o2
  obtain ⟨a0, cap0, rfl, -, -⟩ := ownL_len o0
  obtain ⟨a1, cap1, rfl, -, -⟩ := ownL_len o1
  have hst := stackOk_iff.1 hok
  dsimp only at hst
  obtain ⟨hso, hl130, hall⟩ := hst
  obtain ⟨W1, hW1⟩ : ∃ X, w.alloc (.cells #[Value.slice a0 hs.length cap0, Value.slice a1 ds.length cap1] 37) = X := ⟨_, rfl⟩
  have hB1 : Below w.heap.size w W1 := by rw [← hW1]; exact (Below.refl _ _).alloc (Nat.le_refl _) _
  have hN1 : W1.heap.size = w.heap.size + 1 := by rw [← hW1]; simp
  have BP : Hid (BoxF W1 w.heap.size [Value.slice a0 hs.length cap0, Value.slice a1 ds.length cap1]) := by rw [← hW1]; exact hid (BoxF.alloc w #[Value.slice a0 hs.length cap0, Value.slice a1 ds.length cap1] 37)
  have O0 := hid (o0.keep (w' := W1) fun b hb => hB1.block b (hS0 b hb))
  have O1 := hid (o1.keep (w' := W1) fun b hb => hB1.block b (hS1 b hb))
  have O2 := hid (o2.keep (w' := W1) fun b hb => hB1.block b (hS2 b hb))
  by_cases hz : st.length = 0
  · obtain ⟨a2, cap2, rfl, -, -⟩ := ownL_len o2
    have HR := hid (helpR_nil (x := ⟨hs, ds, st⟩) hz)
    have hi0 : (st.length : Int) - 1 = -1 := by omega
    have hze : ((st.length : Int) == 0) = true := by rw [beq_iff_eq]; omega
    have hlb : st.length ≤ 9223372036854775807 := by omega
    clear hz hi0
    go_enter Tryz.func91, Tryz.ntmps91
    go_wp2_with fail
    refine (impl_isEmpty _ _ _ _ hlb).mono ?_
    rintro e w9 ⟨rfl, rfl⟩
    go_wp2
    go_ret
    exact ⟨_, rfl, S2, by rw [HR.out]; exact O0.out, by rw [HR.out]; exact O1.out, by rw [HR.out]; exact O2.out, fun k h => .inl h, ChgS.of_below hB1 _⟩
  obtain ⟨n, hn⟩ : ∃ n, st.length = n + 1 := ⟨st.length - 1, by omega⟩
  obtain ⟨g, cap, rfl, hgS, hgl, c0, c1, c2, cf⟩ := own_frame o2 n (by omega)
  obtain ⟨T, hT⟩ : ∃ T, Hid (topF st = T) := ⟨_, hid rfl⟩
  have hTn : Hid (st[n]'(by omega) = T) := hid (by rw [← hT.out, topF_eq (by omega)]; simp [hn])
  rw [hTn.out] at c0 c1 c2
  have hf : frameOk hs ds T = true := by rw [← hT.out]; exact (hall _ (top_mem hz)).2
  have HR := hid (show helpR ⟨hs, ds, st⟩ = ⟨stepH hs ds T, stepD ds T, helpSt hs ds st⟩ by rw [helpR_cons hz]; dsimp only; rw [hT.out])
  have hSt : Hid (helpSt hs ds st = if 0 ≤ stepN hs ds T then (if st.length = 130 then st else st.take n ++ [stepF hs ds T] ++ [⟨stepN hs ds T, 0, 0⟩]) else if (stepF hs ds T).phase_ = 5 then st.take n else st.take n ++ [stepF hs ds T]) := hid (by unfold helpSt; rw [hT.out, hn]; rfl)
  obtain ⟨FR, hFR⟩ : ∃ FR, Hid (stepF hs ds T = FR) := ⟨_, hid rfl⟩
  obtain ⟨NV, hNV⟩ : ∃ NV, Hid (stepN hs ds T = NV) := ⟨_, hid rfl⟩
  have HNl := hid (show -1 ≤ NV by rw [← hNV.out]; exact (stepN_lt hf).1)
  have HFt := hid (show 0 ≤ NV → FR.phase_ = 0 from fun h => by rw [← hFR.out, stepF_told (by rw [hNV.out]; exact h)])
  rw [hFR.out, hNV.out] at hSt
  have hSl := hid (show st.set n FR = st.take n ++ [FR] by have h9 := set_last st FR hz; rw [hn] at h9; exact h9)
  clear hT hTn hz hall hok
  rw [hn] at O2 ⊢
  have hSW : ∀ b, (S0 b ∨ S1 b) → b < W1.heap.size := fun b hb => by rw [hN1]; rcases hb with h | h; have := hS0 b h; omega; have := hS1 b h; omega
  have hgn : ¬ (S0 g ∨ S1 g) := fun h => h.elim (fun h => d02 g h hgS) (fun h => d12 g h hgS)
  have hwn : ¬ (S0 w.heap.size ∨ S1 w.heap.size) := fun h => h.elim (fun h => by have := hS0 _ h; omega) (fun h => by have := hS1 _ h; omega)
  have hg1 : g < W1.heap.size := by omega
  have x0 := Go.ExtS.cell (S := fun b => S0 b ∨ S1 b) BP.out.1.1 hwn (show W1.cell? ⟨w.heap.size, 0, none⟩ = some (Value.slice a0 hs.length cap0) from BP.out.1.2 0 (by simp))
  have x1 := Go.ExtS.cell (S := fun b => S0 b ∨ S1 b) BP.out.1.1 hwn (show W1.cell? ⟨w.heap.size, 1, none⟩ = some (Value.slice a1 ds.length cap1) from BP.out.1.2 1 (by simp))
  have y0 := Go.ExtS.cell (S := fun b => S0 b ∨ S1 b) hg1 hgn ((hB1.cell (p := ⟨g, n * 3, none⟩) hgl).trans c0)
  have y1 := Go.ExtS.cell (S := fun b => S0 b ∨ S1 b) hg1 hgn ((hB1.cell (p := ⟨g, n * 3 + 1, none⟩) hgl).trans c1)
  have y2 := Go.ExtS.cell (S := fun b => S0 b ∨ S1 b) hg1 hgn ((hB1.cell (p := ⟨g, n * 3 + 2, none⟩) hgl).trans c2)
  have hni : ((n + 1 : Nat) : Int) - 1 = (n : Int) := by omega
  have hn0 : (0 : Int) ≤ (n : Int) := by omega
  have hnb : n ≤ 9223372036854775806 := by omega
  have hn1 : (n : Int) < (n : Int) + 1 := by omega
  have HC := hid cf
  have HSs := hid (And.intro hS0 (And.intro hS1 hS2))
  have HD := hid (And.intro d01 (And.intro d02 d12))
  have HW1 := hid hW1
  clear c0 c1 c2 cf o0 o1 o2 hW1
  have mk1 : ∀ (P : Program) (o : Oper) (a : Act) (w : World) (v : Value), Oper.plainAt P o a w v = Oper.plainUpon w v ((execOp a.eval o).run P w) := fun _ _ _ _ _ => rfl; have mk2 : ∀ (w w' : World) (v u : Value), Oper.plainUpon w v (.ok (.value u) w') = (w' = w ∧ u = v) := fun _ _ _ _ => rfl
  have hze : ((n : Int) + 1 == 0) = false := by rw [beq_eq_false_iff_ne]; omega
  have hcp : n + 1 ≤ cap ∧ cap ≤ 9223372036854775807 := by
    obtain ⟨a9, c9, e9, h9, h8⟩ := ownL_len O2.out
    simp only [Value.slice.injEq] at e9
    omega
  have HCP := hid hcp
  clear hcp
  go_enter Tryz.func91, Tryz.ntmps91
  go_wp2_with fail
  rw [HW1.out]
  refine (impl_isEmpty _ _ _ _ (by omega)).mono ?_
  rintro e w9 ⟨rfl, rfl⟩
  go_upto_region 3 with fail
  refine Go.wp_region_chg (fun b => S0 b ∨ S1 b) (fun v lo hi w9 => w.heap.size < w9.heap.size ∧ ownL S0 w9 (Value.slice a0 hs.length cap0) (stepH hs ds T) ∧ ownL S1 w9 (Value.slice a1 ds.length cap1) (stepD ds T)) [Rel.none, Rel.none, Rel.val (.agg #[.int .i64 T.desc_, .int .i64 T.phase_, .int .i64 T.at_]), Rel.val (.tuple #[.agg #[.int .i64 FR.desc_, .int .i64 FR.phase_, .int .i64 FR.at_], .int .i64 NV]), Rel.none, Rel.none, Rel.none, Rel.box W1.heap.size 3, Rel.wrote] [[], [], [], [2], [], [], [], [], [7]] [.plain, .plain, .make, .change, .plain, .plain, .plain, .make, .write 7] (by kernel_rfl) (by kernel_rfl) (by kernel_rfl) (by kernel_rfl) (by kernel_rfl) hSW ?hRC ?_
  case hRC =>
    rintro v lo hi w9 w' ⟨h1, h2, h3⟩ h4 hC
    exact ⟨Nat.lt_of_lt_of_le h1 hC.size, h2.keep fun b hb => hC.block b (Nat.lt_trans (HSs.out.1 b hb) h1) (fun h => h.2 (.inl hb)), h3.keep fun b hb => hC.block b (Nat.lt_trans (HSs.out.2.1 b hb) h1) (fun h => h.2 (.inr hb))⟩
  (refine Go.wpR_plain (Go.clsExtS _ _ hSW) rfl rfl (fun K hK => ?_); go_simp; refine hK _ ?_; clear hK K)
  (refine Go.wpR_plain (Go.clsExtS _ _ hSW) rfl rfl (fun K hK => ?_); go_simp; refine hK _ ?_; clear hK K)
  refine Go.wpR_call (Go.clsExtS _ _ hSW) 118 #[.slice (some ⟨g, 0, none⟩) (n + 1) cap] (Rel.val (.agg #[.int .i64 T.desc_, .int .i64 T.phase_, .int .i64 T.at_])) rfl rfl rfl rfl (fun w => by go_simp) (fun w8 hC hD => ?_) ?_
  · obtain ⟨E, rfl⟩ := hC
    refine (impl_top g n cap T E.w (by omega) (Nat.lt_of_lt_of_le hg1 E.size) (y0 E) (y1 E) (y2 E)).mono ?_
    rintro e w9 ⟨rfl, b⟩
    exact ⟨_, rfl, b, rfl, trivial⟩
  rintro _ lo4 hi4 rfl
  refine Go.wpR_change 117 #[.agg #[Value.slice a0 hs.length cap0, Value.slice a1 ds.length cap1], .agg #[.int .i64 T.desc_, .int .i64 T.phase_, .int .i64 T.at_]] (by rintro w8 w' ⟨E, rfl⟩ hC; exact ⟨⟨w', E.h.trans hC⟩, rfl⟩) (Rel.val (.tuple #[.agg #[.int .i64 FR.desc_, .int .i64 FR.phase_, .int .i64 FR.at_], .int .i64 NV])).sh (fun v lo hi w9 => w.heap.size < w9.heap.size ∧ ownL S0 w9 (Value.slice a0 hs.length cap0) (stepH hs ds T) ∧ ownL S1 w9 (Value.slice a1 ds.length cap1) (stepD ds T)) rfl rfl rfl rfl (fun w => by go_simp) (fun w8 hC hD hold => ?_) ?_
  · obtain ⟨E, rfl⟩ := hC
    refine (impl_drive0 hs ds S0 S1 _ _ T E.w (fun b hb => Nat.lt_of_lt_of_le (hSW b (.inl hb)) E.size) (fun b hb => Nat.lt_of_lt_of_le (hSW b (.inr hb)) E.size) HD.out.1 (O0.out.keep fun b hb => hold b (.inl hb)) (O1.out.keep fun b hb => hold b (.inr hb)) hf).mono ?_
    rintro e w9 ⟨rfl, p0, p1, C⟩
    exact ⟨_, rfl, C, by rw [hFR.out, hNV.out]; rfl, by have := E.size; have := C.size; omega, p0, p1⟩
  rintro _ lo5 hi5 rfl
  (refine Go.wpR_plain (Go.clsExtS _ _ hSW) rfl rfl (fun K hK => ?_); go_simp; refine hK _ ?_; clear hK K)
  (refine Go.wpR_plain (Go.clsExtS _ _ hSW) rfl rfl (fun K hK => ?_); go_simp; refine hK _ ?_; clear hK K)
  (refine Go.wpR_plain (Go.clsExtS _ _ hSW) rfl rfl (fun K hK => ?_); go_simp; refine hK _ ?_; clear hK K)
  refine Go.wpR_box (Go.clsExtS _ _ hSW) 3 #[.int .i64 0, .int .i64 0, .int .i64 0] 91 rfl rfl rfl rfl rfl (fun w => by go_simp) (fun lo => ?_)
  refine Go.wpR_store (Go.clsExtS _ _ hSW) 7 3 lo _ (.agg #[.int .i64 FR.desc_, .int .i64 FR.phase_, .int .i64 FR.at_]) [.int .i64 FR.desc_, .int .i64 FR.phase_, .int .i64 FR.at_] rfl rfl rfl (by decide) rfl (by first | rfl | (simp [Go.Oper.stored]; go_simp)) (fun w h => Go.wrote_r h) (fun w cs0 hn hB => ⟨_, (by obtain ⟨z0, z1, z2, kz0, kz1, kz2, fz0, fz1, fz2⟩ := box_any3 hn hB; go_simp), boxset3 hn hB _ _ _⟩) rfl ?_
  (refine Go.wpR_plain (Go.clsExtS _ _ hSW) rfl rfl (fun K hK => ?_); go_simp; refine hK _ ?_; clear hK K)
  refine Go.wpR_nil ?_
  intro E hm
  have bx := (hm.one 8 _ _ _ rfl).1.2 _ rfl
  have hlo := hm.low 7 _ _ _ rfl
  obtain ⟨-, p0, p1⟩ := (hm.one 3 _ _ _ rfl).1
  have hC := E.h
  obtain ⟨X, hX⟩ : ∃ X, X = E.w := ⟨_, rfl⟩
  rw [← hX] at bx p0 p1 hC ⊢
  clear hX hm E x0 x1 y0 y1 y2 mk1 mk2
  have k0 : X.cell? ⟨lo, 0, none⟩ = some (.int .i64 FR.desc_) := bx.1.2 0 (by simp)
  have k1 : X.cell? ⟨lo, 1, none⟩ = some (.int .i64 FR.phase_) := bx.1.2 1 (by simp)
  have k2 : X.cell? ⟨lo, 2, none⟩ = some (.int .i64 FR.at_) := bx.1.2 2 (by simp)
  have hXl := bx.1.1
  have hXs := hC.size
  have O2X := hid (O2.out.keep (w' := X) fun b hb => hC.block b (by have := HSs.out.2.2 b hb; omega) (fun h => h.elim (fun h => HD.out.2.1 b h hb) (fun h => HD.out.2.2 b h hb)))
  have P0 := hid p0
  have P1 := hid p1
  have CX : Hid (ChgS (fun b => S0 b ∨ S1 b ∨ S2 b) w X) := hid ((ChgS.of_below hB1 _).trans (hC.mono fun b hb => hb.elim .inl (fun h => .inr (.inl h))))
  have HSX := hid (show (∀ b, S0 b → b < X.heap.size) ∧ (∀ b, S1 b → b < X.heap.size) ∧ (∀ b, S2 b → b < X.heap.size) from ⟨fun b hb => by have := HSs.out.1 b hb; omega, fun b hb => by have := HSs.out.2.1 b hb; omega, fun b hb => by have := HSs.out.2.2 b hb; omega⟩)
  have O2T := hid (own_frame_take O2X.out n (by omega))
  have htl : (st.take n).length = n := by simp; omega
  have Htl := hid htl
  clear htl bx p0 p1 hC O0 O1 O2 BP HC
  by_cases hNV : 0 ≤ NV
  · have hq : (NV != -1) = true := by simp; omega
    by_cases h130 : st.length = 130
    · have hc : ((n : Int) + 1 == 130) = true := by rw [beq_iff_eq]; omega
      have HO := hid (show helpSt hs ds st = st by rw [hSt.out, if_pos hNV, if_pos h130])
      clear h130
      go_wp2
      go_ret
      exact ⟨_, rfl, S2, by rw [HR.out]; exact P0.out, by rw [HR.out]; exact P1.out, by rw [HR.out]; dsimp only; rw [HO.out]; exact O2X.out, fun k h => .inl h, CX.out⟩
    · have hc : ((n : Int) + 1 == 130) = false := by rw [beq_eq_false_iff_ne]; omega
      have HO := hid (show helpSt hs ds st = st.take n ++ [FR] ++ [⟨NV, 0, 0⟩] by rw [hSt.out, if_pos hNV, if_neg h130])
      have h5 : (FR.phase_ != 5) = true := by rw [HFt.out hNV]; decide
      clear h130
      go_wp2_with fail
      refine (impl_below g n cap _ HCP.out.1 HCP.out.2).mono ?_
      rintro e w9 ⟨rfl, rfl⟩
      go_wp2_with fail
      refine (impl_with S2 _ (st.take n) FR _ HSX.out.2.2 (by rw [Htl.out]; omega) O2T.out).mono ?_
      rintro e w8 ⟨u8, S8, rfl, q2, q3, q4⟩
      have hs8 := q4.size
      have hS8 : ∀ b, S8 b → b < w8.heap.size := fun b hb => (q3 b hb).elim (fun h => Nat.lt_of_lt_of_le (HSX.out.2.2 b h) hs8) (fun h => h.2)
      have HS8 := hid hS8
      have Q2 := hid q2
      have Q3 := hid q3
      have Q4 := hid q4
      have P08 := hid (P0.out.chg q4 (fun b hb => ⟨HSX.out.1 b hb, HD.out.2.1 b hb⟩))
      have P18 := hid (P1.out.chg q4 (fun b hb => ⟨HSX.out.2.1 b hb, HD.out.2.2 b hb⟩))
      clear q2 q3 q4 hS8 k0 k1 k2
      go_wp2_with fail
      refine (impl_with S8 _ (st.take n ++ [FR]) ⟨NV, 0, 0⟩ _ HS8.out (by rw [List.length_append, Htl.out]; simp; omega) Q2.out).mono ?_
      rintro e w7 ⟨u7, S7, rfl, r2, r3, r4⟩
      have hs7 := r4.size
      have R2 := hid r2
      have R3 := hid r3
      have P07 := hid (P08.out.chg r4 (fun b hb => ⟨Nat.lt_of_lt_of_le (HSX.out.1 b hb) hs8, fun h => (Q3.out b h).elim (HD.out.2.1 b hb) (fun h9 => by have := HSX.out.1 b hb; omega)⟩))
      have P17 := hid (P18.out.chg r4 (fun b hb => ⟨Nat.lt_of_lt_of_le (HSX.out.2.1 b hb) hs8, fun h => (Q3.out b h).elim (HD.out.2.2 b hb) (fun h9 => by have := HSX.out.2.1 b hb; omega)⟩))
      have hwX : w.heap.size ≤ X.heap.size := by omega
      have C7 : Hid (ChgS (fun b => S0 b ∨ S1 b ∨ S2 b) w w7) := hid ⟨r4.os.trans (Q4.out.os.trans CX.out.os), r4.tape.trans (Q4.out.tape.trans CX.out.tape), r4.output.trans (Q4.out.output.trans CX.out.output), by omega, fun b hb hn => by
        rw [r4.block b (by omega) (fun h => (Q3.out b h).elim (fun h9 => hn (.inr (.inr h9))) (fun h9 => by omega)), Q4.out.block b (by omega) (fun h => hn (.inr (.inr h)))]
        exact CX.out.block b hb hn⟩
      clear r2 r3 r4
      go_wp2
      go_ret
      exact ⟨_, rfl, S7, by rw [HR.out]; exact P07.out, by rw [HR.out]; exact P17.out, by rw [HR.out]; dsimp only; rw [HO.out]; exact R2.out, fun k hk => (R3.out k hk).elim (fun h => (Q3.out k h).imp id (fun h9 => ⟨by omega, by omega⟩)) (fun h => .inr ⟨by omega, h.2⟩), C7.out⟩
  · have hNm : NV = -1 := by have := HNl.out; omega
    have hq : (NV != -1) = false := by rw [hNm]; decide
    clear hNm
    by_cases h5 : FR.phase_ = 5
    · have hc : (FR.phase_ != 5) = false := by rw [h5]; decide
      have HO := hid (show helpSt hs ds st = st.take n by rw [hSt.out, if_neg hNV, if_pos h5])
      clear h5 hNV
      go_wp2_with fail
      refine (impl_below g n cap _ HCP.out.1 HCP.out.2).mono ?_
      rintro e w9 ⟨rfl, rfl⟩
      go_wp2
      go_ret
      exact ⟨_, rfl, S2, by rw [HR.out]; exact P0.out, by rw [HR.out]; exact P1.out, by rw [HR.out]; dsimp only; rw [HO.out]; exact O2T.out, fun k h => .inl h, CX.out⟩
    · have hc : (FR.phase_ != 5) = true := by simp [h5]
      have HO := hid (show helpSt hs ds st = st.take n ++ [FR] by rw [hSt.out, if_neg hNV, if_neg h5])
      clear h5 hNV
      go_wp2_with fail
      refine (impl_below g n cap _ HCP.out.1 HCP.out.2).mono ?_
      rintro e w9 ⟨rfl, rfl⟩
      go_wp2_with fail
      refine (impl_with S2 _ (st.take n) FR _ HSX.out.2.2 (by rw [Htl.out]; omega) O2T.out).mono ?_
      rintro e w8 ⟨u8, S8, rfl, q2, q3, q4⟩
      have hs8 := q4.size
      have Q2 := hid q2
      have Q3 := hid q3
      have P08 := hid (P0.out.chg q4 (fun b hb => ⟨HSX.out.1 b hb, HD.out.2.1 b hb⟩))
      have P18 := hid (P1.out.chg q4 (fun b hb => ⟨HSX.out.2.1 b hb, HD.out.2.2 b hb⟩))
      have C8 := hid (CX.out.trans (q4.mono fun b hb => .inr (.inr hb)))
      clear q2 q3 q4 k0 k1 k2
      go_wp2
      go_ret
      exact ⟨_, rfl, S8, by rw [HR.out]; exact P08.out, by rw [HR.out]; exact P18.out, by rw [HR.out]; dsimp only; rw [HO.out]; exact Q2.out, fun k hk => (Q3.out k hk).imp id (fun h => ⟨by omega, h.2⟩), C8.out⟩
end Go.Proofs.YtbbdchlabdilcabGreat
/- Chapter 8: what Finish answers. -/
namespace Go.Proofs.YtbbdchlabdilcabGreat
set_option maxRecDepth 100000
open Go.RowKit Go.Proofs Go.Own
/-- At most so many steps, till the stack is empty; how many they were. -/
def finR : Nat → HS → HS × Nat
  | 0, x => (x, 0)
  | k+1, x => if x.st.length = 0 then (x, 0) else ((finR k (helpR x)).1, (finR k (helpR x)).2 + 1)
theorem finR_nil {k : Nat} {x : HS} (h : x.st.length = 0) : finR k x = (x, 0) := by cases k with
  | zero => rfl
  | succ k => exact if_pos h
theorem finR_cons {k : Nat} {x : HS} (h : ¬ x.st.length = 0) : finR (k+1) x = ((finR k (helpR x)).1, (finR k (helpR x)).2 + 1) := if_neg h
theorem finR_ok : ∀ (k : Nat) {x : HS}, x.ok → (finR k x).1.ok
  | 0, x, h => h
  | k+1, x, h => by
    by_cases hz : x.st.length = 0
    · rw [finR_nil hz]; exact h
    · rw [finR_cons hz]; exact finR_ok k (help_ok h)
theorem finR_le : ∀ (k : Nat) (x : HS), (finR k x).2 ≤ k
  | 0, x => Nat.le_refl _
  | k+1, x => by
    by_cases hz : x.st.length = 0
    · rw [finR_nil hz]; exact Nat.zero_le _
    · rw [finR_cons hz]; have := finR_le k (helpR x); show (finR k (helpR x)).2 + 1 ≤ k + 1; omega
/-- What has been reached behind n steps. -/
def FinAt (m : Nat) (x : HS) (n : Nat) (y : HS) : Prop := n ≤ m ∧ y.ok ∧ (finR m x).1 = (finR (m - n) y).1 ∧ (finR m x).2 = (finR (m - n) y).2 + n
theorem FinAt.zero (m : Nat) {x : HS} (h : x.ok) : FinAt m x 0 x := ⟨Nat.zero_le _, h, rfl, rfl⟩
theorem FinAt.step {m n : Nat} {x y : HS} (h : FinAt m x n y) (hn : n < m) (hy : ¬ y.st.length = 0) : FinAt m x (n+1) (helpR y) := by
  obtain ⟨h1, h2, h3, h4⟩ := h
  rw [show m - n = (m - (n+1)) + 1 by omega, finR_cons hy] at h3 h4
  exact ⟨hn, help_ok h2, h3, by rw [h4]; show (finR (m - (n+1)) (helpR y)).2 + 1 + n = _; omega⟩
theorem FinAt.end {m n : Nat} {x y : HS} (h : FinAt m x n y) (he : n = m ∨ y.st.length = 0) : finR m x = (y, n) := by
  obtain ⟨h1, h2, h3, h4⟩ := h
  have e : finR (m - n) y = (y, 0) := by
    rcases he with rfl | he
    · rw [Nat.sub_self]; rfl
    · exact finR_nil he
  rw [e] at h3 h4
  exact Prod.ext h3 (by rw [h4]; simp)
/-- What Finish answers. -/
structure FinD where
  x : HS
  n : Int
  b : Bool
def finOk (hs : List Head) (ds : List DescD) (st : List Frame) (m : Int) : Bool := stackOk hs ds st && inB m 0 2000
def finA (hs : List Head) (ds : List DescD) (st : List Frame) (m : Int) : FinD := if finOk hs ds st m = true then ⟨(finR m.toNat ⟨hs, ds, st⟩).1, (finR m.toNat ⟨hs, ds, st⟩).2, decide ((finR m.toNat ⟨hs, ds, st⟩).1.st.length = 0)⟩ else ⟨⟨hs, ds, st⟩, 0, false⟩
theorem finA_no {hs : List Head} {ds : List DescD} {st : List Frame} {m : Int} (h : finOk hs ds st m = false) : finA hs ds st m = ⟨⟨hs, ds, st⟩, 0, false⟩ := if_neg (by rw [h]; simp)
theorem finA_yes {hs : List Head} {ds : List DescD} {st : List Frame} {k : Nat} (h : finOk hs ds st k = true) {y : HS} {n : Nat} (e : finR k ⟨hs, ds, st⟩ = (y, n)) : finA hs ds st k = ⟨y, n, decide (y.st.length = 0)⟩ := by
  unfold finA; rw [if_pos h, Int.toNat_natCast, e]
end Go.Proofs.YtbbdchlabdilcabGreat
