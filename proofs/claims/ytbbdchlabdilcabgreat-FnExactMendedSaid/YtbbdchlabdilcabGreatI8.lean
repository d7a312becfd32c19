/- Chapter 8's program: a stack copied, its small words; StackOk. -/
import Derived.Test.YtbbdchlabdilcabGreatM11
import Derived.Test.YtbbdchlabdilcabGreatM10

namespace Go.Proofs.YtbbdchlabdilcabGreat
set_option maxRecDepth 100000
open Go.RowKit Go.Proofs Go.Own
open Go Go.BigFrame
set_option linter.unusedVariables false
set_option linter.unusedSimpArgs false
theorem impl_isEmpty (a : Option Addr) (n c : Nat) (w : World) (hn : n ≤ 9223372036854775807) :
    Calls Tryz.prog 90 #[.slice a n c] w fun e w' => e = .returned (.bool ((n : Int) == 0)) ∧ w = w' := by
  go_enter Tryz.func90, Tryz.ntmps90
  go_wp2
  go_ret
  exact ⟨rfl, rfl⟩
theorem impl_top (g n c : Nat) (T : Frame) (w : World) (hn : n + 1 ≤ 9223372036854775807) (hg : g < w.heap.size) (c0 : w.cell? ⟨g, n * 3, none⟩ = some (.int .i64 T.desc_)) (c1 : w.cell? ⟨g, n * 3 + 1, none⟩ = some (.int .i64 T.phase_)) (c2 : w.cell? ⟨g, n * 3 + 2, none⟩ = some (.int .i64 T.at_)) :
    Calls Tryz.prog 118 #[.slice (some ⟨g, 0, none⟩) (n + 1) c] w fun e w' => e = .returned (.agg #[.int .i64 T.desc_, .int .i64 T.phase_, .int .i64 T.at_]) ∧ Below w.heap.size w w' := by
  obtain ⟨W1, hW1⟩ : ∃ X, w.alloc (.cells #[.int .i64 0, .int .i64 0, .int .i64 0] 91) = X := ⟨_, rfl⟩
  have hB1 : Below w.heap.size w W1 := by rw [← hW1]; exact (Below.refl _ _).alloc (Nat.le_refl _) _
  have b : BoxF W1 w.heap.size [.int .i64 0, .int .i64 0, .int .i64 0] := by rw [← hW1]; exact BoxF.alloc w #[.int .i64 0, .int .i64 0, .int .i64 0] 91
  have m0 : W1.cell? ⟨w.heap.size, 0, none⟩ = some (.int .i64 0) := b.1.2 0 (by simp)
  have m1 : W1.cell? ⟨w.heap.size, 1, none⟩ = some (.int .i64 0) := b.1.2 1 (by simp)
  have m2 : W1.cell? ⟨w.heap.size, 2, none⟩ = some (.int .i64 0) := b.1.2 2 (by simp)
  have f0 : W1.frozen? ⟨w.heap.size, 0, none⟩ = false := b.2 0 (by simp)
  have f1 : W1.frozen? ⟨w.heap.size, 1, none⟩ = false := b.2 1 (by simp)
  have f2 : W1.frozen? ⟨w.heap.size, 2, none⟩ = false := b.2 2 (by simp)
  have e0 := (hB1.cell (p := ⟨g, n * 3, none⟩) hg).trans c0
  have e1 := (hB1.cell (p := ⟨g, n * 3 + 1, none⟩) hg).trans c1
  have e2 := (hB1.cell (p := ⟨g, n * 3 + 2, none⟩) hg).trans c2
  have hn1 : (n : Int) < (n : Int) + 1 := by omega
  have hn0 : (0 : Int) ≤ (n : Int) := by omega
  have hB := hid hB1
  clear c0 c1 c2 b hB1
  go_enter Tryz.func118, Tryz.ntmps118
  go_wp2
  refine bodyPost_ret (v := .agg #[.int .i64 T.desc_, .int .i64 T.phase_, .int .i64 T.at_]) ?_ rfl ⟨rfl, ?_⟩
  · simp [results, Tryz.results118, go_sem, m0, m1, m2, f0, f1, f2]
  · exact ((hB.out.setCell (Nat.le_refl _) _).setCell (Nat.le_refl _) _).setCell (Nat.le_refl _) _
theorem impl_below (g n c : Nat) (w : World) (hn : n + 1 ≤ c) (hc : c ≤ 9223372036854775807) :
    Calls Tryz.prog 119 #[.slice (some ⟨g, 0, none⟩) (n + 1) c] w fun e w' => e = .returned (.slice (some ⟨g, 0, none⟩) n c) ∧ w = w' := by
  have hn0 : (0 : Int) ≤ (n : Int) := by omega
  have hn1 : (n : Int) ≤ (c : Int) := by omega
  have hnb : n ≤ 9223372036854775806 := by omega
  go_enter Tryz.func119, Tryz.ntmps119
  go_wp2
  go_ret
  exact ⟨rfl, rfl⟩
set_option maxHeartbeats 2000000 in
theorem impl_with (S : Nat → Prop) (v : Value) (st : List Frame) (f : Frame) (w : World) (hS : ∀ b, S b → b < w.heap.size) (hl : st.length ≤ 1000000) (h : ownL S w v st) :
    Calls Tryz.prog 120 #[v, .agg #[.int .i64 f.desc_, .int .i64 f.phase_, .int .i64 f.at_]] w fun e w' => ∃ u, ∃ S' : Nat → Prop, e = .returned u ∧ ownL S' w' u (st ++ [f]) ∧ (∀ k, S' k → S k ∨ (w.heap.size ≤ k ∧ k < w'.heap.size)) ∧ ChgS S w w' := by
  obtain ⟨j0, hj, hy0, hy1, hy2⟩ := info_parts infoFrame
  obtain ⟨a, cap, rfl, -, -⟩ := ownL_len h
  obtain ⟨W1, hW1⟩ : ∃ X, w.alloc (.cells #[.int .i64 f.desc_, .int .i64 f.phase_, .int .i64 f.at_] 91) = X := ⟨_, rfl⟩
  have hB1 : Below w.heap.size w W1 := by rw [← hW1]; exact (Below.refl _ _).alloc (Nat.le_refl _) _
  have hN1 : W1.heap.size = w.heap.size + 1 := by rw [← hW1]; simp
  have b : BoxF W1 w.heap.size [.int .i64 f.desc_, .int .i64 f.phase_, .int .i64 f.at_] := by rw [← hW1]; exact BoxF.alloc w #[.int .i64 f.desc_, .int .i64 f.phase_, .int .i64 f.at_] 91
  have m0 : W1.cell? ⟨w.heap.size, 0, none⟩ = some (.int .i64 f.desc_) := b.1.2 0 (by simp)
  have m1 : W1.cell? ⟨w.heap.size, 1, none⟩ = some (.int .i64 f.phase_) := b.1.2 1 (by simp)
  have m2 : W1.cell? ⟨w.heap.size, 2, none⟩ = some (.int .i64 f.at_) := b.1.2 2 (by simp)
  obtain ⟨L, hL⟩ : ∃ L, W1.alloc (.cells #[.int .i64 f.desc_, .int .i64 f.phase_, .int .i64 f.at_] 91) = L := ⟨_, rfl⟩
  have bL : Below W1.heap.size W1 L := by rw [← hL]; exact (Below.refl _ _).alloc (Nat.le_refl _) _
  have hlL : Flat L (.slice (some ⟨w.heap.size + 1, 0, none⟩) 1 1) 1 3 (Frame.enc f) := by
    rw [← hL, ← hN1]
    exact Flat.of_owns (owns_litN W1 91 3 1 #[.int .i64 f.desc_, .int .i64 f.phase_, .int .i64 f.at_] 0 (Nat.zero_le _) rfl (by decide))
  have bwL : Below w.heap.size w L := hB1.trans (bL.mono hB1.size)
  have OL := hid (h.keep (w' := L) fun b hb => bwL.block b (hS b hb))
  have hrow := (ownFrames.1 OL.out).1
  have hone : ∀ c ∈ Frame.enc f, c.oneCell' = true := by have h9 := oneCell_F [f]; simpa using h9
  have hLs := bwL.size
  have BWL := hid bwL
  have HS := hid hS
  clear b bL bwL h hS
  go_enter Tryz.func120, Tryz.ntmps120
  go_wp2_with (at_builtin; refine wpList_append_at rfl _ _ 103 rfl 0 91 j0 (.agg #[.int .i64 0, .int .i64 0, .int .i64 0]) 3 24 Tryz.underlying103 hj hy0 hy1 hy2 rfl (by decide) _ _ _ rfl hrow _ 1 _ rfl hlL (by decide) hone (by unfold maxLen; omega) (by omega) (Nat.zero_le _) ?_)
  intro v8 w8 o8 g8 p8
  obtain ⟨q2, q3, q4⟩ := own_frame_snoc (f := f) OL.out (fun b hb => Nat.lt_of_lt_of_le (HS.out b hb) hLs) o8 g8 p8
  have Q2 := hid q2
  have Q3 := hid q3
  have Q4 := hid q4
  clear q2 q3 q4 o8 g8 p8 hrow hlL hone hL
  go_wp2
  go_ret
  exact ⟨_, _, rfl, Q2.out, fun k hk => (Q3.out k hk).imp id (fun h => ⟨by omega, h.2⟩), (ChgS.of_below BWL.out S).trans Q4.out⟩
set_option maxHeartbeats 8000000 in
theorem impl_StackOk0 (hs : List Head) (ds : List DescD) (st : List Frame) (v0 v1 v2 : Value) (w : World) (h0 : rdsL w v0 hs) (h1 : rdsL w v1 ds) (h2 : rdsL w v2 st) :
    Calls Tryz.prog 115 #[.agg #[v0, v1], v2] w fun e w' => e = .returned (.bool (stackOk hs ds st)) ∧ Below w.heap.size w w' := by
  have H0 := hid h0
  have H1 := hid h1
  obtain ⟨a0, cap0, rfl, hl0, hm0, -⟩ := rdsL_open h0
  obtain ⟨a1, cap1, rfl, hl1, hm1, -⟩ := rdsL_open h1
  obtain ⟨a2, cap2, rfl, hl2, hm2, hc2⟩ := rdsL_open h2
  have HC := hid hc2
  clear h0 h1 h2 hc2
  have hlen2 : st.length ≤ 9223372036854775807 := by omega
  obtain ⟨W1, hW1⟩ : ∃ X, w.alloc (.cells #[Value.slice a0 hs.length cap0, Value.slice a1 ds.length cap1] 37) = X := ⟨_, rfl⟩
  have hB1 : Below w.heap.size w W1 := by rw [← hW1]; exact (Below.refl _ _).alloc (Nat.le_refl _) _
  have BP : BoxF W1 w.heap.size [Value.slice a0 hs.length cap0, Value.slice a1 ds.length cap1] := by rw [← hW1]; exact BoxF.alloc w #[Value.slice a0 hs.length cap0, Value.slice a1 ds.length cap1] 37
  have k0 : W1.cell? ⟨w.heap.size, 0, none⟩ = some (Value.slice a0 hs.length cap0) := BP.1.2 0 (by simp)
  have k1 : W1.cell? ⟨w.heap.size, 1, none⟩ = some (Value.slice a1 ds.length cap1) := BP.1.2 1 (by simp)
  have R0 := hid (rdsL.below H0.out hB1)
  have R1 := hid (rdsL.below H1.out hB1)
  go_enter Tryz.func115, Tryz.ntmps115
  go_wp2_with fail
  try rw [hW1]
  clear hW1
  refine (impl_StoreOk0 hs ds _ _ _ R0.out R1.out).mono ?_
  rintro e w2 ⟨rfl, b2⟩
  have hB2 := hB1.trans (b2.mono hB1.size)
  have BP2 := hid (BP.below b2)
  clear k0 k1 R0 R1 BP b2 hB1
  clear W1
  have hu := hid (show stackOk hs ds st = (storeOk hs ds && decide (st.length ≤ 130) && st.all (stkIn hs ds)) from rfl)
  cases hso : storeOk hs ds with
  | false =>
    go_wp2
    go_ret
    exact ⟨ret_bool (by rw [hu.out, hso]; rfl), hB2⟩
  | true =>
  have Hso := hid hso
  by_cases hlen : (130 : Int) < (st.length : Int)
  · have hn : Hid (decide (st.length ≤ 130) = false) := hid (decide_eq_false (by omega))
    go_wp2
    go_ret
    exact ⟨ret_bool (by rw [hu.out, hn.out, Bool.and_false, Bool.false_and]), hB2⟩
  have hu2 := hid (show stackOk hs ds st = st.all (stkIn hs ds) by rw [hu.out, Hso.out, decide_eq_true (show st.length ≤ 130 by omega)]; rfl)
  clear hso hu
  go_wp2
  go_loopw [17] (fun i wr => ∃ k : Nat, k ≤ st.length ∧ i = .int .i64 k ∧ Same ((st.drop k).all (stkIn hs ds)) (st.all (stkIn hs ds)) ∧ Below w.heap.size w wr ∧ Hid (BoxF wr w.heap.size [Value.slice a0 hs.length cap0, Value.slice a1 ds.length cap1])) (fun i _ => st.length - (intOf i).toNat)
  case atStart => exact ⟨0, by omega, rfl, .rfl, hB2, BP2⟩
  case round =>
    clear hB2 BP2
    obtain ⟨k, hk, rfl, hS, hB, BP⟩ := hrel
    by_cases hlt : k < st.length
    · have hst := hid (all_step (stkIn hs ds) st k hlt)
      obtain ⟨bb, off, cs, rfl, hbs, rfl, hcell⟩ := HC.out k hlt
      obtain ⟨f, hff⟩ : ∃ f, Hid (st[k] = f) := ⟨_, hid rfl⟩
      have e0 : wr.cell? ⟨bb, off + k * 3, none⟩ = some (.int .i64 f.desc_) := by rw [← hff.out]; exact (hB.cell (p := ⟨bb, off + k * 3, none⟩) hbs).trans (show w.cell? ⟨bb, off + k * 3, none⟩ = some (.int .i64 st[k].desc_) from hcell 0 (show 0 < 3 by omega))
      have e1 : wr.cell? ⟨bb, off + k * 3 + 1, none⟩ = some (.int .i64 f.phase_) := by rw [← hff.out]; exact (hB.cell (p := ⟨bb, off + k * 3 + 1, none⟩) hbs).trans (show w.cell? ⟨bb, off + k * 3 + 1, none⟩ = some (.int .i64 st[k].phase_) from hcell 1 (show 1 < 3 by omega))
      have e2 : wr.cell? ⟨bb, off + k * 3 + 2, none⟩ = some (.int .i64 f.at_) := by rw [← hff.out]; exact (hB.cell (p := ⟨bb, off + k * 3 + 2, none⟩) hbs).trans (show w.cell? ⟨bb, off + k * 3 + 2, none⟩ = some (.int .i64 st[k].at_) from hcell 2 (show 2 < 3 by omega))
      rw [hff.out] at hst
      clear hcell HC
      obtain ⟨V, hV⟩ : ∃ X, wr.alloc (.cells #[.int .i64 f.desc_, .int .i64 f.phase_, .int .i64 f.at_] 91) = X := ⟨_, rfl⟩
      have hBV : Below wr.heap.size wr V := by rw [← hV]; exact (Below.refl _ _).alloc (Nat.le_refl _) _
      have hBwV := hid (hB.trans (hBV.mono hB.size))
      have bV : BoxF V wr.heap.size [.int .i64 f.desc_, .int .i64 f.phase_, .int .i64 f.at_] := by rw [← hV]; exact BoxF.alloc wr #[.int .i64 f.desc_, .int .i64 f.phase_, .int .i64 f.at_] 91
      have y0 : V.cell? ⟨wr.heap.size, 0, none⟩ = some (.int .i64 f.desc_) := bV.1.2 0 (by simp)
      have y1 : V.cell? ⟨wr.heap.size, 1, none⟩ = some (.int .i64 f.phase_) := bV.1.2 1 (by simp)
      have y2 : V.cell? ⟨wr.heap.size, 2, none⟩ = some (.int .i64 f.at_) := bV.1.2 2 (by simp)
      have BPV := BP.out.below hBV
      have x0 : V.cell? ⟨w.heap.size, 0, none⟩ = some (Value.slice a0 hs.length cap0) := BPV.1.2 0 (by simp)
      have x1 : V.cell? ⟨w.heap.size, 1, none⟩ = some (Value.slice a1 ds.length cap1) := BPV.1.2 1 (by simp)
      have hw := BP.out.1.1
      have hVs : wr.heap.size < V.heap.size := bV.1.1
      have HR0 := hid (rdsL.below H0.out hBwV.out)
      have HR1 := hid (rdsL.below H1.out hBwV.out)
      have HBP := hid BPV
      clear bV BPV H0 H1 BP hBV
      by_cases hp : f.phase_ = 5
      · have hp' : (f.phase_ == 5) = true := by rw [beq_iff_eq]; exact hp
        have hn : Hid (stkIn hs ds f = false) := hid (by unfold stkIn; rw [decide_eq_true hp]; rfl)
        clear hp
        go_wp2
        go_ret
        exact ⟨ret_bool (by rw [hu2.out, ← hS.out, hst.out, hn.out]; rfl), hBwV.out⟩
      · have hp' : (f.phase_ == 5) = false := by rw [beq_eq_false_iff_ne]; exact hp
        have hn : Hid (stkIn hs ds f = frameOk hs ds f) := hid (by unfold stkIn; rw [decide_eq_false hp]; rfl)
        have HV := hid hV
        clear hp
        go_wp2_with fail
        try rw [HV.out]
        clear hV
        refine (impl_FrameOk0 hs ds _ _ f _ HR0.out HR1.out).mono ?_
        rintro e w3 ⟨rfl, b3⟩
        have hB3 := hBwV.out.trans (b3.mono hBwV.out.size)
        have BP3 := hid (HBP.out.below b3)
        clear x0 x1 y0 y1 y2 HR0 HR1 HBP b3 e0 e1 e2
        cases hF : frameOk hs ds f with
        | false =>
          go_wp2
          go_ret
          exact ⟨ret_bool (by rw [hu2.out, ← hS.out, hst.out, hn.out, hF]; rfl), hB3⟩
        | true =>
          have HF := hid hF
          clear hF
          go_wp2
          go_roundw
          case rel => exact ⟨k+1, by omega, by go_num, Same.mk (by rw [← hS.out, hst.out, hn.out, HF.out, Bool.true_and]), hB3, BP3⟩
          case measure => simp [intOf]; omega
    · obtain rfl : k = st.length := by omega
      have hAll := hid (show st.all (stkIn hs ds) = true by rw [← hS.out]; exact all_end _ _ _ (by omega))
      go_wp2
      go_ret
      exact ⟨ret_bool (by rw [hu2.out, hAll.out]), hB⟩
end Go.Proofs.YtbbdchlabdilcabGreat
