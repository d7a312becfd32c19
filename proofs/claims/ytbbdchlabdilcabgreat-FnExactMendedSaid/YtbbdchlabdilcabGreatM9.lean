/- Chapter 7's model: the next frame. -/
import Derived.Test.YtbbdchlabdilcabGreatS7b
import Derived.Test.YtbbdchlabdilcabGreatM8
import Derived.Test.YtbbdchlabdilcabGreatM2
/- Chapter 7's model: Look, FrameOk, Held. -/
namespace Go.Proofs.YtbbdchlabdilcabGreat
set_option maxRecDepth 100000
open Go.RowKit Go.Proofs Go.Own
open Go Go.BigFrame
set_option linter.unusedVariables false
set_option linter.unusedSimpArgs false
set_option maxHeartbeats 8000000 in
theorem spec_FrameOk0 (hs : List Head) (ds : List DescD) (v0 v1 : Value) (f : Frame) (w : World) (h0 : rdsL w v0 hs) (h1 : rdsL w v1 ds) :
    Calls Tryz.prog 98 #[.agg #[v0, v1], .agg #[.int .i64 f.desc_, .int .i64 f.phase_, .int .i64 f.at_]] w fun e w' => e = .returned (.bool (frameOk hs ds f)) ∧ Below w.heap.size w w' := by
  have H0 := hid h0
  have H1 := hid h1
  obtain ⟨a0, cap0, rfl, hl0, hm0, -⟩ := rdsL_open h0
  obtain ⟨a1, cap1, rfl, hl1, hm1, hc1⟩ := rdsL_open h1
  clear h0 h1
  have hlen1 : ds.length ≤ 9223372036854775807 := by omega
  have DC := hid hc1
  clear hc1
  obtain ⟨fd, fp, fa⟩ := f
  have hu := hid (show frameOk hs ds ⟨fd, fp, fa⟩ = (storeOk hs ds && inB fd 0 ((ds.length : Int) - 1) && inB fp 0 5 && (if fp = 1 ∨ fp = 4 then inB fa 0 (((entsAt ds fd).length : Int) - 1) else decide (fa = 0))) from rfl)
  generalize frameOk hs ds ⟨fd, fp, fa⟩ = R at *
  obtain ⟨W1, hW1⟩ : ∃ X, (w.alloc (.cells #[Value.slice a0 hs.length cap0, Value.slice a1 ds.length cap1] 37)).alloc (.cells #[.int .i64 fd, .int .i64 fp, .int .i64 fa] 91) = X := ⟨_, rfl⟩
  have hB1 : Below w.heap.size w W1 := by rw [← hW1]; exact ((Below.refl _ _).alloc (Nat.le_refl _) _).alloc (by simp) _
  have hN : W1.heap.size = w.heap.size + 2 := by rw [← hW1]; simp
  have bp : BoxF W1 w.heap.size [Value.slice a0 hs.length cap0, Value.slice a1 ds.length cap1] := by
    rw [← hW1]
    exact (BoxF.alloc w #[Value.slice a0 hs.length cap0, Value.slice a1 ds.length cap1] 37).below ((Below.refl _ _).alloc (Nat.le_refl _) _)
  have br : BoxF W1 (w.heap.size + 1) [.int .i64 fd, .int .i64 fp, .int .i64 fa] := by
    rw [← hW1]
    have h1 := BoxF.alloc (w.alloc (.cells #[Value.slice a0 hs.length cap0, Value.slice a1 ds.length cap1] 37)) #[.int .i64 fd, .int .i64 fp, .int .i64 fa] 91
    rw [show (w.alloc (.cells #[Value.slice a0 hs.length cap0, Value.slice a1 ds.length cap1] 37)).heap.size = w.heap.size + 1 by simp] at h1
    exact h1
  have k0 : W1.cell? ⟨w.heap.size, 0, none⟩ = some (Value.slice a0 hs.length cap0) := bp.1.2 0 (by simp)
  have k1 : W1.cell? ⟨w.heap.size, 1, none⟩ = some (Value.slice a1 ds.length cap1) := bp.1.2 1 (by simp)
  have R0 := hid (rdsL.below H0.out hB1)
  have R1 := hid (rdsL.below H1.out hB1)
  clear H0 H1
  go_enter Tryz.func98, Tryz.ntmps98
  go_wp2_with fail
  try rw [hW1]
  clear hW1
  refine (spec_StoreOk0 hs ds _ _ _ R0.out R1.out).mono ?_
  rintro e w2 ⟨rfl, b2⟩
  have hB2 := hB1.trans (b2.mono hB1.size)
  have hN2 : w.heap.size + 1 < w2.heap.size := by have := b2.size; omega
  have hN20 : w.heap.size < w2.heap.size := by omega
  have l1 : w2.cell? ⟨w.heap.size, 1, none⟩ = some (Value.slice a1 ds.length cap1) := (bp.below b2).1.2 1 (by simp)
  have m0 : w2.cell? ⟨w.heap.size + 1, 0, none⟩ = some (.int .i64 fd) := (br.below b2).1.2 0 (by simp)
  have m1 : w2.cell? ⟨w.heap.size + 1, 1, none⟩ = some (.int .i64 fp) := (br.below b2).1.2 1 (by simp)
  have m2 : w2.cell? ⟨w.heap.size + 1, 2, none⟩ = some (.int .i64 fa) := (br.below b2).1.2 2 (by simp)
  clear R0 R1 bp br b2 k0 k1 hN
  cases hs0 : storeOk hs ds with
  | false =>
    go_wp2
    go_ret
    exact ⟨ret_bool (by rw [hu.out, hs0]; rfl), hB2⟩
  | true =>
  cases hb : inB fd 0 ((ds.length : Int) - 1) with
  | false =>
    go_wp2_with (go_at_call 36; refine (spec_l1In _ _ _ _).mono ?_; rintro e w' ⟨rfl, rfl⟩)
    go_ret
    exact ⟨ret_bool (by rw [hu.out, hs0, hb]; rfl), hB2⟩
  | true =>
  cases hp : inB fp 0 5 with
  | false =>
    go_wp2_with (go_at_call 36; refine (spec_l1In _ _ _ _).mono ?_; rintro e w' ⟨rfl, rfl⟩)
    go_ret
    exact ⟨ret_bool (by rw [hu.out, hs0, hb, hp]; rfl), hB2⟩
  | true =>
  have hu2 := hid (show R = (if fp = 1 ∨ fp = 4 then inB fa 0 (((entsAt ds fd).length : Int) - 1) else decide (fa = 0)) by rw [hu.out, hs0, hb, hp]; rfl)
  obtain ⟨hd1, hd2⟩ : 0 ≤ fd ∧ fd ≤ (ds.length : Int) - 1 := by simpa [inB] using hb
  obtain ⟨k, rfl⟩ := Int.eq_ofNat_of_zero_le hd1
  have hk : k < ds.length := by omega
  have hki : (k : Int) < (ds.length : Int) := by omega
  have hk0 : (0 : Int) ≤ (k : Int) := by omega
  clear hd1 hd2 hu
  by_cases hph : fp = 1 ∨ fp = 4
  · have HR := hid (show R = inB fa 0 ((ds[k].entries_.length : Int) - 1) by rw [hu2.out, if_pos hph, entsAt_eq hk])
    obtain ⟨bb, off, cs, rfl, hbs, ⟨v2, rfl, h2⟩, hcell⟩ := DC.out k hk
    obtain ⟨ea, ecap, rfl, hle, hlm⟩ := (rdsEntrys.1 h2).form
    have e2 := (hB2.cell (p := ⟨bb, off + k * 3 + 2, none⟩) hbs).trans (show w.cell? ⟨bb, off + k * 3 + 2, none⟩ = some _ from hcell 2 (show 2 < 3 by omega))
    have hlen2 : ds[k].entries_.length ≤ 9223372036854775807 := by omega
    have hb2 := Nat.lt_of_lt_of_le hbs hB2.size
    clear hcell h2 DC hu2
    rcases hph with rfl | rfl
    all_goals go_wp2_with (first | (go_at_call 36; refine (spec_l1In _ _ _ _).mono ?_; rintro e w' ⟨rfl, rfl⟩))
    all_goals (go_quiet ((go_at_call 36; exact quiet_eq (spec_l1In _ _ _ _))))
    all_goals go_wp2
    all_goals go_ret
    all_goals exact ⟨ret_bool (by rw [HR.out]), by first | exact below_drewN hB2 _ | exact hB2⟩
  · obtain ⟨hp1, hp4⟩ : (fp == 1) = false ∧ (fp == 4) = false := by constructor <;> (rw [beq_eq_false_iff_ne]; intro e; exact hph (by simp [e]))
    have HR := hid (show R = decide (fa = 0) by rw [hu2.out, if_neg hph])
    clear hph hu2
    go_wp2_with (first | (go_at_call 36; refine (spec_l1In _ _ _ _).mono ?_; rintro e w' ⟨rfl, rfl⟩))
    go_ret
    exact ⟨ret_bool (by rw [HR.out]; rfl), hB2⟩
theorem oneCell_1 (x : Int) : ∀ c ∈ [Value.int .i64 x], c.oneCell' = true := by intro c hc; simp at hc; subst hc; rfl
theorem encI_snoc (xs : List Int) (x : Int) : (xs ++ [x]).flatMap encI = xs.flatMap encI ++ [Value.int .i64 x] := by simp [encI]
set_option maxHeartbeats 8000000 in
theorem spec_Held0 (hs : List Head) (ds : List DescD) (v0 v1 : Value) (w : World) (hx0 : hs.length ≤ 1048576) (h0 : rdsL w v0 hs) (h1 : rdsL w v1 ds) :
    Calls Tryz.prog 40 #[.agg #[v0, v1]] w fun e w' => ∃ u : Value, e = .returned u ∧ w'.ownsRow w.heap.size 3 1 u (heldC hs ds).length ((heldC hs ds).flatMap encI) ∧ Below w.heap.size w w' := by
  obtain ⟨j0, hj, hy0, hy1, hy2⟩ := info_parts infoInt
  have H0 := hid h0
  have H1 := hid h1
  obtain ⟨a0, cap0, rfl, hl0, hm0, hc0⟩ := rdsL_open h0
  obtain ⟨a1, cap1, rfl, hl1, hm1, -⟩ := rdsL_open h1
  clear h0 h1
  have hlen0 : hs.length ≤ 9223372036854775807 := by omega
  have HC := hid hc0
  clear hc0
  obtain ⟨W1, hW1⟩ : ∃ X, (w.alloc (.cells #[Value.slice a0 hs.length cap0, Value.slice a1 ds.length cap1] 37)).alloc (.cells #[] 3) = X := ⟨_, rfl⟩
  have hB1 : Below w.heap.size w W1 := by rw [← hW1]; exact ((Below.refl _ _).alloc (Nat.le_refl _) _).alloc (by simp) _
  have hN : W1.heap.size = w.heap.size + 2 := by rw [← hW1]; simp
  have BP : Hid (BoxF W1 w.heap.size [Value.slice a0 hs.length cap0, Value.slice a1 ds.length cap1]) := by
    rw [← hW1]
    exact hid ((BoxF.alloc w #[Value.slice a0 hs.length cap0, Value.slice a1 ds.length cap1] 37).below ((Below.refl _ _).alloc (Nat.le_refl _) _))
  have O1 : Hid (W1.ownsRow (w.heap.size + 1) 3 1 (.slice (some ⟨w.heap.size + 1, 0, none⟩) 0 0) 0 []) := by
    rw [← hW1]
    have h1 := owns_litN (w.alloc (.cells #[Value.slice a0 hs.length cap0, Value.slice a1 ds.length cap1] 37)) 3 1 0 #[] (w.heap.size + 1) (by simp) rfl (Nat.zero_le _)
    rw [show (w.alloc (.cells #[Value.slice a0 hs.length cap0, Value.slice a1 ds.length cap1] 37)).heap.size = w.heap.size + 1 by simp] at h1
    exact hid h1
  go_enter Tryz.func40, Tryz.ntmps40
  go_wp2
  go_loopw [4, 3] (fun i u wr => ∃ (k : Nat) (ua : Option Addr) (um uc : Nat), k ≤ hs.length ∧ i = .int .i64 k ∧ u = Value.slice ua um uc ∧ (0 < k → storeOk hs ds = true) ∧ Below w.heap.size w wr ∧ w.heap.size + 1 ≤ wr.heap.size ∧ Hid (BoxF wr w.heap.size [Value.slice a0 hs.length cap0, Value.slice a1 ds.length cap1]) ∧ Hid (wr.ownsRow (w.heap.size + 1) 3 1 (Value.slice ua um uc) (heldTo hs k).length ((heldTo hs k).flatMap encI))) (fun i _ _ => hs.length - (intOf i).toNat)
  case atStart => exact ⟨0, _, _, _, by omega, rfl, rfl, fun h => by omega, hB1, by omega, BP, O1⟩
  case round =>
    clear hW1 hB1 hN BP O1
    clear W1
    obtain ⟨k, ua, um, uc, hk, rfl, rfl, hok, hB, hM, BP, O1⟩ := hrel
    have q0 : wr.cell? ⟨w.heap.size, 0, none⟩ = some (Value.slice a0 hs.length cap0) := BP.out.1.2 0 (by simp)
    have q1 : wr.cell? ⟨w.heap.size, 1, none⟩ = some (Value.slice a1 ds.length cap1) := BP.out.1.2 1 (by simp)
    have hlen9 := heldTo_len hs k
    by_cases hlt : k < hs.length
    · have R0 := hid (rdsL.below H0.out hB)
      have R1 := hid (rdsL.below H1.out hB)
      go_wp2_with fail
      refine (spec_StoreOk0 hs ds _ _ _ R0.out R1.out).mono ?_
      rintro e w2 ⟨rfl, b2⟩
      have hB2 := hB.trans (b2.mono hB.size)
      have hs2 := b2.size
      have BP2 := hid (BP.out.below b2)
      have l0 : w2.cell? ⟨w.heap.size, 0, none⟩ = some (Value.slice a0 hs.length cap0) := BP2.out.1.2 0 (by simp)
      have O2 := hid (owns_below O1.out b2)
      clear BP O1 R0 R1 q0 q1 H0 H1
      cases hs0 : storeOk hs ds with
      | false =>
        have hz : k = 0 := by
          rcases Nat.eq_zero_or_pos k with h | h
          · exact h
          · have h9 := hok h; rw [hs0] at h9; cases h9
        subst hz
        have Hn := hid (show heldC hs ds = heldTo hs 0 by unfold heldC; rw [hs0]; rfl)
        go_wp2
        go_ret
        exact ⟨_, rfl, by rw [Hn.out]; exact owns_mono O2.out (by omega), hB2⟩
      | true =>
        have Hs0 := hid hs0
        obtain ⟨bb, off, cs, rfl, hbs, rfl, hcell⟩ := HC.out k hlt
        have e2 := (hB2.cell (p := ⟨bb, off + k * 3 + 2, none⟩) hbs).trans (show w.cell? ⟨bb, off + k * 3 + 2, none⟩ = some (.int .i64 hs[k].desc_) from hcell 2 (show 2 < 3 by omega))
        clear hcell HC
        by_cases hd : 0 ≤ hs[k].desc_
        · have HS := hid (heldTo_yes hlt hd)
          obtain ⟨W3, hW3⟩ : ∃ X, w2.alloc (.cells #[.int .i64 (k : Int)] 3) = X := ⟨_, rfl⟩
          have b23 : Below w2.heap.size w2 W3 := by rw [← hW3]; exact (Below.refl _ _).alloc (Nat.le_refl _) _
          have hB3 := hB2.trans (b23.mono hB2.size)
          have hl3 : Flat W3 (.slice (some ⟨w2.heap.size, 0, none⟩) 1 1) 1 1 [.int .i64 (k : Int)] := by rw [← hW3]; exact Flat.of_owns (owns_litN w2 3 1 1 #[.int .i64 (k : Int)] 0 (Nat.zero_le _) rfl (by decide))
          have O3 := owns_below O2.out b23
          have hone := oneCell_1 (k : Int)
          have hs3 := hB3.size
          have hs3' : w.heap.size + 1 ≤ W3.heap.size := by have := b23.size; omega
          have BP3 := BP2.out.below b23
          go_wp2_with (at_builtin; refine wpList_append_flat rfl _ _ 22 rfl (w.heap.size + 1) 3 j0 (.int .i64 0) 1 8 Tryz.underlying22 hj hy0 hy1 hy2 rfl (by decide) _ _ _ rfl O3 _ _ _ rfl hl3 hone (by unfold maxLen; omega) (by omega) hs3' ?_)
          intro v4 w4 o4 g4
          obtain ⟨ya, ym, yc, rfl⟩ := owns_form3 o4
          have hB4 : Below w.heap.size w w4 := hB3.trans (below_grown g4 hB3.size fun b e => by have := (World.ownsRow.lt O3 b e).1; omega)
          have BP4 := hid (BP3.grown g4 (fun e => by have := (World.ownsRow.lt O3 _ e).1; omega))
          have O4 := hid o4
          have hs4 : w.heap.size + 1 ≤ w4.heap.size := by have := g4.size; omega
          clear o4 g4 O3 BP3 BP2 O2 hl3 hW3 b23 hone
          go_wp2
          go_roundw
          case rel => exact ⟨k+1, _, _, _, by omega, by go_num, rfl, fun _ => Hs0.out, hB4, hs4, BP4, hid (by rw [HS.out, encI_snoc, List.length_append]; exact O4.out)⟩
          case measure => simp [intOf]; omega
        · have HS := hid (heldTo_no hlt hd)
          go_wp2
          go_roundw
          case rel => exact ⟨k+1, _, _, _, by omega, by go_num, rfl, fun _ => Hs0.out, hB2, by omega, BP2, hid (by rw [HS.out]; exact O2.out)⟩
          case measure => simp [intOf]; omega
    · obtain rfl : k = hs.length := by omega
      have Hn : Hid (heldC hs ds = heldTo hs hs.length) := hid (by
        unfold heldC
        by_cases h : storeOk hs ds = true
        · rw [if_pos h]
        · rw [if_neg h]
          rcases Nat.eq_zero_or_pos hs.length with h9 | h9
          · rw [h9]; rfl
          · exact absurd (hok h9) h)
      go_wp2
      go_ret
      exact ⟨_, rfl, by rw [Hn.out]; exact owns_mono O1.out (by omega), hB⟩
end Go.Proofs.YtbbdchlabdilcabGreat
namespace Go.Proofs.YtbbdchlabdilcabGreat
set_option maxRecDepth 100000
open Go.RowKit Go.Proofs Go.Own
open Go Go.BigFrame
set_option linter.unusedVariables false
set_option linter.unusedSimpArgs false
set_option maxHeartbeats 8000000 in
theorem spec_l7Next0 (hs : List Head) (ds : List DescD) (v0 v1 : Value) (f : Frame) (b : Int) (w : World) (h0 : rdsL w v0 hs) (h1 : rdsL w v1 ds) (k : Nat) (hf : f.desc_ = k) (hk : k < ds.length) (ha : 0 ≤ f.at_ ∧ f.at_ ≤ 1048576) :
    Calls Tryz.prog 126 #[.agg #[v0, v1], .agg #[.int .i64 f.desc_, .int .i64 f.phase_, .int .i64 f.at_], .int .i64 b] w fun e w' => e = .returned (.agg #[.int .i64 (nextF ds f b).desc_, .int .i64 (nextF ds f b).phase_, .int .i64 (nextF ds f b).at_]) ∧ Below w.heap.size w w' := by
  obtain ⟨a0, cap0, rfl, hl0, hm0, -⟩ := rdsL_open h0
  obtain ⟨a1, cap1, rfl, hl1, hm1, hc1⟩ := rdsL_open h1
  clear h0 h1
  have hlen1 : ds.length ≤ 9223372036854775807 := by omega
  obtain ⟨fd, fp, fa⟩ := f
  simp only at hf ha ⊢
  subst hf
  have hki : (k : Int) < (ds.length : Int) := by omega
  have hk0 : (0 : Int) ≤ (k : Int) := by omega
  have hu := hid (show nextF ds ⟨(k : Int), fp, fa⟩ b = if fa + 1 < (ds[k].entries_.length : Int) then ⟨(k : Int), fp, fa + 1⟩ else ⟨(k : Int), b, 0⟩ by unfold nextF; rw [entsAt_eq hk])
  generalize nextF ds ⟨(k : Int), fp, fa⟩ b = R at *
  obtain ⟨bb, off, cs, rfl, hbs, ⟨v2, rfl, h2⟩, hcell⟩ := hc1 k hk
  obtain ⟨ea, ecap, rfl, hle, hlm⟩ := (rdsEntrys.1 h2).form
  have hlen2 : ds[k].entries_.length ≤ 9223372036854775807 := by omega
  obtain ⟨W1, hW1⟩ : ∃ X, ((w.alloc (.cells #[Value.slice a0 hs.length cap0, Value.slice (some ⟨bb, off, none⟩) ds.length cap1] 37)).alloc (.cells #[.int .i64 k, .int .i64 fp, .int .i64 fa] 91)).alloc (.cells #[.int .i64 0, .int .i64 0, .int .i64 0] 91) = X := ⟨_, rfl⟩
  have hB1 : Below w.heap.size w W1 := by rw [← hW1]; exact (((Below.refl _ _).alloc (Nat.le_refl _) _).alloc (by simp) _).alloc (by simp; omega) _
  have hN : W1.heap.size = w.heap.size + 3 := by rw [← hW1]; simp
  have k1 : W1.cell? ⟨w.heap.size, 1, none⟩ = some (Value.slice (some ⟨bb, off, none⟩) ds.length cap1) := by rw [← hW1]; simp [go_sem]
  have m0 : W1.cell? ⟨w.heap.size + 1, 0, none⟩ = some (.int .i64 (k : Int)) := by rw [← hW1]; simp [go_sem]
  have m1 : W1.cell? ⟨w.heap.size + 1, 1, none⟩ = some (.int .i64 fp) := by rw [← hW1]; simp [go_sem]
  have m2 : W1.cell? ⟨w.heap.size + 1, 2, none⟩ = some (.int .i64 fa) := by rw [← hW1]; simp [go_sem]
  have f2 : W1.frozen? ⟨w.heap.size + 1, 2, none⟩ = false := by rw [← hW1]; simp [go_sem]
  have n0 : W1.cell? ⟨w.heap.size + 1 + 1, 0, none⟩ = some (.int .i64 0) := by rw [← hW1]; simp [go_sem]
  have n1 : W1.cell? ⟨w.heap.size + 1 + 1, 1, none⟩ = some (.int .i64 0) := by rw [← hW1]; simp [go_sem]
  have n2 : W1.cell? ⟨w.heap.size + 1 + 1, 2, none⟩ = some (.int .i64 0) := by rw [← hW1]; simp [go_sem]
  have g0 : W1.frozen? ⟨w.heap.size + 1 + 1, 0, none⟩ = false := by rw [← hW1]; simp [go_sem]
  have g1 : W1.frozen? ⟨w.heap.size + 1 + 1, 1, none⟩ = false := by rw [← hW1]; simp [go_sem]
  have g2 : W1.frozen? ⟨w.heap.size + 1 + 1, 2, none⟩ = false := by rw [← hW1]; simp [go_sem]
  have e2 := (hB1.cell (p := ⟨bb, off + k * 3 + 2, none⟩) hbs).trans (show w.cell? ⟨bb, off + k * 3 + 2, none⟩ = some _ from hcell 2 (show 2 < 3 by omega))
  have hb2 := Nat.lt_of_lt_of_le hbs hB1.size
  clear hcell h2 hc1
  go_enter Tryz.func126, Tryz.ntmps126
  go_wp2_with fail
  go_quiet (fail)
  by_cases hlt : fa + 1 < (ds[k].entries_.length : Int)
  · have HR := hid (show R = ⟨(k : Int), fp, fa + 1⟩ by rw [hu.out, if_pos hlt])
    clear hu
    go_wp2
    refine bodyPost_ret (v := .agg #[.int .i64 (k : Int), .int .i64 fp, .int .i64 (fa + 1)]) ?_ rfl ⟨?_, ?_⟩
    · simp [results, Tryz.results126, go_sem, m0, m1, m2, n0, n1, n2, f2, g0, g1, g2]
    · rw [HR.out]
    · exact ((((below_drewN hB1 _).setCell (by show w.heap.size ≤ w.heap.size + 1; omega) _).setCell (by show w.heap.size ≤ w.heap.size + 1 + 1; omega) _).setCell (by show w.heap.size ≤ w.heap.size + 1 + 1; omega) _).setCell (by show w.heap.size ≤ w.heap.size + 1 + 1; omega) _
  · have HR := hid (show R = ⟨(k : Int), b, 0⟩ by rw [hu.out, if_neg hlt])
    clear hu
    go_wp2
    refine bodyPost_ret (v := .agg #[.int .i64 (k : Int), .int .i64 b, .int .i64 0]) ?_ rfl ⟨?_, ?_⟩
    · simp [results, Tryz.results126, go_sem, m0, m1, m2, n0, n1, n2, f2, g0, g1, g2]
    · rw [HR.out]
    · exact (((below_drewN hB1 _).setCell (by show w.heap.size ≤ w.heap.size + 1 + 1; omega) _).setCell (by show w.heap.size ≤ w.heap.size + 1 + 1; omega) _).setCell (by show w.heap.size ≤ w.heap.size + 1 + 1; omega) _
end Go.Proofs.YtbbdchlabdilcabGreat
/- Chapter 7's model: NewStore. -/
namespace Go.Proofs.YtbbdchlabdilcabGreat
set_option maxRecDepth 100000
open Go.RowKit Go.Proofs Go.Own
open Go Go.BigFrame
set_option linter.unusedVariables false
set_option linter.unusedSimpArgs false
theorem spec_l1All (v : Value) (xs : List Int) (a b : Int) (w : World) (h : Ints w v xs) :
    Calls Tryz.prog 35 #[v, .int .i64 a, .int .i64 b] w fun e w' => e = .returned (.bool (allIn xs a b 0)) ∧ w = w' := by
  obtain ⟨ad, cap, rfl, hl, hm, hc⟩ := h.open
  have hlen : xs.length ≤ 9223372036854775807 := by omega
  go_enter Tryz.func35, Tryz.ntmps35
  go_wp2
  go_loop [7] (fun i => ∃ k : Nat, k ≤ xs.length ∧ i = .int .i64 k ∧ Same (allIn xs a b 0) (allIn xs a b k)) (fun i => xs.length - (intOf i).toNat)
  case atStart => exact ⟨0, by omega, rfl, .rfl⟩
  case round =>
    obtain ⟨k, hk, rfl, hall⟩ := hrel
    by_cases hlt : k < xs.length
    · obtain ⟨bb, off, rfl, hbs, hcell⟩ := hc k hlt
      have hst := hid (allIn_step xs a b k hlt)
      clear hc
      go_wp2_with (go_at_call 36; refine (spec_l1In _ _ _ _).mono ?_; rintro e w' ⟨rfl, rfl⟩)
      · have hf : (!inB xs[k] a b) = true := by assumption
        go_ret
        exact ⟨ret_bool (by rw [hall.out, hst.out]; simp at hf; simp [hf]), rfl⟩
      · have hf : (!inB xs[k] a b) = false := by assumption
        go_round
        case rel => exact ⟨k+1, by omega, by go_num, .mk (by rw [hall.out, hst.out]; simp at hf; simp [hf])⟩
        case measure => simp [intOf]; omega
    · have hst := hid (allIn_end xs a b k hlt)
      go_wp2
      go_ret
      exact ⟨ret_bool (by rw [hall.out, hst.out]), rfl⟩

theorem BoxF.lower {X w : World} {b M : Nat} {cs : List Value} (h : BoxF X b cs) (hb : Below M X w) (hM : b < M) : BoxF w b cs :=
  ⟨⟨Nat.lt_of_lt_of_le h.1.1 hb.size, fun j hj => (hb.cell (p := ⟨b, j, none⟩) hM).trans (h.1.2 j hj)⟩, fun j hj => (hb.frozen (p := ⟨b, j, none⟩) hM).trans (h.2 j hj)⟩
theorem enc_mk (xs : List Int) (k : Nat) (h : k < xs.length) : ((xs.take (k+1)).map mkHd).flatMap Head.enc = ((xs.take k).map mkHd).flatMap Head.enc ++ Head.enc (mkHd xs[k]) := by
  rw [← List.take_append_getElem h, List.map_append, List.flatMap_append]; simp
end Go.Proofs.YtbbdchlabdilcabGreat
/- Chapter 7's program: versions, objects, numbers of descriptors. -/
namespace Go.Proofs.YtbbdchlabdilcabGreat
set_option maxRecDepth 100000
open Go.RowKit Go.Proofs Go.Own
open Go Go.BigFrame Go.Shelf
set_option linter.unusedVariables false
set_option linter.unusedSimpArgs false
theorem impl_isVersion (x : Int) (w : World) :
    Calls Tryz.prog 84 #[.int .i64 x] w fun e w' => e = .returned (.bool (inB x 0 1000000)) ∧ w = w' := by
  go_enter Tryz.func84, Tryz.ntmps84
  go_wp2
  all_goals go_ret
  all_goals (simp [inB, *]; try omega)
def isIn (n : Nat) (o : Int) : Bool := decide (0 ≤ o) && decide (o < (n : Int))
theorem impl_isObject (a0 : Option Addr) (n c0 : Nat) (a1 : Option Addr) (m c1 : Nat) (o : Int) (w : World) (hn : n ≤ 9223372036854775807) :
    Calls Tryz.prog 110 #[.agg #[.slice a0 n c0, .slice a1 m c1], .int .i64 o] w fun e w' => e = .returned (.bool (isIn n o)) ∧ Below w.heap.size w w' := by
  have hB := hid (show Below w.heap.size w (w.alloc (.cells #[.slice a0 n c0, .slice a1 m c1] 37)) from (Below.refl _ _).alloc (Nat.le_refl _) _)
  by_cases h0 : 0 ≤ o
  · by_cases h1 : o < (n : Int)
    · have he := hid (show isIn n o = true by unfold isIn; rw [decide_eq_true h0, decide_eq_true h1]; rfl)
      go_enter Tryz.func110, Tryz.ntmps110
      go_wp2
      go_ret
      exact ⟨ret_bool he.out.symm, hB.out⟩
    · have he := hid (show isIn n o = false by unfold isIn; rw [decide_eq_false h1, Bool.and_false])
      go_enter Tryz.func110, Tryz.ntmps110
      go_wp2
      go_ret
      exact ⟨ret_bool he.out.symm, hB.out⟩
  · have he := hid (show isIn n o = false by unfold isIn; rw [decide_eq_false h0]; rfl)
    go_enter Tryz.func110, Tryz.ntmps110
    go_wp2
    go_ret
    exact ⟨ret_bool he.out.symm, hB.out⟩
theorem impl_isDesc (a0 : Option Addr) (n c0 : Nat) (a1 : Option Addr) (m c1 : Nat) (o : Int) (w : World) (hn : m ≤ 9223372036854775807) :
    Calls Tryz.prog 111 #[.agg #[.slice a0 n c0, .slice a1 m c1], .int .i64 o] w fun e w' => e = .returned (.bool (isIn m o)) ∧ Below w.heap.size w w' := by
  have hB := hid (show Below w.heap.size w (w.alloc (.cells #[.slice a0 n c0, .slice a1 m c1] 37)) from (Below.refl _ _).alloc (Nat.le_refl _) _)
  by_cases h0 : 0 ≤ o
  · by_cases h1 : o < (m : Int)
    · have he := hid (show isIn m o = true by unfold isIn; rw [decide_eq_true h0, decide_eq_true h1]; rfl)
      go_enter Tryz.func111, Tryz.ntmps111
      go_wp2
      go_ret
      exact ⟨ret_bool he.out.symm, hB.out⟩
    · have he := hid (show isIn m o = false by unfold isIn; rw [decide_eq_false h1, Bool.and_false])
      go_enter Tryz.func111, Tryz.ntmps111
      go_wp2
      go_ret
      exact ⟨ret_bool he.out.symm, hB.out⟩
  · have he := hid (show isIn m o = false by unfold isIn; rw [decide_eq_false h0]; rfl)
    go_enter Tryz.func111, Tryz.ntmps111
    go_wp2
    go_ret
    exact ⟨ret_bool he.out.symm, hB.out⟩
theorem impl_isObjectIs (a0 : Option Addr) (n c0 : Nat) (a1 : Option Addr) (m c1 : Nat) (o : Int) (r : Bool) (w : World) (hn : n ≤ 9223372036854775807) (hr : isIn n o = r) :
    Calls Tryz.prog 110 #[.agg #[.slice a0 n c0, .slice a1 m c1], .int .i64 o] w fun e w' => e = .returned (.bool r) ∧ Below w.heap.size w w' := by
  subst hr; exact impl_isObject a0 n c0 a1 m c1 o w hn
theorem impl_isDescIs (a0 : Option Addr) (n c0 : Nat) (a1 : Option Addr) (m c1 : Nat) (o : Int) (r : Bool) (w : World) (hn : m ≤ 9223372036854775807) (hr : isIn m o = r) :
    Calls Tryz.prog 111 #[.agg #[.slice a0 n c0, .slice a1 m c1], .int .i64 o] w fun e w' => e = .returned (.bool r) ∧ Below w.heap.size w w' := by
  subst hr; exact impl_isDesc a0 n c0 a1 m c1 o w hn
set_option maxHeartbeats 4000000 in
theorem impl_hasObjectsOf (a0 : Option Addr) (n c0 : Nat) (a1 : Option Addr) (m c1 : Nat) (ow st : Int) (v : Value) (xs : List Entry) (w : World) (hn : n ≤ 9223372036854775807) (h : Entrys w v xs) :
    Calls Tryz.prog 82 #[.agg #[.slice a0 n c0, .slice a1 m c1], .agg #[.int .i64 ow, .int .i64 st, v]] w fun e w' => e = .returned (.bool (xs.all (objIn n))) ∧ Below w.heap.size w w' := by
  obtain ⟨ad, cap, rfl, hl, hm, hc⟩ := h.open
  clear h
  have hlen : xs.length ≤ 9223372036854775807 := by omega
  have HC := hid hc
  clear hc
  obtain ⟨W1, hW1⟩ : ∃ X, (w.alloc (.cells #[Value.slice a0 n c0, Value.slice a1 m c1] 37)).alloc (.cells #[.int .i64 ow, .int .i64 st, Value.slice ad xs.length cap] 85) = X := ⟨_, rfl⟩
  have hB1 : Below w.heap.size w W1 := by rw [← hW1]; exact ((Below.refl _ _).alloc (Nat.le_refl _) _).alloc (by simp) _
  have hN : w.heap.size + 2 = W1.heap.size := by rw [← hW1]; simp
  have k0 : W1.cell? ⟨w.heap.size, 0, none⟩ = some (Value.slice a0 n c0) := by rw [← hW1]; simp [go_sem]
  have k1 : W1.cell? ⟨w.heap.size, 1, none⟩ = some (Value.slice a1 m c1) := by rw [← hW1]; simp [go_sem]
  have k2 : W1.cell? ⟨w.heap.size + 1, 2, none⟩ = some (Value.slice ad xs.length cap) := by rw [← hW1]; simp [go_sem]
  go_enter Tryz.func82, Tryz.ntmps82
  go_wp2
  clear hW1
  go_loopw [10] (fun i wr => ∃ k : Nat, k ≤ xs.length ∧ i = .int .i64 k ∧ Same ((xs.drop k).all (objIn n)) (xs.all (objIn n)) ∧ Below W1.heap.size W1 wr) (fun i _ => xs.length - (intOf i).toNat)
  case atStart => exact ⟨0, by omega, rfl, .rfl, Below.refl _ _⟩
  case round =>
    obtain ⟨k, hk, rfl, hS, hB⟩ := hrel
    have hBr : Below w.heap.size w wr := hB1.trans (hB.mono hB1.size)
    have q0 := (hB.cell (p := ⟨w.heap.size, 0, none⟩) (by show w.heap.size < _; omega)).trans k0
    have q1 := (hB.cell (p := ⟨w.heap.size, 1, none⟩) (by show w.heap.size < _; omega)).trans k1
    have hNr : w.heap.size < wr.heap.size := Nat.lt_of_lt_of_le (show w.heap.size < W1.heap.size by omega) hB.size
    clear k0 k1 k2
    by_cases hlt : k < xs.length
    · obtain ⟨bb, off, rfl, hbs, c0, c1, c2, c3, c4⟩ := HC.out k hlt
      obtain ⟨e0, e1, e2, e3, e4⟩ := cells5 hBr hbs c0 c1 c2 c3 c4
      have hst := hid (all_step (objIn n) xs k hlt)
      have hob := hid (show objIn n xs[k] = isIn n xs[k].object_ from rfl)
      clear c0 c1 c2 c3 c4 HC
      go_wp2_with fail
      refine (impl_isObject a0 n c0 a1 m c1 _ _ hn).mono ?_
      rintro e w2 ⟨rfl, b2⟩
      have hB2 : Below wr.heap.size wr w2 := ((Below.refl _ _).alloc (Nat.le_refl _) _).trans (b2.mono (by simp))
      have hBW := hB.trans (hB2.mono hB.size)
      have hBw := hBr.trans (hB2.mono hBr.size)
      cases hq : isIn n xs[k].object_ with
      | false =>
        have Hn := hid (show xs.all (objIn n) = false by rw [← hS.out, hst.out, hob.out, hq]; rfl)
        go_wp2
        go_ret
        exact ⟨ret_bool Hn.out.symm, hBw⟩
      | true =>
        have Hn := hid (show (xs.drop (k+1)).all (objIn n) = xs.all (objIn n) by rw [← hS.out, hst.out, hob.out, hq]; rfl)
        go_wp2
        go_roundw
        case rel => exact ⟨k+1, by omega, by go_num, Same.mk Hn.out, hBW⟩
        case measure => simp [intOf]; omega
    · have Hn := hid (show xs.all (objIn n) = true by rw [← hS.out, all_end _ _ _ hlt])
      go_wp2
      go_ret
      exact ⟨ret_bool Hn.out.symm, hBr⟩
end Go.Proofs.YtbbdchlabdilcabGreat
