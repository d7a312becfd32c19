/- Chapter 8's model: a stack copied; StackOk. -/
import Derived.Test.YtikiaffgjpddeaaM3
import Derived.Test.YtikiaffgjpddeaaF8
import Derived.Test.YtikiaffgjpddeaaN8o
namespace Go.Proofs.Ytikiaffgjpddeaa
set_option maxRecDepth 100000
open Go.RowKit Go.Proofs Go.Own
open Go Go.BigFrame
set_option linter.unusedVariables false
set_option linter.unusedSimpArgs false
theorem oneCell_F (xs : List Frame) : ∀ c ∈ xs.flatMap Frame.enc, c.oneCell' = true := oneCell_enc (f := Frame.enc) (by intro x c hc; simp [Frame.enc] at hc; rcases hc with rfl | rfl | rfl <;> rfl) xs
set_option maxHeartbeats 8000000 in
theorem spec_StackOk0 (hs : List Head) (ds : List DescD) (st : List Frame) (v0 v1 v2 : Value) (w : World) (h0 : rdsL w v0 hs) (h1 : rdsL w v1 ds) (h2 : rdsL w v2 st) :
    Calls Try.prog 28 #[.agg #[v0, v1], v2] w fun e w' => e = .returned (.bool (stackOk hs ds st)) ∧ Below w.heap.size w w' := by
  have H0 := hid h0
  have H1 := hid h1
  obtain ⟨a0, cap0, rfl, hl0, hm0, -⟩ := rdsL_open h0
  obtain ⟨a1, cap1, rfl, hl1, hm1, -⟩ := rdsL_open h1
  obtain ⟨a2, cap2, rfl, hl2, hm2, hc2⟩ := rdsL_open h2
  have HC := hid hc2
  clear h0 h1 h2 hc2
  have hlen2 : st.length ≤ 9223372036854775807 := by omega
  obtain ⟨W1, hW1⟩ : ∃ X, w.alloc (.cells #[Value.slice a0 hs.length cap0, Value.slice a1 ds.length cap1] 38) = X := ⟨_, rfl⟩
  have hB1 : Below w.heap.size w W1 := by rw [← hW1]; exact (Below.refl _ _).alloc (Nat.le_refl _) _
  have BP : Hid (BoxF W1 w.heap.size [Value.slice a0 hs.length cap0, Value.slice a1 ds.length cap1]) := by rw [← hW1]; exact hid (BoxF.alloc w #[Value.slice a0 hs.length cap0, Value.slice a1 ds.length cap1] 38)
  go_enter Try.func28, Try.ntmps28
  go_wp2
  go_loopw [5] (fun i wr => ∃ k : Nat, k ≤ st.length ∧ i = .int .i64 k ∧ Same ((st.drop k).all (stkIn hs ds)) (st.all (stkIn hs ds)) ∧ Below w.heap.size w wr ∧ Hid (BoxF wr w.heap.size [Value.slice a0 hs.length cap0, Value.slice a1 ds.length cap1])) (fun i _ => st.length - (intOf i).toNat)
  case atStart => exact ⟨0, by omega, rfl, .rfl, hB1, BP⟩
  case round =>
    clear hW1 hB1 BP
    clear W1
    obtain ⟨k, hk, rfl, hS, hB, BP⟩ := hrel
    by_cases hlt : k < st.length
    · have hst := hid (all_step (stkIn hs ds) st k hlt)
      obtain ⟨bb, off, cs, rfl, hbs, rfl, hcell⟩ := HC.out k hlt
      have hbr := Nat.lt_of_lt_of_le hbs hB.size
      have y0 := Ext.cell hbr ((hB.cell (p := ⟨bb, off + k * 3, none⟩) hbs).trans (show w.cell? ⟨bb, off + k * 3, none⟩ = some (.int .i64 st[k].desc_) from hcell 0 (show 0 < 3 by omega)))
      have y1 := Ext.cell hbr ((hB.cell (p := ⟨bb, off + k * 3 + 1, none⟩) hbs).trans (show w.cell? ⟨bb, off + k * 3 + 1, none⟩ = some (.int .i64 st[k].phase_) from hcell 1 (show 1 < 3 by omega)))
      have y2 := Ext.cell hbr ((hB.cell (p := ⟨bb, off + k * 3 + 2, none⟩) hbs).trans (show w.cell? ⟨bb, off + k * 3 + 2, none⟩ = some (.int .i64 st[k].at_) from hcell 2 (show 2 < 3 by omega)))
      have x0 := Ext.cell BP.out.1.1 (show wr.cell? ⟨w.heap.size, 0, none⟩ = some (Value.slice a0 hs.length cap0) from BP.out.1.2 0 (by simp))
      have x1 := Ext.cell BP.out.1.1 (show wr.cell? ⟨w.heap.size, 1, none⟩ = some (Value.slice a1 ds.length cap1) from BP.out.1.2 1 (by simp))
      have HR0 := hid (rdsL.below H0.out hB)
      have HR1 := hid (rdsL.below H1.out hB)
      have hki : (k : Int) < (st.length : Int) := by omega
      have hk0 : (0 : Int) ≤ (k : Int) := by omega
      clear hcell HC H0 H1
      by_cases hp : st[k].phase_ = 5
      · have hp' : (st[k].phase_ == 5) = true := by rw [beq_iff_eq]; exact hp
        have hn : Hid (stkIn hs ds st[k] = false) := hid (by unfold stkIn; rw [decide_eq_true hp]; rfl)
        clear hp
        go_wp2_with fail
        refine wp_region_ext wr (Below.refl _ _) (by kernel_rfl) (by kernel_rfl) ?_
        repeat (go_big_quiet_step (fail))
        refine wpQuiet_nil ?_; rintro _ ⟨E, rfl⟩
        have hBE := hid (hB.trans (E.h.mono hB.size))
        clear x0 x1 y0 y1 y2
        go_wp2
        go_ret
        exact ⟨ret_bool (by unfold stackOk; rw [← hS.out, hst.out, hn.out, Bool.false_and, Bool.and_false]), hBE.out⟩
      · have hp' : (st[k].phase_ == 5) = false := by rw [beq_eq_false_iff_ne]; exact hp
        have hn : Hid (stkIn hs ds st[k] = frameOk hs ds st[k]) := hid (by unfold stkIn; rw [decide_eq_false hp]; rfl)
        clear hp
        obtain ⟨FB, hFB⟩ : ∃ FB, Hid (frameOk hs ds st[k] = FB) := ⟨_, hid rfl⟩
        have hFo := hFB.out
        go_wp2_with fail
        refine wp_region_ext wr (Below.refl _ _) (by kernel_rfl) (by kernel_rfl) ?_
        repeat (go_big_quiet_step (first | (go_at_call 60; exact call_ext _ (spec_FrameOk0 hs ds _ _ st[k] _ (rdsL.below HR0.out (Ext.h _)) (rdsL.below HR1.out (Ext.h _))))))
        refine wpQuiet_nil ?_; rintro _ ⟨E, rfl⟩
        have hBE := hid (hB.trans (E.h.mono hB.size))
        have BPE := hid (BP.out.below E.h)
        have hBE2 := hBE.out
        clear x0 x1 y0 y1 y2 hFo HR0 HR1 BP hB
        cases FB with
        | false =>
          go_wp2
          go_ret
          exact ⟨ret_bool (by unfold stackOk; rw [← hS.out, hst.out, hn.out, hFB.out, Bool.false_and, Bool.and_false]), hBE.out⟩
        | true =>
          clear hBE2
          go_wp2
          go_roundw
          case rel => exact ⟨k+1, by omega, by go_num, Same.mk (by rw [← hS.out, hst.out, hn.out, hFB.out, Bool.true_and]), hBE.out, BPE⟩
          case measure => simp [intOf]; omega
    · obtain rfl : k = st.length := by omega
      have hAll := hid (show st.all (stkIn hs ds) = true by rw [← hS.out]; exact all_end _ _ _ (by omega))
      have hu := hid (show stackOk hs ds st = (storeOk hs ds && decide (st.length ≤ 130)) by unfold stackOk; rw [hAll.out, Bool.and_true])
      have x0 : wr.cell? ⟨w.heap.size, 0, none⟩ = some (Value.slice a0 hs.length cap0) := BP.out.1.2 0 (by simp)
      have x1 : wr.cell? ⟨w.heap.size, 1, none⟩ = some (Value.slice a1 ds.length cap1) := BP.out.1.2 1 (by simp)
      have R0 := hid (rdsL.below H0.out hB)
      have R1 := hid (rdsL.below H1.out hB)
      go_wp2_with fail
      refine (spec_StoreOk0 hs ds _ _ _ R0.out R1.out).mono ?_
      rintro e w2 ⟨rfl, b2⟩
      have hB2 := hB.trans (b2.mono hB.size)
      cases hso : storeOk hs ds with
      | false =>
        go_wp2
        go_ret
        exact ⟨ret_bool (by rw [hu.out, hso]; rfl), hB2⟩
      | true =>
        go_wp2
        go_ret
        exact ⟨ret_bool (by rw [hu.out, hso, Bool.true_and]; exact decide_eq_decide.2 (by omega)), hB2⟩
end Go.Proofs.Ytikiaffgjpddeaa
