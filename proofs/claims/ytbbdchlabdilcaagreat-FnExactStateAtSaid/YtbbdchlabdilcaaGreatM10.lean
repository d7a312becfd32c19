/- Chapter 12's model: a state. (printed by tools/mk_s12.py) -/
import Derived.Test.YtbbdchlabdilcaaGreatM6
import Derived.Test.YtbbdchlabdilcaaGreatM9
import Derived.StillTailTactics
import Derived.Test.YtbbdchlabdilcaaGreatS7d
import Derived.Test.YtbbdchlabdilcaaGreatF8
import Derived.Test.YtbbdchlabdilcaaGreatN8o
namespace Go.Proofs.YtbbdchlabdilcaaGreat
set_option maxRecDepth 100000
open Go.RowKit Go.Proofs Go.Own
open Go Go.BigFrame
set_option linter.unusedVariables false
set_option linter.unusedSimpArgs false
set_option maxHeartbeats 16000000 in
theorem spec_l12State0 (d : WorldD) (p : Nat) (v0 v1 v2 v3 v4 : Value) (w : World) (h0 : rdsL w v0 d.first_) (h1 : rdsL w v1 d.store_.heads_) (h2 : rdsL w v2 d.store_.descs_) (h3 : rdsL w v3 d.threads_) (h4 : rdsL w v4 d.log_) (hok : worldOk d = true) (hp : p ≤ d.log_.length) :
    Calls Tryz.prog 130 #[.agg #[v0, v1, v2, v3, v4], .int .i64 (p : Int)] w fun e w' => ∃ u : Value, e = .returned u ∧ w'.ownsRow w.heap.size 3 1 u d.first_.length ((stateN d.first_ d.store_.descs_ d.log_ p).flatMap encI) ∧ Below w.heap.size w w' := by
  obtain ⟨fs, ⟨hs, ds⟩, ts, lg⟩ := d
  dsimp only at h0 h1 h2 h3 h4 hp ⊢
  obtain ⟨a0, cap0, rfl, hl0, hm0, -⟩ := rdsL_open h0
  obtain ⟨a1, cap1, rfl, hl1, hm1, -⟩ := rdsL_open h1
  obtain ⟨a2, cap2, rfl, hl2, hm2, hc2⟩ := rdsL_open h2
  obtain ⟨a3, cap3, rfl, hl3, hm3, hc3⟩ := rdsL_open h3
  obtain ⟨a4, cap4, rfl, hl4, hm4, hc4⟩ := rdsL_open h4
  have HC2 := hid hc2
  have HC3 := hid hc3
  have HC4 := hid hc4
  have hlf : fs.length ≤ 9223372036854775807 := by omega
  have hlh : hs.length ≤ 9223372036854775807 := by omega
  have hld : ds.length ≤ 9223372036854775807 := by omega
  have hlt_ : ts.length ≤ 9223372036854775807 := by omega
  have hll : lg.length ≤ 9223372036854775807 := by omega
  have R0 := hid h0
  have R1 := hid h1
  have R2 := hid h2
  have R3 := hid h3
  have R4 := hid h4
  have hev := hid (worldOk_ev hok)
  have hfi := And.intro (worldOk_first hok).1 (worldOk_first hok).2.1
  have hen := hid (worldOk_ents hok)
  dsimp only at hfi hev hen
  clear h0 h1 h2 h3 h4 hc2 hc3 hc4 hok
  obtain ⟨W1, hW1⟩ : ∃ X, w.alloc (.cells #[Value.slice a0 fs.length cap0, Value.slice a1 hs.length cap1, Value.slice a2 ds.length cap2, Value.slice a3 ts.length cap3, Value.slice a4 lg.length cap4] 32) = X := ⟨_, rfl⟩
  have hB1 : Below w.heap.size w W1 := by rw [← hW1]; exact (Below.refl _ _).alloc (Nat.le_refl _) _
  have bw : Box W1 w.heap.size [Value.slice a0 fs.length cap0, Value.slice a1 hs.length cap1, Value.slice a2 ds.length cap2, Value.slice a3 ts.length cap3, Value.slice a4 lg.length cap4] := by rw [← hW1]; exact Box.alloc _ _ _
  have hN := bw.1
  have k0 : W1.cell? ⟨w.heap.size, 0, none⟩ = some (Value.slice a0 fs.length cap0) := bw.2 0 (by simp)
  have HW1 := hid hW1
  have BW := hid bw
  clear hW1
  go_enter Tryz.func130, Tryz.ntmps130
  go_wp2_with fail
  rw [HW1.out]
  refine (spec_l1Copy _ fs _ (rdsInts.1 (rdsL.below R0.out hB1)) (by omega)).mono ?_
  rintro e w2 ⟨u, rfl, hO, b2⟩
  have B2 := hB1.trans (b2.mono hB1.size)
  obtain ⟨g, gc, rfl, hgc1, hgc2, hg1, hg2, -, -⟩ := owns_at hO (by omega)
  have bw2 := bw.below b2
  have hsz1 : W1.heap.size = w.heap.size + 1 := by rw [← HW1.out]; simp
  have HO0 := hid (show w2.ownsRow W1.heap.size 3 1 (.slice (some ⟨g, 0, none⟩) fs.length gc) fs.length ((stateN fs ds lg 0).flatMap encI) from hO)
  have BW2 := hid bw2
  clear hO k0 bw bw2 HW1
  go_wp2
  go_loopw [6] (fun i wr => ∃ k : Nat, k ≤ p ∧ i = .int .i64 k ∧ Hid (wr.ownsRow W1.heap.size 3 1 (.slice (some ⟨g, 0, none⟩) fs.length gc) fs.length ((stateN fs ds lg k).flatMap encI)) ∧ Hid (ChgS (fun b => b = g) w2 wr)) (fun i _ => p - (intOf i).toNat)
  case atStart => exact ⟨0, by omega, rfl, HO0, hid (ChgS.refl _ _)⟩
  case round =>
    clear HO0
    obtain ⟨k, hk, rfl, HO, HC⟩ := hrel
    have hBr := below_chg B2 HC.out B2.size (fun b hb => by omega)
    have HB := hid hBr
    have bwr := BW2.out.chg HC.out (by omega)
    have q2 : wr.cell? ⟨w.heap.size, 2, none⟩ = some (Value.slice a2 ds.length cap2) := bwr.2 2 (by simp)
    have q4 : wr.cell? ⟨w.heap.size, 4, none⟩ = some (Value.slice a4 lg.length cap4) := bwr.2 4 (by simp)
    clear bwr
    by_cases hlt : k < p
    · have hkl : k < lg.length := by omega
      obtain ⟨bb, off, cs, rfl, hbs, hel, hcell⟩ := HC4.out k hkl
      have hel : cs = Event.enc lg[k] := hel
      subst hel
      have c0 : w.cell? ⟨bb, off + k * 4, none⟩ = some (.int .i64 lg[k].kind_) := hcell 0 (show 0 < 4 by omega)
      have c2 : w.cell? ⟨bb, off + k * 4 + 2, none⟩ = some (.int .i64 lg[k].object_) := hcell 2 (show 2 < 4 by omega)
      have e0 := (hBr.cell (p := ⟨bb, off + k * 4, none⟩) hbs).trans c0
      have e2 := (hBr.cell (p := ⟨bb, off + k * 4 + 2, none⟩) hbs).trans c2
      have hki : (k : Int) < (lg.length : Int) := by omega
      have hkp : (k : Int) < (p : Int) := by omega
      have hk0 : (0 : Int) ≤ (k : Int) := by omega
      by_cases hk3 : lg[k].kind_ = 3
      · have hco := evOk_com (hev.out k hkl) hk3
        have Hs := hid (stateN_com (fs := fs) (ds := ds) hkl hk3)
        obtain ⟨n, hn⟩ := Int.eq_ofNat_of_zero_le hco.1
        rw [hn] at e2 hco Hs
        rw [hk3] at e0
        have hnl : n < ds.length := by omega
        rw [entsAt_eq hnl] at Hs
        obtain ⟨b2_, of2, cs2, rfl, hbs2, ⟨u2, rfl, r2⟩, hcell2⟩ := HC2.out n hnl
        have d0 : w.cell? ⟨b2_, of2 + n * 3, none⟩ = some (.int .i64 ds[n].owner_) := hcell2 0 (show 0 < 3 by omega)
        have d1 : w.cell? ⟨b2_, of2 + n * 3 + 1, none⟩ = some (.int .i64 ds[n].status_) := hcell2 1 (show 1 < 3 by omega)
        have d2 : w.cell? ⟨b2_, of2 + n * 3 + 2, none⟩ = some u2 := hcell2 2 (show 2 < 3 by omega)
        have f0 := (hBr.cell (p := ⟨b2_, of2 + n * 3, none⟩) hbs2).trans d0
        have f1 := (hBr.cell (p := ⟨b2_, of2 + n * 3 + 1, none⟩) hbs2).trans d1
        have f2 := (hBr.cell (p := ⟨b2_, of2 + n * 3 + 2, none⟩) hbs2).trans d2
        have hn0 : (0 : Int) ≤ (n : Int) := by omega
        have hni : (n : Int) < (ds.length : Int) := by omega
        have HEN := hid (hen.out n hnl)
        have hstl := hid (stateN_len fs ds lg k)
        have hrow := HO.out
        have HR2 := hid r2
        have HROW := hid hrow
        obtain ⟨ua, uc, rfl, -, -, -⟩ := rdsL_open r2
        have hg0 : w.heap.size ≤ g := by omega
        clear c0 c2 hcell d0 d1 d2 hcell2 HC2 HC4 r2 hn hco hrow
        go_wp2
        go_still_tail 12, (by kernel_rfl)
        go_wp2_with fail
        refine (spec_l12Do0 (stateN fs ds lg k) ds[n].owner_ ds[n].status_ ds[n].entries_ fs.length hstl.out W1.heap.size g gc _ w _ (hBr.drew) hg0 HR2.out (owns_below HROW.out (Below.refl _ _).drew) (fun i hi => HEN.out i hi) (by omega)).mono ?_
        rintro e w5 ⟨rfl, o5, C5⟩
        have HO5 := hid (show w5.ownsRow W1.heap.size 3 1 (.slice (some ⟨g, 0, none⟩) fs.length gc) fs.length ((stateN fs ds lg (k+1)).flatMap encI) by rw [Hs.out]; exact o5)
        have HC5 := hid (show ChgS (fun b => b = g) w2 w5 from (HC.out.trans (ChgS.of_below (Below.refl _ _).drew _)).trans C5)
        clear HO HROW Hs o5 C5 e0 e2 f0 f1 f2
        go_wp2
        go_roundw
        case rel => exact ⟨k+1, by omega, by go_num, HO5, HC5⟩
        case measure => simp [intOf]; omega
      · have Hs := hid (stateN_not (fs := fs) (ds := ds) hkl hk3)
        generalize lg[k].kind_ = kd at *
        clear c0 c2 hcell e2
        go_wp2
        go_roundw
        case rel => exact ⟨k+1, by omega, by go_num, hid (by rw [Hs.out]; exact HO.out), HC⟩
        case measure => simp [intOf]; omega
    · obtain rfl : k = p := by omega
      go_wp2
      go_ret
      exact ⟨_, rfl, owns_mono HO.out (by omega), HB.out⟩
end Go.Proofs.YtbbdchlabdilcaaGreat
/- Chapter 8's model: a stack copied; StackOk. -/
namespace Go.Proofs.YtbbdchlabdilcaaGreat
set_option maxRecDepth 100000
open Go.RowKit Go.Proofs Go.Own
open Go Go.BigFrame
set_option linter.unusedVariables false
set_option linter.unusedSimpArgs false
theorem oneCell_F (xs : List Frame) : ∀ c ∈ xs.flatMap Frame.enc, c.oneCell' = true := oneCell_enc (f := Frame.enc) (by intro x c hc; simp [Frame.enc] at hc; rcases hc with rfl | rfl | rfl <;> rfl) xs
theorem spec_l8Copy (v : Value) (xs : List Frame) (w : World) (h : rdsL w v xs) (hx : xs.length ≤ 1048576) :
    Calls Tryz.prog 153 #[v] w fun e w' => ∃ v', ∃ S : Nat → Prop, e = .returned v' ∧ ownL S w' v' xs ∧ (∀ k, S k → Rg w.heap.size w'.heap.size k) ∧ Below w.heap.size w w' := by
  obtain ⟨i0, hi, hz0, hz1, hz2⟩ := info_parts infoFrame
  have hone := hid (oneCell_F xs)
  have h := rdsFrames.1 h
  obtain ⟨ad, cap, rfl, hl, hm⟩ := Flat.form h
  have hown : (w.alloc (.cells #[] 221)).ownsRow w.heap.size 221 3 (.slice (some ⟨w.heap.size, 0, none⟩) 0 0) 0 [] := World.ownsRow_made _ _ _ (Nat.le_refl _) (Nat.zero_le _) rfl
  have hB : Below w.heap.size w (w.alloc (.cells #[] 221)) := (Below.refl _ _).alloc (Nat.le_refl _) _
  have h2 := Flat.below h hB
  go_enter Tryz.func153, Tryz.ntmps153
  go_wp2_with (at_builtin; refine wpList_append_flat rfl _ _ 49 rfl w.heap.size 221 i0 (.agg #[.int .i64 0, .int .i64 0, .int .i64 0]) 3 24 Tryz.underlying49 hi hz0 hz1 hz2 rfl (by decide) _ _ _ rfl hown _ _ _ rfl h2 hone.out (by unfold maxLen; omega) (by omega) (by simp) ?_)
  intro v' w1 ho hg
  have hB1 := hB.trans (below_of_mark hown hg (Nat.le_refl _) (by simp))
  go_wp2
  go_ret
  exact ⟨_, _, rfl, ownFrame_of (by simpa using ho), fun _ h => h, hB1⟩
set_option maxHeartbeats 8000000 in
theorem spec_StackOk0 (hs : List Head) (ds : List DescD) (st : List Frame) (v0 v1 v2 : Value) (w : World) (h0 : rdsL w v0 hs) (h1 : rdsL w v1 ds) (h2 : rdsL w v2 st) :
    Calls Tryz.prog 154 #[.agg #[v0, v1], v2] w fun e w' => e = .returned (.bool (stackOk hs ds st)) ∧ Below w.heap.size w w' := by
  have H0 := hid h0
  have H1 := hid h1
  obtain ⟨a0, cap0, rfl, hl0, hm0, -⟩ := rdsL_open h0
  obtain ⟨a1, cap1, rfl, hl1, hm1, -⟩ := rdsL_open h1
  obtain ⟨a2, cap2, rfl, hl2, hm2, hc2⟩ := rdsL_open h2
  have HC := hid hc2
  clear h0 h1 h2 hc2
  have hlen2 : st.length ≤ 9223372036854775807 := by omega
  obtain ⟨W1, hW1⟩ : ∃ X, w.alloc (.cells #[Value.slice a0 hs.length cap0, Value.slice a1 ds.length cap1] 28) = X := ⟨_, rfl⟩
  have hB1 : Below w.heap.size w W1 := by rw [← hW1]; exact (Below.refl _ _).alloc (Nat.le_refl _) _
  have BP : Hid (BoxF W1 w.heap.size [Value.slice a0 hs.length cap0, Value.slice a1 ds.length cap1]) := by rw [← hW1]; exact hid (BoxF.alloc w #[Value.slice a0 hs.length cap0, Value.slice a1 ds.length cap1] 28)
  go_enter Tryz.func154, Tryz.ntmps154
  go_wp2
  go_loopw [5] (fun i wr => ∃ k : Nat, k ≤ st.length ∧ i = .int .i64 k ∧ Same ((st.drop k).all (stkIn hs ds)) (st.all (stkIn hs ds)) ∧ Below w.heap.size w wr ∧ Hid (BoxF wr w.heap.size [Value.slice a0 hs.length cap0, Value.slice a1 ds.length cap1])) (fun i _ => st.length - (intOf i).toNat)
  case atStart => exact ⟨0, by omega, rfl, .rfl, hB1, BP⟩
  case round =>
    clear hW1 hB1 BP
    clear W1
    obtain ⟨k, hk, rfl, hS, hB, BP⟩ := hrel
    by_cases hlt : k < st.length
    · have hst := hid (all_step (stkIn hs ds) st k hlt)
      obtain ⟨bb, off, cs, rfl, hbs, rfl, hcell⟩ := HC.out k hlt
      have hbr := Nat.lt_of_lt_of_le hbs hB.size
      have y0 := Ext.cell hbr ((hB.cell (p := ⟨bb, off + k * 3, none⟩) hbs).trans (show w.cell? ⟨bb, off + k * 3, none⟩ = some (.int .i64 st[k].desc_) from hcell 0 (show 0 < 3 by omega)))
      have y1 := Ext.cell hbr ((hB.cell (p := ⟨bb, off + k * 3 + 1, none⟩) hbs).trans (show w.cell? ⟨bb, off + k * 3 + 1, none⟩ = some (.int .i64 st[k].phase_) from hcell 1 (show 1 < 3 by omega)))
      have y2 := Ext.cell hbr ((hB.cell (p := ⟨bb, off + k * 3 + 2, none⟩) hbs).trans (show w.cell? ⟨bb, off + k * 3 + 2, none⟩ = some (.int .i64 st[k].at_) from hcell 2 (show 2 < 3 by omega)))
      have x0 := Ext.cell BP.out.1.1 (show wr.cell? ⟨w.heap.size, 0, none⟩ = some (Value.slice a0 hs.length cap0) from BP.out.1.2 0 (by simp))
      have x1 := Ext.cell BP.out.1.1 (show wr.cell? ⟨w.heap.size, 1, none⟩ = some (Value.slice a1 ds.length cap1) from BP.out.1.2 1 (by simp))
      have HR0 := hid (rdsL.below H0.out hB)
      have HR1 := hid (rdsL.below H1.out hB)
      have hki : (k : Int) < (st.length : Int) := by omega
      have hk0 : (0 : Int) ≤ (k : Int) := by omega
      clear hcell HC H0 H1
      by_cases hp : st[k].phase_ = 5
      · have hp' : (st[k].phase_ == 5) = true := by rw [beq_iff_eq]; exact hp
        have hn : Hid (stkIn hs ds st[k] = false) := hid (by unfold stkIn; rw [decide_eq_true hp]; rfl)
        clear hp
        go_wp2_with fail
        refine wp_region_ext wr (Below.refl _ _) (by kernel_rfl) (by kernel_rfl) ?_
        repeat (go_big_quiet_step (fail))
        refine wpQuiet_nil ?_; rintro _ ⟨E, rfl⟩
        have hBE := hid (hB.trans (E.h.mono hB.size))
        clear x0 x1 y0 y1 y2
        go_wp2
        go_ret
        exact ⟨ret_bool (by unfold stackOk; rw [← hS.out, hst.out, hn.out, Bool.false_and, Bool.and_false]), hBE.out⟩
      · have hp' : (st[k].phase_ == 5) = false := by rw [beq_eq_false_iff_ne]; exact hp
        have hn : Hid (stkIn hs ds st[k] = frameOk hs ds st[k]) := hid (by unfold stkIn; rw [decide_eq_false hp]; rfl)
        clear hp
        obtain ⟨FB, hFB⟩ : ∃ FB, Hid (frameOk hs ds st[k] = FB) := ⟨_, hid rfl⟩
        have hFo := hFB.out
        go_wp2_with fail
        refine wp_region_ext wr (Below.refl _ _) (by kernel_rfl) (by kernel_rfl) ?_
        repeat (go_big_quiet_step (first | (go_at_call 214; exact call_ext _ (spec_FrameOk0 hs ds _ _ st[k] _ (rdsL.below HR0.out (Ext.h _)) (rdsL.below HR1.out (Ext.h _))))))
        refine wpQuiet_nil ?_; rintro _ ⟨E, rfl⟩
        have hBE := hid (hB.trans (E.h.mono hB.size))
        have BPE := hid (BP.out.below E.h)
        have hBE2 := hBE.out
        clear x0 x1 y0 y1 y2 hFo HR0 HR1 BP hB
        cases FB with
        | false =>
          go_wp2
          go_ret
          exact ⟨ret_bool (by unfold stackOk; rw [← hS.out, hst.out, hn.out, hFB.out, Bool.false_and, Bool.and_false]), hBE.out⟩
        | true =>
          clear hBE2
          go_wp2
          go_roundw
          case rel => exact ⟨k+1, by omega, by go_num, Same.mk (by rw [← hS.out, hst.out, hn.out, hFB.out, Bool.true_and]), hBE.out, BPE⟩
          case measure => simp [intOf]; omega
    · obtain rfl : k = st.length := by omega
      have hAll := hid (show st.all (stkIn hs ds) = true by rw [← hS.out]; exact all_end _ _ _ (by omega))
      have hu := hid (show stackOk hs ds st = (storeOk hs ds && decide (st.length ≤ 130)) by unfold stackOk; rw [hAll.out, Bool.and_true])
      have x0 : wr.cell? ⟨w.heap.size, 0, none⟩ = some (Value.slice a0 hs.length cap0) := BP.out.1.2 0 (by simp)
      have x1 : wr.cell? ⟨w.heap.size, 1, none⟩ = some (Value.slice a1 ds.length cap1) := BP.out.1.2 1 (by simp)
      have R0 := hid (rdsL.below H0.out hB)
      have R1 := hid (rdsL.below H1.out hB)
      go_wp2_with fail
      refine (spec_StoreOk0 hs ds _ _ _ R0.out R1.out).mono ?_
      rintro e w2 ⟨rfl, b2⟩
      have hB2 := hB.trans (b2.mono hB.size)
      cases hso : storeOk hs ds with
      | false =>
        go_wp2
        go_ret
        exact ⟨ret_bool (by rw [hu.out, hso]; rfl), hB2⟩
      | true =>
        go_wp2
        go_ret
        exact ⟨ret_bool (by rw [hu.out, hso, Bool.true_and]; exact decide_eq_decide.2 (by omega)), hB2⟩
end Go.Proofs.YtbbdchlabdilcaaGreat
