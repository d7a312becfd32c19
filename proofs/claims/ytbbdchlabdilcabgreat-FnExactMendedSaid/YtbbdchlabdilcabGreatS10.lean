/- Chapter 10's model: ThreadOk. (printed by tools/mk_s10.py) -/
import Derived.Test.YtbbdchlabdilcabGreatF10
import Derived.Test.YtbbdchlabdilcabGreatM11
import Derived.Test.YtbbdchlabdilcabGreatM14
import Derived.IntWalk
import Derived.Deep.CutRange
namespace Go.Proofs.YtbbdchlabdilcabGreat
set_option maxRecDepth 100000
open Go.RowKit Go.Proofs Go.Own
open Go Go.BigFrame
set_option linter.unusedVariables false
set_option linter.unusedSimpArgs false
theorem Ext.rds {α : Type} [A : Enc α] {W : World} {v : Value} {xs : List α} (h : rdsL W v xs) : ∀ e : Ext W, rdsL e.w v xs := fun e => rdsL.below h e.h
theorem spec_StackOkIs (hs : List Head) (ds : List DescD) (st : List Frame) (v0 v1 v2 : Value) (r : Bool) (w : World) (h0 : rdsL w v0 hs) (h1 : rdsL w v1 ds) (h2 : rdsL w v2 st) (e : stackOk hs ds st = r) :
    Calls Tryz.prog 69 #[.agg #[v0, v1], v2] w fun e w' => e = .returned (.bool r) ∧ Below w.heap.size w w' := by subst e; exact spec_StackOk0 hs ds st v0 v1 v2 w h0 h1 h2
theorem spec_l1InIs (x a b : Int) (r : Bool) (w : World) (e : inB x a b = r) :
    Calls Tryz.prog 36 #[.int .i64 x, .int .i64 a, .int .i64 b] w fun e w' => e = .returned (.bool r) ∧ w = w' := by subst e; exact spec_l1In x a b w
theorem spec_l1ValueIs (x : Int) (r : Bool) (w : World) (e : isVal x = r) :
    Calls Tryz.prog 67 #[.int .i64 x] w fun e w' => e = .returned (.bool r) ∧ w = w' := by subst e; exact spec_l1Value x w
theorem spec_ProgOkIs (xs : List Instr) (v : Value) (r : Bool) (w : World) (h : rdsL w v xs) (e : progOk xs = r) :
    Calls Tryz.prog 70 #[v] w fun e w' => e = .returned (.bool r) ∧ Below w.heap.size w w' := by subst e; exact spec_ProgOk v xs w (rdsInstrs.1 h)
theorem spec_OpenOkIs (xs : List Entry) (v : Value) (r : Bool) (w : World) (h : rdsL w v xs) (e : openOk xs = r) :
    Calls Tryz.prog 71 #[v] w fun e w' => e = .returned (.bool r) ∧ Below w.heap.size w w' := by subst e; exact spec_OpenOk v xs w (rdsEntrys.1 h)
set_option maxHeartbeats 16000000 in
theorem spec_ThreadOk0 (s : StoreD) (t : ThreadD) (v0 v1 v2 v3 v4 : Value) (w : World) (h0 : rdsL w v0 s.heads_) (h1 : rdsL w v1 s.descs_) (h2 : rdsL w v2 t.prog_) (h3 : rdsL w v3 t.open_) (h4 : rdsL w v4 t.stack_) :
    Calls Tryz.prog 37 #[.agg #[v0, v1], .agg #[.int .i64 t.id_, v2, .int .i64 t.at_, .int .i64 t.reg0_, .int .i64 t.reg1_, .int .i64 t.reg2_, .int .i64 t.reg3_, v3, .int .i64 t.check_, v4, .int .i64 t.mine_, .int .i64 t.state_, .int .i64 t.commits_, .int .i64 t.fails_]] w fun e w' => e = .returned (.bool (threadOk s t)) ∧ Below w.heap.size w w' := by
  obtain ⟨hs, ds⟩ := s
  obtain ⟨id, pr, at_, r0, r1, r2, r3, op, ck, st, mi, sta, cm, fl⟩ := t
  dsimp only at h0 h1 h2 h3 h4 ⊢
  obtain ⟨a0, cap0, rfl, hl0, hm0, -⟩ := rdsL_open h0
  obtain ⟨a1, cap1, rfl, hl1, hm1, hc1⟩ := rdsL_open h1
  obtain ⟨a2, cap2, rfl, hl2, hm2, hc2⟩ := rdsL_open h2
  obtain ⟨a3, cap3, rfl, hl3, hm3, hc3⟩ := rdsL_open h3
  obtain ⟨a4, cap4, rfl, hl4, hm4, -⟩ := rdsL_open h4
  have HC1 := hid hc1
  have HC2 := hid hc2
  have HC3 := hid hc3
  clear hc1 hc2 hc3
  obtain ⟨W1, hW1⟩ : ∃ X, (w.alloc (.cells #[Value.slice a0 hs.length cap0, Value.slice a1 ds.length cap1] 37)).alloc (.cells #[.int .i64 id, Value.slice a2 pr.length cap2, .int .i64 at_, .int .i64 r0, .int .i64 r1, .int .i64 r2, .int .i64 r3, Value.slice a3 op.length cap3, .int .i64 ck, Value.slice a4 st.length cap4, .int .i64 mi, .int .i64 sta, .int .i64 cm, .int .i64 fl] 82) = X := ⟨_, rfl⟩
  have hB1 : Below w.heap.size w W1 := by rw [← hW1]; exact ((Below.refl _ _).alloc (Nat.le_refl _) _).alloc (by simp) _
  have bs : Box W1 w.heap.size [Value.slice a0 hs.length cap0, Value.slice a1 ds.length cap1] := by
    rw [← hW1]; exact (Box.alloc w #[Value.slice a0 hs.length cap0, Value.slice a1 ds.length cap1] 37).below ((Below.refl _ _).alloc (Nat.le_refl _) _)
  have bt : Box W1 (w.heap.size + 1) [.int .i64 id, Value.slice a2 pr.length cap2, .int .i64 at_, .int .i64 r0, .int .i64 r1, .int .i64 r2, .int .i64 r3, Value.slice a3 op.length cap3, .int .i64 ck, Value.slice a4 st.length cap4, .int .i64 mi, .int .i64 sta, .int .i64 cm, .int .i64 fl] := by
    rw [← hW1]
    have h9 := Box.alloc (w.alloc (.cells #[Value.slice a0 hs.length cap0, Value.slice a1 ds.length cap1] 37)) #[.int .i64 id, Value.slice a2 pr.length cap2, .int .i64 at_, .int .i64 r0, .int .i64 r1, .int .i64 r2, .int .i64 r3, Value.slice a3 op.length cap3, .int .i64 ck, Value.slice a4 st.length cap4, .int .i64 mi, .int .i64 sta, .int .i64 cm, .int .i64 fl] 82
    rw [show (w.alloc (.cells #[Value.slice a0 hs.length cap0, Value.slice a1 ds.length cap1] 37)).heap.size = w.heap.size + 1 by simp] at h9
    exact h9
  have BS := hid bs
  have BT := hid bt
  have R0 := hid (rdsL.below h0 hB1)
  have R1 := hid (rdsL.below h1 hB1)
  have R2 := hid (rdsL.below h2 hB1)
  have R3 := hid (rdsL.below h3 hB1)
  have R4 := hid (rdsL.below h4 hB1)
  have HW1 := hid hW1
  have HB := hid hB1
  have c0 := Ext.cell BT.out.1 (show W1.cell? ⟨w.heap.size + 1, 0, none⟩ = some (.int .i64 id) from BT.out.2 0 (by simp))
  have c1 := Ext.cell BT.out.1 (show W1.cell? ⟨w.heap.size + 1, 1, none⟩ = some (Value.slice a2 pr.length cap2) from BT.out.2 1 (by simp))
  have c2 := Ext.cell BT.out.1 (show W1.cell? ⟨w.heap.size + 1, 2, none⟩ = some (.int .i64 at_) from BT.out.2 2 (by simp))
  have c7 := Ext.cell BT.out.1 (show W1.cell? ⟨w.heap.size + 1, 7, none⟩ = some (Value.slice a3 op.length cap3) from BT.out.2 7 (by simp))
  have c8 := Ext.cell BT.out.1 (show W1.cell? ⟨w.heap.size + 1, 8, none⟩ = some (.int .i64 ck) from BT.out.2 8 (by simp))
  have c9 := Ext.cell BT.out.1 (show W1.cell? ⟨w.heap.size + 1, 9, none⟩ = some (Value.slice a4 st.length cap4) from BT.out.2 9 (by simp))
  have c11 := Ext.cell BT.out.1 (show W1.cell? ⟨w.heap.size + 1, 11, none⟩ = some (.int .i64 sta) from BT.out.2 11 (by simp))
  have c12 := Ext.cell BT.out.1 (show W1.cell? ⟨w.heap.size + 1, 12, none⟩ = some (.int .i64 cm) from BT.out.2 12 (by simp))
  have c13 := Ext.cell BT.out.1 (show W1.cell? ⟨w.heap.size + 1, 13, none⟩ = some (.int .i64 fl) from BT.out.2 13 (by simp))
  have s0 := Ext.cell BS.out.1 (show W1.cell? ⟨w.heap.size, 0, none⟩ = some (Value.slice a0 hs.length cap0) from BS.out.2 0 (by simp))
  have s1 := Ext.cell BS.out.1 (show W1.cell? ⟨w.heap.size, 1, none⟩ = some (Value.slice a1 ds.length cap1) from BS.out.2 1 (by simp))
  have hw2 : IntKind.i64.wrap ((op.length : Int) - 2) = (op.length : Int) - 2 := IntWalk.i64_in _ (by omega)
  clear h0 h1 h2 h3 h4 hW1 hB1 bs bt
  go_enter Tryz.func37, Tryz.ntmps37
  go_upto_region 1 with fail
  rw [HW1.out]
  cases hS : stackOk hs ds st with
  | false =>
    have Hn := hid (show threadOk ⟨hs, ds⟩ ⟨id, pr, at_, r0, r1, r2, r3, op, ck, st, mi, sta, cm, fl⟩ = false by unfold threadOk firstOk; simp [hS])
    (refine wp_region_ext0 W1 (Below.refl _ _) ?_; dsimp only [List.append]; (repeat (go_big_quiet_step (first | (go_at_call 36; exact call_ext_same _ (spec_l1InIs _ _ _ _ _ (by assumption))) | (go_at_call 69; exact call_ext _ (spec_StackOkIs hs ds st _ _ _ _ _ (Ext.rds R0.out _) (Ext.rds R1.out _) (Ext.rds R4.out _) hS)) | (go_at_call 70; exact call_ext _ (spec_ProgOkIs pr _ _ _ (Ext.rds R2.out _) hP)) | (go_at_call 71; exact call_ext _ (spec_OpenOkIs op _ _ _ (Ext.rds R3.out _) hO))))); refine wpQuiet_nil ?_; rintro _ ⟨E, rfl⟩)
    (go_wp2; go_ret; exact ⟨by rw [Hn.out]; rfl, HB.out.trans (E.h.mono HB.out.size)⟩)
  | true =>
  cases hI : inB id 0 3 with
  | false =>
    have Hn := hid (show threadOk ⟨hs, ds⟩ ⟨id, pr, at_, r0, r1, r2, r3, op, ck, st, mi, sta, cm, fl⟩ = false by unfold threadOk firstOk; simp [hI])
    (refine wp_region_ext0 W1 (Below.refl _ _) ?_; dsimp only [List.append]; (repeat (go_big_quiet_step (first | (go_at_call 36; exact call_ext_same _ (spec_l1InIs _ _ _ _ _ (by assumption))) | (go_at_call 69; exact call_ext _ (spec_StackOkIs hs ds st _ _ _ _ _ (Ext.rds R0.out _) (Ext.rds R1.out _) (Ext.rds R4.out _) hS)) | (go_at_call 70; exact call_ext _ (spec_ProgOkIs pr _ _ _ (Ext.rds R2.out _) hP)) | (go_at_call 71; exact call_ext _ (spec_OpenOkIs op _ _ _ (Ext.rds R3.out _) hO))))); refine wpQuiet_nil ?_; rintro _ ⟨E, rfl⟩)
    (go_wp2; go_ret; exact ⟨by rw [Hn.out]; rfl, HB.out.trans (E.h.mono HB.out.size)⟩)
  | true =>
  cases hP : progOk pr with
  | false =>
    have Hn := hid (show threadOk ⟨hs, ds⟩ ⟨id, pr, at_, r0, r1, r2, r3, op, ck, st, mi, sta, cm, fl⟩ = false by unfold threadOk firstOk; simp [hP])
    (refine wp_region_ext0 W1 (Below.refl _ _) ?_; dsimp only [List.append]; (repeat (go_big_quiet_step (first | (go_at_call 36; exact call_ext_same _ (spec_l1InIs _ _ _ _ _ (by assumption))) | (go_at_call 69; exact call_ext _ (spec_StackOkIs hs ds st _ _ _ _ _ (Ext.rds R0.out _) (Ext.rds R1.out _) (Ext.rds R4.out _) hS)) | (go_at_call 70; exact call_ext _ (spec_ProgOkIs pr _ _ _ (Ext.rds R2.out _) hP)) | (go_at_call 71; exact call_ext _ (spec_OpenOkIs op _ _ _ (Ext.rds R3.out _) hO))))); refine wpQuiet_nil ?_; rintro _ ⟨E, rfl⟩)
    (go_wp2; go_ret; exact ⟨by rw [Hn.out]; rfl, HB.out.trans (E.h.mono HB.out.size)⟩)
  | true =>
  cases hA : inB at_ 0 pr.length with
  | false =>
    have Hn := hid (show threadOk ⟨hs, ds⟩ ⟨id, pr, at_, r0, r1, r2, r3, op, ck, st, mi, sta, cm, fl⟩ = false by unfold threadOk firstOk; simp [hA])
    (refine wp_region_ext0 W1 (Below.refl _ _) ?_; dsimp only [List.append]; (repeat (go_big_quiet_step (first | (go_at_call 36; exact call_ext_same _ (spec_l1InIs _ _ _ _ _ (by assumption))) | (go_at_call 69; exact call_ext _ (spec_StackOkIs hs ds st _ _ _ _ _ (Ext.rds R0.out _) (Ext.rds R1.out _) (Ext.rds R4.out _) hS)) | (go_at_call 70; exact call_ext _ (spec_ProgOkIs pr _ _ _ (Ext.rds R2.out _) hP)) | (go_at_call 71; exact call_ext _ (spec_OpenOkIs op _ _ _ (Ext.rds R3.out _) hO))))); refine wpQuiet_nil ?_; rintro _ ⟨E, rfl⟩)
    (go_wp2; go_ret; exact ⟨by rw [Hn.out]; rfl, HB.out.trans (E.h.mono HB.out.size)⟩)
  | true =>
  cases hO : openOk op with
  | false =>
    have Hn := hid (show threadOk ⟨hs, ds⟩ ⟨id, pr, at_, r0, r1, r2, r3, op, ck, st, mi, sta, cm, fl⟩ = false by unfold threadOk firstOk; simp [hO])
    (refine wp_region_ext0 W1 (Below.refl _ _) ?_; dsimp only [List.append]; (repeat (go_big_quiet_step (first | (go_at_call 36; exact call_ext_same _ (spec_l1InIs _ _ _ _ _ (by assumption))) | (go_at_call 69; exact call_ext _ (spec_StackOkIs hs ds st _ _ _ _ _ (Ext.rds R0.out _) (Ext.rds R1.out _) (Ext.rds R4.out _) hS)) | (go_at_call 70; exact call_ext _ (spec_ProgOkIs pr _ _ _ (Ext.rds R2.out _) hP)) | (go_at_call 71; exact call_ext _ (spec_OpenOkIs op _ _ _ (Ext.rds R3.out _) hO))))); refine wpQuiet_nil ?_; rintro _ ⟨E, rfl⟩)
    (go_wp2; go_ret; exact ⟨by rw [Hn.out]; rfl, HB.out.trans (E.h.mono HB.out.size)⟩)
  | true =>
  have hck : (ck = -1) ∨ (¬ ck = -1) := Decidable.em _
  obtain ⟨qc, hqc⟩ : ∃ q : Bool, Hid (checkOk ⟨id, pr, at_, r0, r1, r2, r3, op, ck, st, mi, sta, cm, fl⟩ = q) := ⟨_, hid rfl⟩
  cases qc with
  | false =>
    have hne : ¬ ck = -1 := fun e => by have := hqc.out; unfold checkOk at this; simp [e] at this
    have hc1 : (ck != -1) = true := by simp [hne]
    have hK : inB ck 0 ((op.length : Int) - 2) = false := by have := hqc.out; unfold checkOk at this; simpa [hne] using this
    have HK := hqc.out
    clear hck hne hqc
    have Hn := hid (show threadOk ⟨hs, ds⟩ ⟨id, pr, at_, r0, r1, r2, r3, op, ck, st, mi, sta, cm, fl⟩ = false by unfold threadOk firstOk; simp [HK])
    clear HK
    (refine wp_region_ext0 W1 (Below.refl _ _) ?_; dsimp only [List.append]; (repeat (go_big_quiet_step (first | (go_at_call 36; exact call_ext_same _ (spec_l1InIs _ _ _ _ _ (by assumption))) | (go_at_call 69; exact call_ext _ (spec_StackOkIs hs ds st _ _ _ _ _ (Ext.rds R0.out _) (Ext.rds R1.out _) (Ext.rds R4.out _) hS)) | (go_at_call 70; exact call_ext _ (spec_ProgOkIs pr _ _ _ (Ext.rds R2.out _) hP)) | (go_at_call 71; exact call_ext _ (spec_OpenOkIs op _ _ _ (Ext.rds R3.out _) hO))))); refine wpQuiet_nil ?_; rintro _ ⟨E, rfl⟩)
    (go_wp2; go_ret; exact ⟨by rw [Hn.out]; rfl, HB.out.trans (E.h.mono HB.out.size)⟩)
  | true =>
  have HQ := hqc
  cases hs9 : inB sta 0 3 with
  | false =>
    have Hn := hid (show threadOk ⟨hs, ds⟩ ⟨id, pr, at_, r0, r1, r2, r3, op, ck, st, mi, sta, cm, fl⟩ = false by unfold threadOk firstOk; simp [hs9])
    rcases hck with hck | hck
    · have hc1 : (ck != -1) = false := by rw [hck]; rfl
      clear hck
      (refine wp_region_ext0 W1 (Below.refl _ _) ?_; dsimp only [List.append]; (repeat (go_big_quiet_step (first | (go_at_call 36; exact call_ext_same _ (spec_l1InIs _ _ _ _ _ (by assumption))) | (go_at_call 69; exact call_ext _ (spec_StackOkIs hs ds st _ _ _ _ _ (Ext.rds R0.out _) (Ext.rds R1.out _) (Ext.rds R4.out _) hS)) | (go_at_call 70; exact call_ext _ (spec_ProgOkIs pr _ _ _ (Ext.rds R2.out _) hP)) | (go_at_call 71; exact call_ext _ (spec_OpenOkIs op _ _ _ (Ext.rds R3.out _) hO))))); refine wpQuiet_nil ?_; rintro _ ⟨E, rfl⟩)
      (go_wp2; go_ret; exact ⟨by rw [Hn.out]; rfl, HB.out.trans (E.h.mono HB.out.size)⟩)
    · have hc1 : (ck != -1) = true := by simp [hck]
      have hK : inB ck 0 ((op.length : Int) - 2) = true := by have := hqc.out; unfold checkOk at this; simpa [hck] using this
      clear hck
      (refine wp_region_ext0 W1 (Below.refl _ _) ?_; dsimp only [List.append]; (repeat (go_big_quiet_step (first | (go_at_call 36; exact call_ext_same _ (spec_l1InIs _ _ _ _ _ (by assumption))) | (go_at_call 69; exact call_ext _ (spec_StackOkIs hs ds st _ _ _ _ _ (Ext.rds R0.out _) (Ext.rds R1.out _) (Ext.rds R4.out _) hS)) | (go_at_call 70; exact call_ext _ (spec_ProgOkIs pr _ _ _ (Ext.rds R2.out _) hP)) | (go_at_call 71; exact call_ext _ (spec_OpenOkIs op _ _ _ (Ext.rds R3.out _) hO))))); refine wpQuiet_nil ?_; rintro _ ⟨E, rfl⟩)
      (go_wp2; go_ret; exact ⟨by rw [Hn.out]; rfl, HB.out.trans (E.h.mono HB.out.size)⟩)
  | true =>
  cases hc9 : inB cm 0 1000000 with
  | false =>
    have Hn := hid (show threadOk ⟨hs, ds⟩ ⟨id, pr, at_, r0, r1, r2, r3, op, ck, st, mi, sta, cm, fl⟩ = false by unfold threadOk firstOk; simp [hc9])
    rcases hck with hck | hck
    · have hc1 : (ck != -1) = false := by rw [hck]; rfl
      clear hck
      (refine wp_region_ext0 W1 (Below.refl _ _) ?_; dsimp only [List.append]; (repeat (go_big_quiet_step (first | (go_at_call 36; exact call_ext_same _ (spec_l1InIs _ _ _ _ _ (by assumption))) | (go_at_call 69; exact call_ext _ (spec_StackOkIs hs ds st _ _ _ _ _ (Ext.rds R0.out _) (Ext.rds R1.out _) (Ext.rds R4.out _) hS)) | (go_at_call 70; exact call_ext _ (spec_ProgOkIs pr _ _ _ (Ext.rds R2.out _) hP)) | (go_at_call 71; exact call_ext _ (spec_OpenOkIs op _ _ _ (Ext.rds R3.out _) hO))))); refine wpQuiet_nil ?_; rintro _ ⟨E, rfl⟩)
      (go_wp2; go_ret; exact ⟨by rw [Hn.out]; rfl, HB.out.trans (E.h.mono HB.out.size)⟩)
    · have hc1 : (ck != -1) = true := by simp [hck]
      have hK : inB ck 0 ((op.length : Int) - 2) = true := by have := hqc.out; unfold checkOk at this; simpa [hck] using this
      clear hck
      (refine wp_region_ext0 W1 (Below.refl _ _) ?_; dsimp only [List.append]; (repeat (go_big_quiet_step (first | (go_at_call 36; exact call_ext_same _ (spec_l1InIs _ _ _ _ _ (by assumption))) | (go_at_call 69; exact call_ext _ (spec_StackOkIs hs ds st _ _ _ _ _ (Ext.rds R0.out _) (Ext.rds R1.out _) (Ext.rds R4.out _) hS)) | (go_at_call 70; exact call_ext _ (spec_ProgOkIs pr _ _ _ (Ext.rds R2.out _) hP)) | (go_at_call 71; exact call_ext _ (spec_OpenOkIs op _ _ _ (Ext.rds R3.out _) hO))))); refine wpQuiet_nil ?_; rintro _ ⟨E, rfl⟩)
      (go_wp2; go_ret; exact ⟨by rw [Hn.out]; rfl, HB.out.trans (E.h.mono HB.out.size)⟩)
  | true =>
  cases hf9 : inB fl 0 1000000 with
  | false =>
    have Hn := hid (show threadOk ⟨hs, ds⟩ ⟨id, pr, at_, r0, r1, r2, r3, op, ck, st, mi, sta, cm, fl⟩ = false by unfold threadOk firstOk; simp [hf9])
    rcases hck with hck | hck
    · have hc1 : (ck != -1) = false := by rw [hck]; rfl
      clear hck
      (refine wp_region_ext0 W1 (Below.refl _ _) ?_; dsimp only [List.append]; (repeat (go_big_quiet_step (first | (go_at_call 36; exact call_ext_same _ (spec_l1InIs _ _ _ _ _ (by assumption))) | (go_at_call 69; exact call_ext _ (spec_StackOkIs hs ds st _ _ _ _ _ (Ext.rds R0.out _) (Ext.rds R1.out _) (Ext.rds R4.out _) hS)) | (go_at_call 70; exact call_ext _ (spec_ProgOkIs pr _ _ _ (Ext.rds R2.out _) hP)) | (go_at_call 71; exact call_ext _ (spec_OpenOkIs op _ _ _ (Ext.rds R3.out _) hO))))); refine wpQuiet_nil ?_; rintro _ ⟨E, rfl⟩)
      (go_wp2; go_ret; exact ⟨by rw [Hn.out]; rfl, HB.out.trans (E.h.mono HB.out.size)⟩)
    · have hc1 : (ck != -1) = true := by simp [hck]
      have hK : inB ck 0 ((op.length : Int) - 2) = true := by have := hqc.out; unfold checkOk at this; simpa [hck] using this
      clear hck
      (refine wp_region_ext0 W1 (Below.refl _ _) ?_; dsimp only [List.append]; (repeat (go_big_quiet_step (first | (go_at_call 36; exact call_ext_same _ (spec_l1InIs _ _ _ _ _ (by assumption))) | (go_at_call 69; exact call_ext _ (spec_StackOkIs hs ds st _ _ _ _ _ (Ext.rds R0.out _) (Ext.rds R1.out _) (Ext.rds R4.out _) hS)) | (go_at_call 70; exact call_ext _ (spec_ProgOkIs pr _ _ _ (Ext.rds R2.out _) hP)) | (go_at_call 71; exact call_ext _ (spec_OpenOkIs op _ _ _ (Ext.rds R3.out _) hO))))); refine wpQuiet_nil ?_; rintro _ ⟨E, rfl⟩)
      (go_wp2; go_ret; exact ⟨by rw [Hn.out]; rfl, HB.out.trans (E.h.mono HB.out.size)⟩)
  | true =>
  have HF := hid (show firstOk ⟨hs, ds⟩ ⟨id, pr, at_, r0, r1, r2, r3, op, ck, st, mi, sta, cm, fl⟩ = true by unfold firstOk; have h9 := hqc.out; simp [hS, hI, hP, hA, hO, hs9, hc9, hf9, h9])
  go_cut [71] from 7 to 70 (fun c wx => c = .bool false ∧ Below W1.heap.size W1 wx)
  case first =>
    rcases hck with hck | hck
    · have hc1 : (ck != -1) = false := by rw [hck]; rfl
      clear hck
      (refine wp_region_ext0 W1 (Below.refl _ _) ?_; dsimp only [List.append]; (repeat (go_big_quiet_step (first | (go_at_call 36; exact call_ext_same _ (spec_l1InIs _ _ _ _ _ (by assumption))) | (go_at_call 69; exact call_ext _ (spec_StackOkIs hs ds st _ _ _ _ _ (Ext.rds R0.out _) (Ext.rds R1.out _) (Ext.rds R4.out _) hS)) | (go_at_call 70; exact call_ext _ (spec_ProgOkIs pr _ _ _ (Ext.rds R2.out _) hP)) | (go_at_call 71; exact call_ext _ (spec_OpenOkIs op _ _ _ (Ext.rds R3.out _) hO))))); refine wpQuiet_nil ?_; rintro _ ⟨E, rfl⟩)
      go_wp2_with fail
      all_goals go_meet
      all_goals exact ⟨rfl, E.h⟩
    · have hc1 : (ck != -1) = true := by simp [hck]
      have hK : inB ck 0 ((op.length : Int) - 2) = true := by have := hqc.out; unfold checkOk at this; simpa [hck] using this
      clear hck
      (refine wp_region_ext0 W1 (Below.refl _ _) ?_; dsimp only [List.append]; (repeat (go_big_quiet_step (first | (go_at_call 36; exact call_ext_same _ (spec_l1InIs _ _ _ _ _ (by assumption))) | (go_at_call 69; exact call_ext _ (spec_StackOkIs hs ds st _ _ _ _ _ (Ext.rds R0.out _) (Ext.rds R1.out _) (Ext.rds R4.out _) hS)) | (go_at_call 70; exact call_ext _ (spec_ProgOkIs pr _ _ _ (Ext.rds R2.out _) hP)) | (go_at_call 71; exact call_ext _ (spec_OpenOkIs op _ _ _ (Ext.rds R3.out _) hO))))); refine wpQuiet_nil ?_; rintro _ ⟨E, rfl⟩)
      go_wp2_with fail
      all_goals go_meet
      all_goals exact ⟨rfl, E.h⟩
  case rest =>
    clear c0 c1 c2 c7 c8 c9 c11 c12 c13 s0 s1 hw2 hck
    obtain ⟨rfl, hbc⟩ := hcut
    have HBc := hid hbc
    clear hbc
    go_wp2
    go_loopw [5] (fun i wr => ((i = .int .i64 0) ∨ (i = .int .i64 1 ∧ Hid (isVal r0 = true)) ∨ (i = .int .i64 2 ∧ Hid (isVal r0 = true ∧ isVal r1 = true)) ∨ (i = .int .i64 3 ∧ Hid (isVal r0 = true ∧ isVal r1 = true ∧ isVal r2 = true)) ∨ (i = .int .i64 4 ∧ Hid (isVal r0 = true ∧ isVal r1 = true ∧ isVal r2 = true ∧ isVal r3 = true))) ∧ Hid (Below W1.heap.size W1 wr)) (fun i _ => 4 - (intOf i).toNat)
    case atStart => exact ⟨.inl rfl, HBc⟩
    case round =>
      obtain ⟨hk, HBr⟩ := hrel
      rcases hk with rfl | ⟨rfl, hv⟩ | ⟨rfl, hv⟩ | ⟨rfl, hv⟩ | ⟨rfl, hv⟩
      · have q := (HBr.out.cell (p := ⟨w.heap.size + 1, 3, none⟩) BT.out.1).trans (show W1.cell? ⟨w.heap.size + 1, 3, none⟩ = some (.int .i64 r0) from BT.out.2 3 (by simp))
        obtain ⟨b9, hr⟩ : ∃ b9, Hid (isVal r0 = b9) := ⟨_, hid rfl⟩
        cases b9 with
        | false =>
          have hr9 := hr.out
          have Hn := hid (show threadOk ⟨hs, ds⟩ ⟨id, pr, at_, r0, r1, r2, r3, op, ck, st, mi, sta, cm, fl⟩ = false by unfold threadOk regOk; simp [hr9])
          clear hr9
          go_wp2_with (go_at_call 67; refine (spec_l1ValueIs _ _ _ hr.out).mono ?_; rintro e w9 ⟨rfl, rfl⟩)
          go_ret
          exact ⟨by rw [Hn.out]; rfl, HB.out.trans (HBr.out.mono HB.out.size)⟩
        | true =>
          have hv9 := hr
          go_wp2_with (go_at_call 67; refine (spec_l1ValueIs _ _ _ hr.out).mono ?_; rintro e w9 ⟨rfl, rfl⟩)
          go_roundw
          case rel => exact ⟨.inr (.inl ⟨rfl, hv9⟩), HBr⟩
          case measure => decide
      · have q := (HBr.out.cell (p := ⟨w.heap.size + 1, 4, none⟩) BT.out.1).trans (show W1.cell? ⟨w.heap.size + 1, 4, none⟩ = some (.int .i64 r1) from BT.out.2 4 (by simp))
        obtain ⟨b9, hr⟩ : ∃ b9, Hid (isVal r1 = b9) := ⟨_, hid rfl⟩
        cases b9 with
        | false =>
          have hr9 := hr.out
          have Hn := hid (show threadOk ⟨hs, ds⟩ ⟨id, pr, at_, r0, r1, r2, r3, op, ck, st, mi, sta, cm, fl⟩ = false by unfold threadOk regOk; simp [hr9])
          clear hr9
          go_wp2_with (go_at_call 67; refine (spec_l1ValueIs _ _ _ hr.out).mono ?_; rintro e w9 ⟨rfl, rfl⟩)
          go_ret
          exact ⟨by rw [Hn.out]; rfl, HB.out.trans (HBr.out.mono HB.out.size)⟩
        | true =>
          have hv9 := hr
          go_wp2_with (go_at_call 67; refine (spec_l1ValueIs _ _ _ hr.out).mono ?_; rintro e w9 ⟨rfl, rfl⟩)
          go_roundw
          case rel => exact ⟨.inr (.inr (.inl ⟨rfl, hid ⟨hv.out, hv9.out⟩⟩)), HBr⟩
          case measure => decide
      · have q := (HBr.out.cell (p := ⟨w.heap.size + 1, 5, none⟩) BT.out.1).trans (show W1.cell? ⟨w.heap.size + 1, 5, none⟩ = some (.int .i64 r2) from BT.out.2 5 (by simp))
        obtain ⟨b9, hr⟩ : ∃ b9, Hid (isVal r2 = b9) := ⟨_, hid rfl⟩
        cases b9 with
        | false =>
          have hr9 := hr.out
          have Hn := hid (show threadOk ⟨hs, ds⟩ ⟨id, pr, at_, r0, r1, r2, r3, op, ck, st, mi, sta, cm, fl⟩ = false by unfold threadOk regOk; simp [hr9])
          clear hr9
          go_wp2_with (go_at_call 67; refine (spec_l1ValueIs _ _ _ hr.out).mono ?_; rintro e w9 ⟨rfl, rfl⟩)
          go_ret
          exact ⟨by rw [Hn.out]; rfl, HB.out.trans (HBr.out.mono HB.out.size)⟩
        | true =>
          have hv9 := hr
          go_wp2_with (go_at_call 67; refine (spec_l1ValueIs _ _ _ hr.out).mono ?_; rintro e w9 ⟨rfl, rfl⟩)
          go_roundw
          case rel => exact ⟨.inr (.inr (.inr (.inl ⟨rfl, hid ⟨hv.out.1, hv.out.2, hv9.out⟩⟩))), HBr⟩
          case measure => decide
      · have q := (HBr.out.cell (p := ⟨w.heap.size + 1, 6, none⟩) BT.out.1).trans (show W1.cell? ⟨w.heap.size + 1, 6, none⟩ = some (.int .i64 r3) from BT.out.2 6 (by simp))
        obtain ⟨b9, hr⟩ : ∃ b9, Hid (isVal r3 = b9) := ⟨_, hid rfl⟩
        cases b9 with
        | false =>
          have hr9 := hr.out
          have Hn := hid (show threadOk ⟨hs, ds⟩ ⟨id, pr, at_, r0, r1, r2, r3, op, ck, st, mi, sta, cm, fl⟩ = false by unfold threadOk regOk; simp [hr9])
          clear hr9
          go_wp2_with (go_at_call 67; refine (spec_l1ValueIs _ _ _ hr.out).mono ?_; rintro e w9 ⟨rfl, rfl⟩)
          go_ret
          exact ⟨by rw [Hn.out]; rfl, HB.out.trans (HBr.out.mono HB.out.size)⟩
        | true =>
          have hv9 := hr
          go_wp2_with (go_at_call 67; refine (spec_l1ValueIs _ _ _ hr.out).mono ?_; rintro e w9 ⟨rfl, rfl⟩)
          go_roundw
          case rel => exact ⟨.inr (.inr (.inr (.inr (⟨rfl, hid ⟨hv.out.1, hv.out.2.1, hv.out.2.2, hv9.out⟩⟩)))), HBr⟩
          case measure => decide
      · clear HBc
        have HRG := hid (show (regOk ⟨id, pr, at_, r0, r1, r2, r3, op, ck, st, mi, sta, cm, fl⟩ 0 && regOk ⟨id, pr, at_, r0, r1, r2, r3, op, ck, st, mi, sta, cm, fl⟩ 1 && regOk ⟨id, pr, at_, r0, r1, r2, r3, op, ck, st, mi, sta, cm, fl⟩ 2 && regOk ⟨id, pr, at_, r0, r1, r2, r3, op, ck, st, mi, sta, cm, fl⟩ 3) = true by unfold regOk; simp [hv.out.1, hv.out.2.1, hv.out.2.2.1, hv.out.2.2.2])
        have HT := hid (show threadOk ⟨hs, ds⟩ ⟨id, pr, at_, r0, r1, r2, r3, op, ck, st, mi, sta, cm, fl⟩ = (objsAt hs.length op 0 && mineOk ⟨hs, ds⟩ ⟨id, pr, at_, r0, r1, r2, r3, op, ck, st, mi, sta, cm, fl⟩) by unfold threadOk; rw [HF.out, HRG.out]; simp)
        clear hv HRG
        go_wp2
        go_loopw [6] (fun i wr => ∃ k : Nat, k ≤ op.length ∧ i = .int .i64 k ∧ Same (objsAt hs.length op k) (objsAt hs.length op 0) ∧ Hid (Below W1.heap.size W1 wr)) (fun i _ => op.length - (intOf i).toNat)
        case atStart => exact ⟨0, by omega, rfl, .rfl, HBr⟩
        case round =>
          clear HBr
          obtain ⟨k, hk, rfl, hS9, HBq⟩ := hrel
          have x7 := Ext.cell (Nat.lt_of_lt_of_le BT.out.1 HBq.out.size) ((HBq.out.cell (p := ⟨w.heap.size + 1, 7, none⟩) BT.out.1).trans (show W1.cell? ⟨w.heap.size + 1, 7, none⟩ = some (Value.slice a3 op.length cap3) from BT.out.2 7 (by simp)))
          have xs0 := Ext.cell (Nat.lt_of_lt_of_le BS.out.1 HBq.out.size) ((HBq.out.cell (p := ⟨w.heap.size, 0, none⟩) BS.out.1).trans (show W1.cell? ⟨w.heap.size, 0, none⟩ = some (Value.slice a0 hs.length cap0) from BS.out.2 0 (by simp)))
          by_cases hlt : k < op.length
          · have hst := hid (objsAt_step hs.length op k hlt)
            obtain ⟨bb, off, cs, rfl, hbs, rfl, hcell⟩ := HC3.out k hlt
            have hbW := Nat.lt_of_lt_of_le hbs HB.out.size
            have y0 := Ext.cell (Nat.lt_of_lt_of_le hbW HBq.out.size) ((HBq.out.cell (p := ⟨bb, off + k * 5, none⟩) hbW).trans ((HB.out.cell (p := ⟨bb, off + k * 5, none⟩) hbs).trans (show w.cell? ⟨bb, off + k * 5, none⟩ = some (.int .i64 op[k].object_) from hcell 0 (show 0 < 5 by omega))))
            have hki : (k : Int) < (op.length : Int) := by omega
            have hk0 : (0 : Int) ≤ (k : Int) := by omega
            have x7n := Ext.now x7
            clear hcell
            go_wp2_with fail
            refine wp_region_ext wr (Below.refl _ _) (by kernel_rfl) (by kernel_rfl) ?_
            repeat (go_big_quiet_step (fail))
            refine wpQuiet_nil ?_; rintro _ ⟨E, rfl⟩
            have hBE := hid (HBq.out.trans (E.h.mono HBq.out.size))
            clear x7 xs0 y0 x7n
            by_cases hge : (hs.length : Int) ≤ op[k].object_
            · have Hn := hid (show threadOk ⟨hs, ds⟩ ⟨id, pr, at_, r0, r1, r2, r3, op, ck, st, mi, sta, cm, fl⟩ = false by rw [HT.out, ← hS9.out, hst.out, decide_eq_false (by omega)]; rfl)
              go_wp2
              go_ret
              exact ⟨by rw [Hn.out]; rfl, HB.out.trans (hBE.out.mono HB.out.size)⟩
            · have Hs := hid (show objsAt hs.length op (k+1) = objsAt hs.length op 0 by rw [← hS9.out, hst.out, decide_eq_true (by omega)]; simp)
              go_wp2
              go_roundw
              case rel => exact ⟨k+1, by omega, by go_num, Same.mk Hs.out, hBE⟩
              case measure => simp [intOf]; omega
          · have HO9 := hid (show threadOk ⟨hs, ds⟩ ⟨id, pr, at_, r0, r1, r2, r3, op, ck, st, mi, sta, cm, fl⟩ = mineOk ⟨hs, ds⟩ ⟨id, pr, at_, r0, r1, r2, r3, op, ck, st, mi, sta, cm, fl⟩ by rw [HT.out, ← hS9.out, objsAt_end _ _ _ hlt]; rfl)
            have x7n := Ext.now x7
            go_wp2_with fail
            clear x7 xs0 x7n HQ HT hS9
            have t0 := Ext.cell (Nat.lt_of_lt_of_le BT.out.1 HBq.out.size) ((HBq.out.cell (p := ⟨w.heap.size + 1, 0, none⟩) BT.out.1).trans (show W1.cell? ⟨w.heap.size + 1, 0, none⟩ = some (.int .i64 id) from BT.out.2 0 (by simp)))
            have t1 := Ext.cell (Nat.lt_of_lt_of_le BT.out.1 HBq.out.size) ((HBq.out.cell (p := ⟨w.heap.size + 1, 1, none⟩) BT.out.1).trans (show W1.cell? ⟨w.heap.size + 1, 1, none⟩ = some (Value.slice a2 pr.length cap2) from BT.out.2 1 (by simp)))
            have t2 := Ext.cell (Nat.lt_of_lt_of_le BT.out.1 HBq.out.size) ((HBq.out.cell (p := ⟨w.heap.size + 1, 2, none⟩) BT.out.1).trans (show W1.cell? ⟨w.heap.size + 1, 2, none⟩ = some (.int .i64 at_) from BT.out.2 2 (by simp)))
            have t8 := Ext.cell (Nat.lt_of_lt_of_le BT.out.1 HBq.out.size) ((HBq.out.cell (p := ⟨w.heap.size + 1, 8, none⟩) BT.out.1).trans (show W1.cell? ⟨w.heap.size + 1, 8, none⟩ = some (.int .i64 ck) from BT.out.2 8 (by simp)))
            have t9 := Ext.cell (Nat.lt_of_lt_of_le BT.out.1 HBq.out.size) ((HBq.out.cell (p := ⟨w.heap.size + 1, 9, none⟩) BT.out.1).trans (show W1.cell? ⟨w.heap.size + 1, 9, none⟩ = some (Value.slice a4 st.length cap4) from BT.out.2 9 (by simp)))
            have t10 := Ext.cell (Nat.lt_of_lt_of_le BT.out.1 HBq.out.size) ((HBq.out.cell (p := ⟨w.heap.size + 1, 10, none⟩) BT.out.1).trans (show W1.cell? ⟨w.heap.size + 1, 10, none⟩ = some (.int .i64 mi) from BT.out.2 10 (by simp)))
            have u1 := Ext.cell (Nat.lt_of_lt_of_le BS.out.1 HBq.out.size) ((HBq.out.cell (p := ⟨w.heap.size, 1, none⟩) BS.out.1).trans (show W1.cell? ⟨w.heap.size, 1, none⟩ = some (Value.slice a1 ds.length cap1) from BS.out.2 1 (by simp)))
            have hw1 : IntKind.i64.wrap ((ds.length : Int) - 1) = (ds.length : Int) - 1 := IntWalk.i64_in _ (by omega)
            have HBE := hid (HB.out.trans (HBq.out.mono HB.out.size))
            clear hS hI hP hO hs9 hc9 hf9
            by_cases hm : mi = -1
            · have hm1 : (mi == -1) = true := by rw [hm]; rfl
              have HM := hid (show mineOk ⟨hs, ds⟩ ⟨id, pr, at_, r0, r1, r2, r3, op, ck, st, mi, sta, cm, fl⟩ = true by unfold mineOk; simp [hm])
              clear hm
              (refine wp_region_ext wr (Below.refl _ _) (by kernel_rfl) (by kernel_rfl) ?_; (try dsimp only [List.append]); (repeat (go_big_quiet_step (first | (go_at_call 36; exact call_ext_same _ (spec_l1InIs _ _ _ _ _ (by assumption)))))); refine wpQuiet_nil ?_; rintro _ ⟨E, rfl⟩)
              go_wp2
              go_ret
              exact ⟨by (rw [HO9.out, HM.out]) <;> rfl, HBE.out.trans (E.h.mono HBE.out.size)⟩
            · have hm1 : (mi == -1) = false := by simp [hm]
              by_cases hc : ck = -1
              rotate_left
              · have hc1 : (ck == -1) = false := by simp [hc]
                have HM := hid (show mineOk ⟨hs, ds⟩ ⟨id, pr, at_, r0, r1, r2, r3, op, ck, st, mi, sta, cm, fl⟩ = false by unfold mineOk; simp [hm, hc])
                clear hc hm
                (refine wp_region_ext wr (Below.refl _ _) (by kernel_rfl) (by kernel_rfl) ?_; (try dsimp only [List.append]); (repeat (go_big_quiet_step (first | (go_at_call 36; exact call_ext_same _ (spec_l1InIs _ _ _ _ _ (by assumption)))))); refine wpQuiet_nil ?_; rintro _ ⟨E, rfl⟩)
                go_wp2
                go_ret
                exact ⟨by (rw [HO9.out, HM.out]) <;> rfl, HBE.out.trans (E.h.mono HBE.out.size)⟩
              have hc1 : (ck == -1) = true := by simp [hc]
              cases hmi : inB mi 0 ((ds.length : Int) - 1) with
              | false =>
                have HM := hid (show mineOk ⟨hs, ds⟩ ⟨id, pr, at_, r0, r1, r2, r3, op, ck, st, mi, sta, cm, fl⟩ = false by unfold mineOk; simp [hm, hmi])
                clear hc hm
                (refine wp_region_ext wr (Below.refl _ _) (by kernel_rfl) (by kernel_rfl) ?_; (try dsimp only [List.append]); (repeat (go_big_quiet_step (first | (go_at_call 36; exact call_ext_same _ (spec_l1InIs _ _ _ _ _ (by assumption)))))); refine wpQuiet_nil ?_; rintro _ ⟨E, rfl⟩)
                go_wp2
                go_ret
                exact ⟨by (rw [HO9.out, HM.out]) <;> rfl, HBE.out.trans (E.h.mono HBE.out.size)⟩
              | true =>
              obtain ⟨m, rfl⟩ : ∃ m : Nat, mi = m := ⟨mi.toNat, by simp [inB] at hmi; omega⟩
              have hml : m < ds.length := by simp [inB] at hmi; omega
              obtain ⟨b1, o1, cs1, rfl, hb1, ⟨v2, rfl, -⟩, hcell⟩ := HC1.out m hml
              have hbW := Nat.lt_of_lt_of_le hb1 HB.out.size
              obtain ⟨ow, how⟩ : ∃ ow, Hid (ds[m].owner_ = ow) := ⟨_, hid rfl⟩
              have y0 := Ext.cell (Nat.lt_of_lt_of_le hbW HBq.out.size) ((HBq.out.cell (p := ⟨b1, o1 + m * 3, none⟩) hbW).trans ((HB.out.cell (p := ⟨b1, o1 + m * 3, none⟩) hb1).trans (show w.cell? ⟨b1, o1 + m * 3, none⟩ = some (.int .i64 ow) by rw [← how.out]; exact hcell 0 (show 0 < 3 by omega))))
              have hOA := hid (show ownerAt ds m = ow by unfold ownerAt; rw [Int.toNat_natCast, List.getElem?_eq_getElem hml]; exact how.out)
              have hmi1 : (m : Int) < (ds.length : Int) := by omega
              have hmi0 : (0 : Int) ≤ (m : Int) := by omega
              clear hcell how
              by_cases ho : ow = id
              rotate_left
              · have ho1 : (ow == id) = false := by simp [ho]
                have HM := hid (show mineOk ⟨hs, ds⟩ ⟨id, pr, at_, r0, r1, r2, r3, op, ck, st, m, sta, cm, fl⟩ = false by unfold mineOk; simp [hm, hOA.out, ho])
                clear hc hm ho
                (refine wp_region_ext wr (Below.refl _ _) (by kernel_rfl) (by kernel_rfl) ?_; (try dsimp only [List.append]); (repeat (go_big_quiet_step (first | (go_at_call 36; exact call_ext_same _ (spec_l1InIs _ _ _ _ _ (by assumption)))))); refine wpQuiet_nil ?_; rintro _ ⟨E, rfl⟩)
                go_wp2
                go_ret
                exact ⟨by (rw [HO9.out, HM.out]) <;> rfl, HBE.out.trans (E.h.mono HBE.out.size)⟩
              have ho1 : (ow == id) = true := by simp [ho]
              by_cases hs0 : 0 < st.length
              rotate_left
              · have hs1 : ¬ (0 : Int) < (st.length : Int) := by omega
                have HM := hid (show mineOk ⟨hs, ds⟩ ⟨id, pr, at_, r0, r1, r2, r3, op, ck, st, m, sta, cm, fl⟩ = false by unfold mineOk; simp [hm, hs0])
                clear hc hm ho
                (refine wp_region_ext wr (Below.refl _ _) (by kernel_rfl) (by kernel_rfl) ?_; (try dsimp only [List.append]); (repeat (go_big_quiet_step (first | (go_at_call 36; exact call_ext_same _ (spec_l1InIs _ _ _ _ _ (by assumption)))))); refine wpQuiet_nil ?_; rintro _ ⟨E, rfl⟩)
                go_wp2
                go_ret
                exact ⟨by (rw [HO9.out, HM.out]) <;> rfl, HBE.out.trans (E.h.mono HBE.out.size)⟩
              have hs1 : (0 : Int) < (st.length : Int) := by omega
              by_cases hat : at_ < (pr.length : Int)
              rotate_left
              · have HM := hid (show mineOk ⟨hs, ds⟩ ⟨id, pr, at_, r0, r1, r2, r3, op, ck, st, m, sta, cm, fl⟩ = false by unfold mineOk; simp [hm, hat])
                clear hc hm ho
                (refine wp_region_ext wr (Below.refl _ _) (by kernel_rfl) (by kernel_rfl) ?_; (try dsimp only [List.append]); (repeat (go_big_quiet_step (first | (go_at_call 36; exact call_ext_same _ (spec_l1InIs _ _ _ _ _ (by assumption)))))); refine wpQuiet_nil ?_; rintro _ ⟨E, rfl⟩)
                go_wp2
                go_ret
                exact ⟨by (rw [HO9.out, HM.out]) <;> rfl, HBE.out.trans (E.h.mono HBE.out.size)⟩
              obtain ⟨n, rfl⟩ : ∃ n : Nat, at_ = n := ⟨at_.toNat, by simp [inB] at hA; omega⟩
              have hnl : n < pr.length := by omega
              obtain ⟨b2, o2, cs2, rfl, hb2, rfl, hcell⟩ := HC2.out n hnl
              have hbW2 := Nat.lt_of_lt_of_le hb2 HB.out.size
              obtain ⟨oq, hoq⟩ : ∃ oq, Hid (pr[n].op_ = oq) := ⟨_, hid rfl⟩
              have z0 := Ext.cell (Nat.lt_of_lt_of_le hbW2 HBq.out.size) ((HBq.out.cell (p := ⟨b2, o2 + n * 3, none⟩) hbW2).trans ((HB.out.cell (p := ⟨b2, o2 + n * 3, none⟩) hb2).trans (show w.cell? ⟨b2, o2 + n * 3, none⟩ = some (.int .i64 oq) by rw [← hoq.out]; exact hcell 0 (show 0 < 3 by omega))))
              have hOP := hid (show opAt pr n = oq by unfold opAt; rw [Int.toNat_natCast, List.getElem?_eq_getElem hnl]; exact hoq.out)
              have hn0 : (0 : Int) ≤ (n : Int) := by omega
              clear hcell hoq
              have HM := hid (show mineOk ⟨hs, ds⟩ ⟨id, pr, n, r0, r1, r2, r3, op, ck, st, m, sta, cm, fl⟩ = (oq == 6) by unfold mineOk; dsimp only; rw [hm1, hc1, hmi, hOA.out, ho1, decide_eq_true hs0, decide_eq_true hat, hOP.out]; simp)
              clear hc hm ho
              (refine wp_region_ext wr (Below.refl _ _) (by kernel_rfl) (by kernel_rfl) ?_; (try dsimp only [List.append]); (repeat (go_big_quiet_step (first | (go_at_call 36; exact call_ext_same _ (spec_l1InIs _ _ _ _ _ (by assumption)))))); refine wpQuiet_nil ?_; rintro _ ⟨E, rfl⟩)
              go_wp2
              go_ret
              exact ⟨by (rw [HO9.out, HM.out]) <;> rfl, HBE.out.trans (E.h.mono HBE.out.size)⟩
end Go.Proofs.YtbbdchlabdilcabGreat
