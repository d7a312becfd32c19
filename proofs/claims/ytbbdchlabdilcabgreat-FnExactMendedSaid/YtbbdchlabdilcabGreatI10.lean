/- Chapter 10's program: ThreadOk. (printed by tools/mk_i10.py) -/
import Derived.Test.YtbbdchlabdilcabGreatS10
import Derived.Test.YtbbdchlabdilcabGreatI8
import Derived.Test.YtbbdchlabdilcabGreatM16
namespace Go.Proofs.YtbbdchlabdilcabGreat
set_option maxRecDepth 100000
open Go.RowKit Go.Proofs Go.Own
open Go Go.BigFrame
set_option linter.unusedVariables false
set_option linter.unusedSimpArgs false
theorem impl_isThreadIs (t : Int) (r : Bool) (w : World) (e : inB t 0 3 = r) :
    Calls Tryz.prog 105 #[.int .i64 t] w fun e w' => e = .returned (.bool r) ∧ w = w' := by
  subst e
  go_enter Tryz.func105, Tryz.ntmps105
  go_wp2
  all_goals go_ret
  all_goals (simp [inB, *]; try omega)
theorem impl_isCountedIs (t : Int) (r : Bool) (w : World) (e : inB t 0 1000000 = r) :
    Calls Tryz.prog 114 #[.int .i64 t] w fun e w' => e = .returned (.bool r) ∧ w = w' := by
  subst e
  go_enter Tryz.func114, Tryz.ntmps114
  go_wp2
  all_goals go_ret
  all_goals (simp [inB, *]; try omega)
theorem impl_allValues10 (v : Value) (xs : List Int) (w : World) (h : Ints w v xs) :
    Calls Tryz.prog 47 #[v] w fun e w' => e = .returned (.bool (allIn xs (-1000000000) 1000000000 0)) ∧ w = w' := by
  obtain ⟨ad, cap, rfl, hl, hm, hc⟩ := h.open
  have hlen : xs.length ≤ 9223372036854775807 := by omega
  go_enter Tryz.func47, Tryz.ntmps47
  go_wp2
  go_loop [7] (fun i => ∃ k : Nat, k ≤ xs.length ∧ i = .int .i64 k ∧ Same (allIn xs (-1000000000) 1000000000 0) (allIn xs (-1000000000) 1000000000 k)) (fun i => xs.length - (intOf i).toNat)
  case atStart => exact ⟨0, by omega, rfl, .rfl⟩
  case round =>
    obtain ⟨k, hk, rfl, hall⟩ := hrel
    by_cases hlt : k < xs.length
    · obtain ⟨bb, off, rfl, hbs, hcell⟩ := hc k hlt
      have hst := hid (allIn_step xs (-1000000000) 1000000000 k hlt)
      clear hc
      go_wp2_with ((go_at_call 83; refine (impl_isValue _ _).mono ?_; rintro e w' ⟨rfl, rfl⟩))
      · have hf : (!isVal xs[k]) = true := by assumption
        go_ret
        exact ⟨ret_bool (by rw [hall.out, hst.out]; simp [isVal] at hf; simp [hf]), rfl⟩
      · have hf : (!isVal xs[k]) = false := by assumption
        go_round
        case rel => exact ⟨k+1, by omega, by go_num, .mk (by rw [hall.out, hst.out]; simp [isVal] at hf; simp [hf])⟩
        case measure => simp [intOf]; omega
    · have hst := hid (allIn_end xs (-1000000000) 1000000000 k hlt)
      go_wp2
      go_ret
      exact ⟨ret_bool (by rw [hall.out, hst.out]), rfl⟩
theorem impl_allValuesIs (v : Value) (xs : List Int) (r : Bool) (w : World) (h : Ints w v xs) (e : allIn xs (-1000000000) 1000000000 0 = r) :
    Calls Tryz.prog 47 #[v] w fun e w' => e = .returned (.bool r) ∧ w = w' := by subst e; exact impl_allValues10 v xs w h
theorem impl_ProgOkIs (xs : List Instr) (v : Value) (r : Bool) (w : World) (h : rdsL w v xs) (e : progOk xs = r) :
    Calls Tryz.prog 113 #[v] w fun e w' => e = .returned (.bool r) ∧ Below w.heap.size w w' := by subst e; exact impl_ProgOk v xs w (rdsInstrs.1 h)
theorem impl_OpenOkIs (xs : List Entry) (v : Value) (r : Bool) (w : World) (h : rdsL w v xs) (e : openOk xs = r) :
    Calls Tryz.prog 107 #[v] w fun e w' => e = .returned (.bool r) ∧ Below w.heap.size w w' := by subst e; exact impl_OpenOk v xs w (rdsEntrys.1 h)
theorem impl_StackOkIs (hs : List Head) (ds : List DescD) (st : List Frame) (v0 v1 v2 : Value) (r : Bool) (w : World) (h0 : rdsL w v0 hs) (h1 : rdsL w v1 ds) (h2 : rdsL w v2 st) (e : stackOk hs ds st = r) :
    Calls Tryz.prog 115 #[.agg #[v0, v1], v2] w fun e w' => e = .returned (.bool r) ∧ Below w.heap.size w w' := by subst e; exact impl_StackOk0 hs ds st v0 v1 v2 w h0 h1 h2
theorem impl_hasObjectsOfIs (xs : List Entry) (a0 : Option Addr) (n c0 : Nat) (a1 : Option Addr) (m c1 : Nat) (ow st : Int) (v : Value) (r : Bool) (w : World) (hn : n ≤ 9223372036854775807) (h : rdsL w v xs) (e : xs.all (objIn n) = r) :
    Calls Tryz.prog 82 #[.agg #[.slice a0 n c0, .slice a1 m c1], .agg #[.int .i64 ow, .int .i64 st, v]] w fun e w' => e = .returned (.bool r) ∧ Below w.heap.size w w' := by subst e; exact impl_hasObjectsOf a0 n c0 a1 m c1 ow st v xs w hn (rdsEntrys.1 h)
theorem objs_all {xs : List Entry} (h : openOk xs = true) (n : Nat) : xs.all (objIn n) = objsAt n xs 0 := by
  have hp := openOk_at h
  unfold objsAt
  rw [List.drop_zero, Bool.eq_iff_iff, List.all_eq_true, List.all_eq_true]
  constructor
  · intro h9 e he
    have := h9 e he
    unfold objIn at this
    simp only [Bool.and_eq_true] at this
    exact this.2
  · intro h9 e he
    obtain ⟨i, hi, rfl⟩ := List.getElem_of_mem he
    have h8 := (entryOk_iff.1 (hp i hi).1).1.1
    unfold objIn
    rw [decide_eq_true h8, Bool.true_and]
    exact h9 _ he
set_option maxHeartbeats 16000000 in
theorem impl_mayCommit0 (s : StoreD) (t : ThreadD) (v0 v1 v2 v3 v4 : Value) (w : World) (h0 : rdsL w v0 s.heads_) (h1 : rdsL w v1 s.descs_) (h2 : rdsL w v2 t.prog_) (h4 : rdsL w v4 t.stack_) (hA : 0 ≤ t.at_) :
    Calls Tryz.prog 116 #[.agg #[v0, v1], .agg #[.int .i64 t.id_, v2, .int .i64 t.at_, .int .i64 t.reg0_, .int .i64 t.reg1_, .int .i64 t.reg2_, .int .i64 t.reg3_, v3, .int .i64 t.check_, v4, .int .i64 t.mine_, .int .i64 t.state_, .int .i64 t.commits_, .int .i64 t.fails_]] w fun e w' => e = .returned (.bool (mineOk s t)) ∧ Below w.heap.size w w' := by
  obtain ⟨hs, ds⟩ := s
  obtain ⟨id, pr, at_, r0, r1, r2, r3, op, ck, st, mi, sta, cm, fl⟩ := t
  dsimp only at h0 h1 h2 h4 hA ⊢
  obtain ⟨a0, cap0, rfl, hl0, hm0, -⟩ := rdsL_open h0
  obtain ⟨a1, cap1, rfl, hl1, hm1, hc1⟩ := rdsL_open h1
  obtain ⟨a2, cap2, rfl, hl2, hm2, hc2⟩ := rdsL_open h2
  obtain ⟨a4, cap4, rfl, hl4, hm4, -⟩ := rdsL_open h4
  have HC1 := hid hc1
  have HC2 := hid hc2
  clear hc1 hc2
  obtain ⟨W1, hW1⟩ : ∃ X, (w.alloc (.cells #[Value.slice a0 hs.length cap0, Value.slice a1 ds.length cap1] 37)).alloc (.cells #[.int .i64 id, Value.slice a2 pr.length cap2, .int .i64 at_, .int .i64 r0, .int .i64 r1, .int .i64 r2, .int .i64 r3, v3, .int .i64 ck, Value.slice a4 st.length cap4, .int .i64 mi, .int .i64 sta, .int .i64 cm, .int .i64 fl] 82) = X := ⟨_, rfl⟩
  have hB1 : Below w.heap.size w W1 := by rw [← hW1]; exact ((Below.refl _ _).alloc (Nat.le_refl _) _).alloc (by simp) _
  have bs : Box W1 w.heap.size [Value.slice a0 hs.length cap0, Value.slice a1 ds.length cap1] := by
    rw [← hW1]; exact (Box.alloc w #[Value.slice a0 hs.length cap0, Value.slice a1 ds.length cap1] 37).below ((Below.refl _ _).alloc (Nat.le_refl _) _)
  have bt : Box W1 (w.heap.size + 1) [.int .i64 id, Value.slice a2 pr.length cap2, .int .i64 at_, .int .i64 r0, .int .i64 r1, .int .i64 r2, .int .i64 r3, v3, .int .i64 ck, Value.slice a4 st.length cap4, .int .i64 mi, .int .i64 sta, .int .i64 cm, .int .i64 fl] := by
    rw [← hW1]
    have h9 := Box.alloc (w.alloc (.cells #[Value.slice a0 hs.length cap0, Value.slice a1 ds.length cap1] 37)) #[.int .i64 id, Value.slice a2 pr.length cap2, .int .i64 at_, .int .i64 r0, .int .i64 r1, .int .i64 r2, .int .i64 r3, v3, .int .i64 ck, Value.slice a4 st.length cap4, .int .i64 mi, .int .i64 sta, .int .i64 cm, .int .i64 fl] 82
    rw [show (w.alloc (.cells #[Value.slice a0 hs.length cap0, Value.slice a1 ds.length cap1] 37)).heap.size = w.heap.size + 1 by simp] at h9
    exact h9
  have BS := hid bs
  have BT := hid bt
  have HW1 := hid hW1
  have HB := hid hB1
  have t0 := Ext.cell BT.out.1 (show W1.cell? ⟨w.heap.size + 1, 0, none⟩ = some (.int .i64 id) from BT.out.2 0 (by simp))
  have t1 := Ext.cell BT.out.1 (show W1.cell? ⟨w.heap.size + 1, 1, none⟩ = some (Value.slice a2 pr.length cap2) from BT.out.2 1 (by simp))
  have t2 := Ext.cell BT.out.1 (show W1.cell? ⟨w.heap.size + 1, 2, none⟩ = some (.int .i64 at_) from BT.out.2 2 (by simp))
  have t8 := Ext.cell BT.out.1 (show W1.cell? ⟨w.heap.size + 1, 8, none⟩ = some (.int .i64 ck) from BT.out.2 8 (by simp))
  have t9 := Ext.cell BT.out.1 (show W1.cell? ⟨w.heap.size + 1, 9, none⟩ = some (Value.slice a4 st.length cap4) from BT.out.2 9 (by simp))
  have t10 := Ext.cell BT.out.1 (show W1.cell? ⟨w.heap.size + 1, 10, none⟩ = some (.int .i64 mi) from BT.out.2 10 (by simp))
  have s0 := Ext.cell BS.out.1 (show W1.cell? ⟨w.heap.size, 0, none⟩ = some (Value.slice a0 hs.length cap0) from BS.out.2 0 (by simp))
  have s1 := Ext.cell BS.out.1 (show W1.cell? ⟨w.heap.size, 1, none⟩ = some (Value.slice a1 ds.length cap1) from BS.out.2 1 (by simp))
  have t10n := Ext.now t10
  have t1n := Ext.now t1
  have t2n := Ext.now t2
  clear h0 h1 h2 h4 hW1 hB1 bs bt
  go_enter Tryz.func116, Tryz.ntmps116
  go_upto_region 1 with fail
  rw [HW1.out]
  by_cases hm : mi = -1
  · have hm1 : (mi == -1) = true := by rw [hm]; rfl
    have HM := hid (show mineOk ⟨hs, ds⟩ ⟨id, pr, at_, r0, r1, r2, r3, op, ck, st, mi, sta, cm, fl⟩ = true by unfold mineOk; simp [hm])
    clear hm
    go_wp2
    go_ret
    exact ⟨by (rw [HM.out]) <;> rfl, HB.out⟩
  have hm1 : (mi == -1) = false := by simp [hm]
  go_wp2_with fail
  cases hmi : isIn ds.length mi with
  | false =>
    have hq : inB mi 0 ((ds.length : Int) - 1) = false := by
      unfold isIn at hmi; simp only [Bool.and_eq_false_iff, decide_eq_false_iff_not] at hmi; simp [inB]; omega
    have HM := hid (show mineOk ⟨hs, ds⟩ ⟨id, pr, at_, r0, r1, r2, r3, op, ck, st, mi, sta, cm, fl⟩ = false by unfold mineOk; simp [hm, hq])
    clear hm
    (refine wp_region_ext W1 (Below.refl _ _) (by kernel_rfl) (by kernel_rfl) ?_; (try dsimp only [List.append]); (repeat (go_big_quiet_step (first | (go_at_call 111; exact call_ext _ (impl_isDescIs _ _ _ _ _ _ _ _ _ (by omega) hmi))))); refine wpQuiet_nil ?_; rintro _ ⟨E, rfl⟩)
    go_wp2
    go_ret
    exact ⟨by (rw [HM.out]) <;> rfl, HB.out.trans (E.h.mono HB.out.size)⟩
  | true =>
  obtain ⟨m, rfl⟩ : ∃ m : Nat, mi = m := ⟨mi.toNat, by simp [isIn] at hmi; omega⟩
  have hml : m < ds.length := by simp [isIn] at hmi; omega
  have hq : inB (m : Int) 0 ((ds.length : Int) - 1) = true := by simp [inB]; omega
  obtain ⟨b1, o1, cs1, rfl, hb1, ⟨v9, rfl, -⟩, hcell⟩ := HC1.out m hml
  have hbW := Nat.lt_of_lt_of_le hb1 HB.out.size
  obtain ⟨ow, how⟩ : ∃ ow, Hid (ds[m].owner_ = ow) := ⟨_, hid rfl⟩
  have y0 := Ext.cell hbW ((HB.out.cell (p := ⟨b1, o1 + m * 3, none⟩) hb1).trans (show w.cell? ⟨b1, o1 + m * 3, none⟩ = some (.int .i64 ow) by rw [← how.out]; exact hcell 0 (show 0 < 3 by omega)))
  have hOA := hid (show ownerAt ds m = ow by unfold ownerAt; rw [Int.toNat_natCast, List.getElem?_eq_getElem hml]; exact how.out)
  have hmi1 : (m : Int) < (ds.length : Int) := by omega
  have hmi0 : (0 : Int) ≤ (m : Int) := by omega
  clear hcell how
  by_cases ho : ow = id
  rotate_left
  · have ho1 : (ow != id) = true := by simp [ho]
    have ho2 : (ow == id) = false := by simp [ho]
    have HM := hid (show mineOk ⟨hs, ds⟩ ⟨id, pr, at_, r0, r1, r2, r3, op, ck, st, m, sta, cm, fl⟩ = false by unfold mineOk; dsimp only; rw [hm1, hq, hOA.out, ho2]; simp)
    clear hm
    (refine wp_region_ext W1 (Below.refl _ _) (by kernel_rfl) (by kernel_rfl) ?_; (try dsimp only [List.append]); (repeat (go_big_quiet_step (first | (go_at_call 111; exact call_ext _ (impl_isDescIs _ _ _ _ _ _ _ _ _ (by omega) hmi))))); refine wpQuiet_nil ?_; rintro _ ⟨E, rfl⟩)
    go_wp2
    go_ret
    exact ⟨by (rw [HM.out]) <;> rfl, HB.out.trans (E.h.mono HB.out.size)⟩
  have ho1 : (ow != id) = false := by simp [ho]
  have ho2 : (ow == id) = true := by simp [ho]
  clear ho
  by_cases hc : ck = -1
  rotate_left
  · have hc1 : (ck != -1) = true := by simp [hc]
    have hc2 : (ck == -1) = false := by simp [hc]
    clear hc
    have HM := hid (show mineOk ⟨hs, ds⟩ ⟨id, pr, at_, r0, r1, r2, r3, op, ck, st, m, sta, cm, fl⟩ = false by unfold mineOk; dsimp only; rw [hm1, hc2]; simp)
    clear hm
    (refine wp_region_ext W1 (Below.refl _ _) (by kernel_rfl) (by kernel_rfl) ?_; (try dsimp only [List.append]); (repeat (go_big_quiet_step (first | (go_at_call 111; exact call_ext _ (impl_isDescIs _ _ _ _ _ _ _ _ _ (by omega) hmi))))); refine wpQuiet_nil ?_; rintro _ ⟨E, rfl⟩)
    go_wp2
    go_ret
    exact ⟨by (rw [HM.out]) <;> rfl, HB.out.trans (E.h.mono HB.out.size)⟩
  have hc1 : (ck != -1) = false := by simp [hc]
  have hc2 : (ck == -1) = true := by simp [hc]
  clear hc
  by_cases hs0 : st.length = 0
  · have hs1 : ((st.length : Int) == 0) = true := by simp [hs0]
    have hs2 : decide (0 < st.length) = false := decide_eq_false (by omega)
    have HM := hid (show mineOk ⟨hs, ds⟩ ⟨id, pr, at_, r0, r1, r2, r3, op, ck, st, m, sta, cm, fl⟩ = false by unfold mineOk; dsimp only; rw [hm1, hs2]; simp)
    clear hm hs0
    (refine wp_region_ext W1 (Below.refl _ _) (by kernel_rfl) (by kernel_rfl) ?_; (try dsimp only [List.append]); (repeat (go_big_quiet_step (first | (go_at_call 111; exact call_ext _ (impl_isDescIs _ _ _ _ _ _ _ _ _ (by omega) hmi))))); refine wpQuiet_nil ?_; rintro _ ⟨E, rfl⟩)
    go_wp2
    go_ret
    exact ⟨by (rw [HM.out]) <;> rfl, HB.out.trans (E.h.mono HB.out.size)⟩
  have hs1 : ((st.length : Int) == 0) = false := by rw [beq_eq_false_iff_ne]; omega
  have hs2 : decide (0 < st.length) = true := decide_eq_true (by omega)
  have HM := hid (show mineOk ⟨hs, ds⟩ ⟨id, pr, at_, r0, r1, r2, r3, op, ck, st, m, sta, cm, fl⟩ = (decide (at_ < (pr.length : Int)) && opAt pr at_ == 6) by unfold mineOk; dsimp only; rw [hm1, hc2, hq, hOA.out, ho2, hs2]; simp)
  clear hm hs0 hs2 hc2 ho2
  (refine wp_region_ext W1 (Below.refl _ _) (by kernel_rfl) (by kernel_rfl) ?_; (try dsimp only [List.append]); (repeat (go_big_quiet_step (first | (go_at_call 111; exact call_ext _ (impl_isDescIs _ _ _ _ _ _ _ _ _ (by omega) hmi))))); refine wpQuiet_nil ?_; rintro _ ⟨E, rfl⟩)
  have HBE := hid (HB.out.trans (E.h.mono HB.out.size))
  have z1 := t1 E
  have z2 := t2 E
  by_cases hat : at_ < (pr.length : Int)
  · obtain ⟨n, rfl⟩ : ∃ n : Nat, at_ = n := ⟨at_.toNat, by omega⟩
    have hnl : n < pr.length := by omega
    obtain ⟨b2, o2, cs2, rfl, hb2, rfl, hcell⟩ := HC2.out n hnl
    obtain ⟨oq, hoq⟩ : ∃ oq, Hid (pr[n].op_ = oq) := ⟨_, hid rfl⟩
    have z0 : E.w.cell? ⟨b2, o2 + n * 3, none⟩ = some (.int .i64 oq) := (HBE.out.cell (p := ⟨b2, o2 + n * 3, none⟩) hb2).trans (show w.cell? ⟨b2, o2 + n * 3, none⟩ = some (.int .i64 oq) by rw [← hoq.out]; exact hcell 0 (show 0 < 3 by omega))
    have hOP := hid (show opAt pr n = oq by unfold opAt; rw [Int.toNat_natCast, List.getElem?_eq_getElem hnl]; exact hoq.out)
    have HM9 := hid (show mineOk ⟨hs, ds⟩ ⟨id, pr, n, r0, r1, r2, r3, op, ck, st, m, sta, cm, fl⟩ = (oq == 6) by rw [HM.out, decide_eq_true hat, hOP.out]; rfl)
    clear hcell hoq
    go_wp2
    go_ret
    exact ⟨by (rw [HM9.out]) <;> rfl, HBE.out⟩
  · have HM9 := hid (show mineOk ⟨hs, ds⟩ ⟨id, pr, at_, r0, r1, r2, r3, op, ck, st, m, sta, cm, fl⟩ = false by rw [HM.out, decide_eq_false hat]; rfl)
    go_wp2
    go_ret
    exact ⟨by (rw [HM9.out]) <;> rfl, HBE.out⟩
theorem impl_mayCommitIs (s : StoreD) (t : ThreadD) (v0 v1 v2 v3 v4 : Value) (r : Bool) (w : World) (h0 : rdsL w v0 s.heads_) (h1 : rdsL w v1 s.descs_) (h2 : rdsL w v2 t.prog_) (h4 : rdsL w v4 t.stack_) (hA : 0 ≤ t.at_) (e : mineOk s t = r) :
    Calls Tryz.prog 116 #[.agg #[v0, v1], .agg #[.int .i64 t.id_, v2, .int .i64 t.at_, .int .i64 t.reg0_, .int .i64 t.reg1_, .int .i64 t.reg2_, .int .i64 t.reg3_, v3, .int .i64 t.check_, v4, .int .i64 t.mine_, .int .i64 t.state_, .int .i64 t.commits_, .int .i64 t.fails_]] w fun e w' => e = .returned (.bool r) ∧ Below w.heap.size w w' := by subst e; exact impl_mayCommit0 s t v0 v1 v2 v3 v4 w h0 h1 h2 h4 hA
set_option maxHeartbeats 16000000 in
theorem impl_ThreadOk0 (s : StoreD) (t : ThreadD) (v0 v1 v2 v3 v4 : Value) (w : World) (h0 : rdsL w v0 s.heads_) (h1 : rdsL w v1 s.descs_) (h2 : rdsL w v2 t.prog_) (h3 : rdsL w v3 t.open_) (h4 : rdsL w v4 t.stack_) :
    Calls Tryz.prog 86 #[.agg #[v0, v1], .agg #[.int .i64 t.id_, v2, .int .i64 t.at_, .int .i64 t.reg0_, .int .i64 t.reg1_, .int .i64 t.reg2_, .int .i64 t.reg3_, v3, .int .i64 t.check_, v4, .int .i64 t.mine_, .int .i64 t.state_, .int .i64 t.commits_, .int .i64 t.fails_]] w fun e w' => e = .returned (.bool (threadOk s t)) ∧ Below w.heap.size w w' := by
  obtain ⟨hs, ds⟩ := s
  obtain ⟨id, pr, at_, r0, r1, r2, r3, op, ck, st, mi, sta, cm, fl⟩ := t
  dsimp only at h0 h1 h2 h3 h4 ⊢
  obtain ⟨a0, cap0, rfl, hl0, hm0, -⟩ := rdsL_open h0
  obtain ⟨a1, cap1, rfl, hl1, hm1, hc1⟩ := rdsL_open h1
  obtain ⟨a2, cap2, rfl, hl2, hm2, hc2⟩ := rdsL_open h2
  obtain ⟨a3, cap3, rfl, hl3, hm3, -⟩ := rdsL_open h3
  obtain ⟨a4, cap4, rfl, hl4, hm4, -⟩ := rdsL_open h4
  have HC1 := hid hc1
  have HC2 := hid hc2
  clear hc1 hc2
  obtain ⟨W1, hW1⟩ : ∃ X, (w.alloc (.cells #[Value.slice a0 hs.length cap0, Value.slice a1 ds.length cap1] 37)).alloc (.cells #[.int .i64 id, Value.slice a2 pr.length cap2, .int .i64 at_, .int .i64 r0, .int .i64 r1, .int .i64 r2, .int .i64 r3, Value.slice a3 op.length cap3, .int .i64 ck, Value.slice a4 st.length cap4, .int .i64 mi, .int .i64 sta, .int .i64 cm, .int .i64 fl] 82) = X := ⟨_, rfl⟩
  have hB1 : Below w.heap.size w W1 := by rw [← hW1]; exact ((Below.refl _ _).alloc (Nat.le_refl _) _).alloc (by simp) _
  have bs : Box W1 w.heap.size [Value.slice a0 hs.length cap0, Value.slice a1 ds.length cap1] := by
    rw [← hW1]; exact (Box.alloc w #[Value.slice a0 hs.length cap0, Value.slice a1 ds.length cap1] 37).below ((Below.refl _ _).alloc (Nat.le_refl _) _)
  have bt : Box W1 (w.heap.size + 1) [.int .i64 id, Value.slice a2 pr.length cap2, .int .i64 at_, .int .i64 r0, .int .i64 r1, .int .i64 r2, .int .i64 r3, Value.slice a3 op.length cap3, .int .i64 ck, Value.slice a4 st.length cap4, .int .i64 mi, .int .i64 sta, .int .i64 cm, .int .i64 fl] := by
    rw [← hW1]
    have h9 := Box.alloc (w.alloc (.cells #[Value.slice a0 hs.length cap0, Value.slice a1 ds.length cap1] 37)) #[.int .i64 id, Value.slice a2 pr.length cap2, .int .i64 at_, .int .i64 r0, .int .i64 r1, .int .i64 r2, .int .i64 r3, Value.slice a3 op.length cap3, .int .i64 ck, Value.slice a4 st.length cap4, .int .i64 mi, .int .i64 sta, .int .i64 cm, .int .i64 fl] 82
    rw [show (w.alloc (.cells #[Value.slice a0 hs.length cap0, Value.slice a1 ds.length cap1] 37)).heap.size = w.heap.size + 1 by simp] at h9
    exact h9
  have BS := hid bs
  have BT := hid bt
  have HW1 := hid hW1
  have HB := hid hB1
  have t0 := Ext.cell BT.out.1 (show W1.cell? ⟨w.heap.size + 1, 0, none⟩ = some (.int .i64 id) from BT.out.2 0 (by simp))
  have t1 := Ext.cell BT.out.1 (show W1.cell? ⟨w.heap.size + 1, 1, none⟩ = some (Value.slice a2 pr.length cap2) from BT.out.2 1 (by simp))
  have t2 := Ext.cell BT.out.1 (show W1.cell? ⟨w.heap.size + 1, 2, none⟩ = some (.int .i64 at_) from BT.out.2 2 (by simp))
  have t7 := Ext.cell BT.out.1 (show W1.cell? ⟨w.heap.size + 1, 7, none⟩ = some (Value.slice a3 op.length cap3) from BT.out.2 7 (by simp))
  have t8 := Ext.cell BT.out.1 (show W1.cell? ⟨w.heap.size + 1, 8, none⟩ = some (.int .i64 ck) from BT.out.2 8 (by simp))
  have t9 := Ext.cell BT.out.1 (show W1.cell? ⟨w.heap.size + 1, 9, none⟩ = some (Value.slice a4 st.length cap4) from BT.out.2 9 (by simp))
  have t10 := Ext.cell BT.out.1 (show W1.cell? ⟨w.heap.size + 1, 10, none⟩ = some (.int .i64 mi) from BT.out.2 10 (by simp))
  have t11 := Ext.cell BT.out.1 (show W1.cell? ⟨w.heap.size + 1, 11, none⟩ = some (.int .i64 sta) from BT.out.2 11 (by simp))
  have t12 := Ext.cell BT.out.1 (show W1.cell? ⟨w.heap.size + 1, 12, none⟩ = some (.int .i64 cm) from BT.out.2 12 (by simp))
  have t13 := Ext.cell BT.out.1 (show W1.cell? ⟨w.heap.size + 1, 13, none⟩ = some (.int .i64 fl) from BT.out.2 13 (by simp))
  have q3 := Ext.cell BT.out.1 (show W1.cell? ⟨w.heap.size + 1, 3, none⟩ = some (.int .i64 r0) from BT.out.2 3 (by simp))
  have q4 := Ext.cell BT.out.1 (show W1.cell? ⟨w.heap.size + 1, 4, none⟩ = some (.int .i64 r1) from BT.out.2 4 (by simp))
  have q5 := Ext.cell BT.out.1 (show W1.cell? ⟨w.heap.size + 1, 5, none⟩ = some (.int .i64 r2) from BT.out.2 5 (by simp))
  have q6 := Ext.cell BT.out.1 (show W1.cell? ⟨w.heap.size + 1, 6, none⟩ = some (.int .i64 r3) from BT.out.2 6 (by simp))
  have s0 := Ext.cell BS.out.1 (show W1.cell? ⟨w.heap.size, 0, none⟩ = some (Value.slice a0 hs.length cap0) from BS.out.2 0 (by simp))
  have s1 := Ext.cell BS.out.1 (show W1.cell? ⟨w.heap.size, 1, none⟩ = some (Value.slice a1 ds.length cap1) from BS.out.2 1 (by simp))
  have hI4 : Hid (∀ E : Ext W1, Ints E.w (.slice (some ⟨w.heap.size + 1, 3, none⟩) 4 4) [r0, r1, r2, r3]) := hid (fun E => by
    refine ⟨rfl, _, _, rfl, Nat.le_refl 4, (by decide : (4 : Nat) ≤ 9223372036854775807), (fun h => by cases h), .inr ⟨_, _, rfl, Nat.lt_of_lt_of_le BT.out.1 E.size, fun j hj => ?_⟩⟩
    match j, hj with
    | 0, _ => exact q3 E
    | 1, _ => exact q4 E
    | 2, _ => exact q5 E
    | 3, _ => exact q6 E)

  have hw2 : IntKind.i64.wrap ((op.length : Int) - 2) = (op.length : Int) - 2 := IntWalk.i64_in _ (by omega)
  have R0 := hid (rdsL.below h0 HB.out)
  have R1 := hid (rdsL.below h1 HB.out)
  have R2 := hid (rdsL.below h2 HB.out)
  have R3 := hid (rdsL.below h3 HB.out)
  have R4 := hid (rdsL.below h4 HB.out)
  clear h0 h1 h2 h3 h4 hW1 hB1 bs bt HC1 HC2
  go_enter Tryz.func86, Tryz.ntmps86
  go_upto_region 1 with fail
  rw [HW1.out]
  rw [show W1 = (Ext.here W1).w from rfl]
  cases hI : inB id 0 3 with
  | false =>
    have Hn := hid (show threadOk ⟨hs, ds⟩ ⟨id, pr, at_, r0, r1, r2, r3, op, ck, st, mi, sta, cm, fl⟩ = false by unfold threadOk firstOk; simp [hI])
    (refine wp_region_ext0 W1 (Ext.h _) ?_; (try dsimp only [List.append]); (repeat (go_big_quiet_step (first | (go_at_call 105; exact call_ext_same _ (impl_isThreadIs _ _ _ hI)) | (go_at_call 113; exact call_ext _ (impl_ProgOkIs pr _ _ _ (Ext.rds R2.out _) hP)) | (go_at_call 47; exact call_ext_same _ (impl_allValuesIs _ _ _ _ (hI4.out _) hV)) | (go_at_call 107; exact call_ext _ (impl_OpenOkIs op _ _ _ (Ext.rds R3.out _) hO)) | (go_at_call 114; exact call_ext_same _ (impl_isCountedIs _ _ _ (by assumption))) | (go_at_call 115; exact call_ext _ (impl_StackOkIs hs ds st _ _ _ _ _ (Ext.rds R0.out _) (Ext.rds R1.out _) (Ext.rds R4.out _) hS)) | (go_at_call 82; exact call_ext _ (impl_hasObjectsOfIs op _ _ _ _ _ _ _ _ _ _ _ (by omega) (Ext.rds R3.out _) hJ)) | (go_at_call 116; exact call_ext _ (impl_mayCommitIs ⟨hs, ds⟩ ⟨id, pr, at_, r0, r1, r2, r3, op, ck, st, mi, sta, cm, fl⟩ _ _ _ _ _ _ _ (Ext.rds R0.out _) (Ext.rds R1.out _) (Ext.rds R2.out _) (Ext.rds R4.out _) hA2.out hM))))); refine wpQuiet_nil ?_; rintro _ ⟨E, rfl⟩)
    (go_wp2; go_ret; exact ⟨by (rw [Hn.out]) <;> rfl, HB.out.trans (E.h.mono HB.out.size)⟩)
  | true =>
  cases hP : progOk pr with
  | false =>
    have Hn := hid (show threadOk ⟨hs, ds⟩ ⟨id, pr, at_, r0, r1, r2, r3, op, ck, st, mi, sta, cm, fl⟩ = false by unfold threadOk firstOk; simp [hP])
    (refine wp_region_ext0 W1 (Ext.h _) ?_; (try dsimp only [List.append]); (repeat (go_big_quiet_step (first | (go_at_call 105; exact call_ext_same _ (impl_isThreadIs _ _ _ hI)) | (go_at_call 113; exact call_ext _ (impl_ProgOkIs pr _ _ _ (Ext.rds R2.out _) hP)) | (go_at_call 47; exact call_ext_same _ (impl_allValuesIs _ _ _ _ (hI4.out _) hV)) | (go_at_call 107; exact call_ext _ (impl_OpenOkIs op _ _ _ (Ext.rds R3.out _) hO)) | (go_at_call 114; exact call_ext_same _ (impl_isCountedIs _ _ _ (by assumption))) | (go_at_call 115; exact call_ext _ (impl_StackOkIs hs ds st _ _ _ _ _ (Ext.rds R0.out _) (Ext.rds R1.out _) (Ext.rds R4.out _) hS)) | (go_at_call 82; exact call_ext _ (impl_hasObjectsOfIs op _ _ _ _ _ _ _ _ _ _ _ (by omega) (Ext.rds R3.out _) hJ)) | (go_at_call 116; exact call_ext _ (impl_mayCommitIs ⟨hs, ds⟩ ⟨id, pr, at_, r0, r1, r2, r3, op, ck, st, mi, sta, cm, fl⟩ _ _ _ _ _ _ _ (Ext.rds R0.out _) (Ext.rds R1.out _) (Ext.rds R2.out _) (Ext.rds R4.out _) hA2.out hM))))); refine wpQuiet_nil ?_; rintro _ ⟨E, rfl⟩)
    (go_wp2; go_ret; exact ⟨by (rw [Hn.out]) <;> rfl, HB.out.trans (E.h.mono HB.out.size)⟩)
  | true =>
  by_cases ha0 : at_ < 0
  · have hA0 : inB at_ 0 pr.length = false := by simp [inB]; omega
    have Hn := hid (show threadOk ⟨hs, ds⟩ ⟨id, pr, at_, r0, r1, r2, r3, op, ck, st, mi, sta, cm, fl⟩ = false by unfold threadOk firstOk; simp [hA0])
    (refine wp_region_ext0 W1 (Ext.h _) ?_; (try dsimp only [List.append]); (repeat (go_big_quiet_step (first | (go_at_call 105; exact call_ext_same _ (impl_isThreadIs _ _ _ hI)) | (go_at_call 113; exact call_ext _ (impl_ProgOkIs pr _ _ _ (Ext.rds R2.out _) hP)) | (go_at_call 47; exact call_ext_same _ (impl_allValuesIs _ _ _ _ (hI4.out _) hV)) | (go_at_call 107; exact call_ext _ (impl_OpenOkIs op _ _ _ (Ext.rds R3.out _) hO)) | (go_at_call 114; exact call_ext_same _ (impl_isCountedIs _ _ _ (by assumption))) | (go_at_call 115; exact call_ext _ (impl_StackOkIs hs ds st _ _ _ _ _ (Ext.rds R0.out _) (Ext.rds R1.out _) (Ext.rds R4.out _) hS)) | (go_at_call 82; exact call_ext _ (impl_hasObjectsOfIs op _ _ _ _ _ _ _ _ _ _ _ (by omega) (Ext.rds R3.out _) hJ)) | (go_at_call 116; exact call_ext _ (impl_mayCommitIs ⟨hs, ds⟩ ⟨id, pr, at_, r0, r1, r2, r3, op, ck, st, mi, sta, cm, fl⟩ _ _ _ _ _ _ _ (Ext.rds R0.out _) (Ext.rds R1.out _) (Ext.rds R2.out _) (Ext.rds R4.out _) hA2.out hM))))); refine wpQuiet_nil ?_; rintro _ ⟨E, rfl⟩)
    (go_wp2; go_ret; exact ⟨by (rw [Hn.out]) <;> rfl, HB.out.trans (E.h.mono HB.out.size)⟩)
  by_cases ha1 : (pr.length : Int) < at_
  · have hA0 : inB at_ 0 pr.length = false := by simp [inB]; omega
    have Hn := hid (show threadOk ⟨hs, ds⟩ ⟨id, pr, at_, r0, r1, r2, r3, op, ck, st, mi, sta, cm, fl⟩ = false by unfold threadOk firstOk; simp [hA0])
    (refine wp_region_ext0 W1 (Ext.h _) ?_; (try dsimp only [List.append]); (repeat (go_big_quiet_step (first | (go_at_call 105; exact call_ext_same _ (impl_isThreadIs _ _ _ hI)) | (go_at_call 113; exact call_ext _ (impl_ProgOkIs pr _ _ _ (Ext.rds R2.out _) hP)) | (go_at_call 47; exact call_ext_same _ (impl_allValuesIs _ _ _ _ (hI4.out _) hV)) | (go_at_call 107; exact call_ext _ (impl_OpenOkIs op _ _ _ (Ext.rds R3.out _) hO)) | (go_at_call 114; exact call_ext_same _ (impl_isCountedIs _ _ _ (by assumption))) | (go_at_call 115; exact call_ext _ (impl_StackOkIs hs ds st _ _ _ _ _ (Ext.rds R0.out _) (Ext.rds R1.out _) (Ext.rds R4.out _) hS)) | (go_at_call 82; exact call_ext _ (impl_hasObjectsOfIs op _ _ _ _ _ _ _ _ _ _ _ (by omega) (Ext.rds R3.out _) hJ)) | (go_at_call 116; exact call_ext _ (impl_mayCommitIs ⟨hs, ds⟩ ⟨id, pr, at_, r0, r1, r2, r3, op, ck, st, mi, sta, cm, fl⟩ _ _ _ _ _ _ _ (Ext.rds R0.out _) (Ext.rds R1.out _) (Ext.rds R2.out _) (Ext.rds R4.out _) hA2.out hM))))); refine wpQuiet_nil ?_; rintro _ ⟨E, rfl⟩)
    (go_wp2; go_ret; exact ⟨by (rw [Hn.out]) <;> rfl, HB.out.trans (E.h.mono HB.out.size)⟩)
  have hA := hid (show inB at_ 0 pr.length = true by simp [inB]; omega)
  have hA2 := hid (show (0 : Int) ≤ at_ by omega)
  cases hV : allIn [r0, r1, r2, r3] (-1000000000) 1000000000 0 with
  | false =>
    have hrg : (regOk ⟨id, pr, at_, r0, r1, r2, r3, op, ck, st, mi, sta, cm, fl⟩ 0 && regOk ⟨id, pr, at_, r0, r1, r2, r3, op, ck, st, mi, sta, cm, fl⟩ 1 && regOk ⟨id, pr, at_, r0, r1, r2, r3, op, ck, st, mi, sta, cm, fl⟩ 2 && regOk ⟨id, pr, at_, r0, r1, r2, r3, op, ck, st, mi, sta, cm, fl⟩ 3) = false := by rw [← hV]; simp [regOk, allIn, isVal, Bool.and_assoc]
    have Hn := hid (show threadOk ⟨hs, ds⟩ ⟨id, pr, at_, r0, r1, r2, r3, op, ck, st, mi, sta, cm, fl⟩ = false by unfold threadOk; rw [hrg]; simp)
    clear hrg
    (refine wp_region_ext0 W1 (Ext.h _) ?_; (try dsimp only [List.append]); (repeat (go_big_quiet_step (first | (go_at_call 105; exact call_ext_same _ (impl_isThreadIs _ _ _ hI)) | (go_at_call 113; exact call_ext _ (impl_ProgOkIs pr _ _ _ (Ext.rds R2.out _) hP)) | (go_at_call 47; exact call_ext_same _ (impl_allValuesIs _ _ _ _ (hI4.out _) hV)) | (go_at_call 107; exact call_ext _ (impl_OpenOkIs op _ _ _ (Ext.rds R3.out _) hO)) | (go_at_call 114; exact call_ext_same _ (impl_isCountedIs _ _ _ (by assumption))) | (go_at_call 115; exact call_ext _ (impl_StackOkIs hs ds st _ _ _ _ _ (Ext.rds R0.out _) (Ext.rds R1.out _) (Ext.rds R4.out _) hS)) | (go_at_call 82; exact call_ext _ (impl_hasObjectsOfIs op _ _ _ _ _ _ _ _ _ _ _ (by omega) (Ext.rds R3.out _) hJ)) | (go_at_call 116; exact call_ext _ (impl_mayCommitIs ⟨hs, ds⟩ ⟨id, pr, at_, r0, r1, r2, r3, op, ck, st, mi, sta, cm, fl⟩ _ _ _ _ _ _ _ (Ext.rds R0.out _) (Ext.rds R1.out _) (Ext.rds R2.out _) (Ext.rds R4.out _) hA2.out hM))))); refine wpQuiet_nil ?_; rintro _ ⟨E, rfl⟩)
    (go_wp2; go_ret; exact ⟨by (rw [Hn.out]) <;> rfl, HB.out.trans (E.h.mono HB.out.size)⟩)
  | true =>
  have HRG := hid (show (regOk ⟨id, pr, at_, r0, r1, r2, r3, op, ck, st, mi, sta, cm, fl⟩ 0 && regOk ⟨id, pr, at_, r0, r1, r2, r3, op, ck, st, mi, sta, cm, fl⟩ 1 && regOk ⟨id, pr, at_, r0, r1, r2, r3, op, ck, st, mi, sta, cm, fl⟩ 2 && regOk ⟨id, pr, at_, r0, r1, r2, r3, op, ck, st, mi, sta, cm, fl⟩ 3) = true by rw [← hV]; simp [regOk, allIn, isVal, Bool.and_assoc])
  (refine wp_region_ext0 W1 (Ext.h _) ?_; (try dsimp only [List.append]); (repeat (go_big_quiet_step (first | (go_at_call 105; exact call_ext_same _ (impl_isThreadIs _ _ _ hI)) | (go_at_call 113; exact call_ext _ (impl_ProgOkIs pr _ _ _ (Ext.rds R2.out _) hP)) | (go_at_call 47; exact call_ext_same _ (impl_allValuesIs _ _ _ _ (hI4.out _) hV)) | (go_at_call 107; exact call_ext _ (impl_OpenOkIs op _ _ _ (Ext.rds R3.out _) hO)) | (go_at_call 114; exact call_ext_same _ (impl_isCountedIs _ _ _ (by assumption))) | (go_at_call 115; exact call_ext _ (impl_StackOkIs hs ds st _ _ _ _ _ (Ext.rds R0.out _) (Ext.rds R1.out _) (Ext.rds R4.out _) hS)) | (go_at_call 82; exact call_ext _ (impl_hasObjectsOfIs op _ _ _ _ _ _ _ _ _ _ _ (by omega) (Ext.rds R3.out _) hJ)) | (go_at_call 116; exact call_ext _ (impl_mayCommitIs ⟨hs, ds⟩ ⟨id, pr, at_, r0, r1, r2, r3, op, ck, st, mi, sta, cm, fl⟩ _ _ _ _ _ _ _ (Ext.rds R0.out _) (Ext.rds R1.out _) (Ext.rds R2.out _) (Ext.rds R4.out _) hA2.out hM))))); refine wpQuiet_nil ?_; rintro _ ⟨E, rfl⟩)
  have HBE := hid (HB.out.trans (E.h.mono HB.out.size))
  clear hV ha0 ha1
  go_upto_region 3 with fail
  cases hO : openOk op with
  | false =>
    have Hn := hid (show threadOk ⟨hs, ds⟩ ⟨id, pr, at_, r0, r1, r2, r3, op, ck, st, mi, sta, cm, fl⟩ = false by unfold threadOk firstOk; simp [hO])
    (refine wp_region_ext0 W1 (Ext.h _) ?_; (try dsimp only [List.append]); (repeat (go_big_quiet_step (first | (go_at_call 105; exact call_ext_same _ (impl_isThreadIs _ _ _ hI)) | (go_at_call 113; exact call_ext _ (impl_ProgOkIs pr _ _ _ (Ext.rds R2.out _) hP)) | (go_at_call 47; exact call_ext_same _ (impl_allValuesIs _ _ _ _ (hI4.out _) hV)) | (go_at_call 107; exact call_ext _ (impl_OpenOkIs op _ _ _ (Ext.rds R3.out _) hO)) | (go_at_call 114; exact call_ext_same _ (impl_isCountedIs _ _ _ (by assumption))) | (go_at_call 115; exact call_ext _ (impl_StackOkIs hs ds st _ _ _ _ _ (Ext.rds R0.out _) (Ext.rds R1.out _) (Ext.rds R4.out _) hS)) | (go_at_call 82; exact call_ext _ (impl_hasObjectsOfIs op _ _ _ _ _ _ _ _ _ _ _ (by omega) (Ext.rds R3.out _) hJ)) | (go_at_call 116; exact call_ext _ (impl_mayCommitIs ⟨hs, ds⟩ ⟨id, pr, at_, r0, r1, r2, r3, op, ck, st, mi, sta, cm, fl⟩ _ _ _ _ _ _ _ (Ext.rds R0.out _) (Ext.rds R1.out _) (Ext.rds R2.out _) (Ext.rds R4.out _) hA2.out hM))))); refine wpQuiet_nil ?_; rintro _ ⟨E, rfl⟩)
    (go_wp2; go_ret; exact ⟨by (rw [Hn.out]) <;> rfl, HB.out.trans (E.h.mono HB.out.size)⟩)
  | true =>
  by_cases hk0 : ck < -1
  · have hK0 : checkOk ⟨id, pr, at_, r0, r1, r2, r3, op, ck, st, mi, sta, cm, fl⟩ = false := by unfold checkOk; simp [inB]; omega
    have Hn := hid (show threadOk ⟨hs, ds⟩ ⟨id, pr, at_, r0, r1, r2, r3, op, ck, st, mi, sta, cm, fl⟩ = false by unfold threadOk firstOk; simp [hK0])
    (refine wp_region_ext0 W1 (Ext.h _) ?_; (try dsimp only [List.append]); (repeat (go_big_quiet_step (first | (go_at_call 105; exact call_ext_same _ (impl_isThreadIs _ _ _ hI)) | (go_at_call 113; exact call_ext _ (impl_ProgOkIs pr _ _ _ (Ext.rds R2.out _) hP)) | (go_at_call 47; exact call_ext_same _ (impl_allValuesIs _ _ _ _ (hI4.out _) hV)) | (go_at_call 107; exact call_ext _ (impl_OpenOkIs op _ _ _ (Ext.rds R3.out _) hO)) | (go_at_call 114; exact call_ext_same _ (impl_isCountedIs _ _ _ (by assumption))) | (go_at_call 115; exact call_ext _ (impl_StackOkIs hs ds st _ _ _ _ _ (Ext.rds R0.out _) (Ext.rds R1.out _) (Ext.rds R4.out _) hS)) | (go_at_call 82; exact call_ext _ (impl_hasObjectsOfIs op _ _ _ _ _ _ _ _ _ _ _ (by omega) (Ext.rds R3.out _) hJ)) | (go_at_call 116; exact call_ext _ (impl_mayCommitIs ⟨hs, ds⟩ ⟨id, pr, at_, r0, r1, r2, r3, op, ck, st, mi, sta, cm, fl⟩ _ _ _ _ _ _ _ (Ext.rds R0.out _) (Ext.rds R1.out _) (Ext.rds R2.out _) (Ext.rds R4.out _) hA2.out hM))))); refine wpQuiet_nil ?_; rintro _ ⟨E, rfl⟩)
    (go_wp2; go_ret; exact ⟨by (rw [Hn.out]) <;> rfl, HB.out.trans (E.h.mono HB.out.size)⟩)
  obtain ⟨M9, hM9⟩ : ∃ M9, (if (-1 : Int) < (op.length : Int) - 2 then (op.length : Int) - 2 else -1) = M9 := ⟨_, rfl⟩
  have HM9 := hid (show M9 = max (-1) ((op.length : Int) - 2) by rw [← hM9]; split <;> omega)
  by_cases hk1 : M9 < ck
  · have hK0 : checkOk ⟨id, pr, at_, r0, r1, r2, r3, op, ck, st, mi, sta, cm, fl⟩ = false := by have := HM9.out; unfold checkOk; simp [inB]; omega
    have Hn := hid (show threadOk ⟨hs, ds⟩ ⟨id, pr, at_, r0, r1, r2, r3, op, ck, st, mi, sta, cm, fl⟩ = false by unfold threadOk firstOk; simp [hK0])
    (refine wp_region_ext0 W1 (Ext.h _) ?_; (try dsimp only [List.append]); (repeat (go_big_quiet_step (first | (go_at_call 105; exact call_ext_same _ (impl_isThreadIs _ _ _ hI)) | (go_at_call 113; exact call_ext _ (impl_ProgOkIs pr _ _ _ (Ext.rds R2.out _) hP)) | (go_at_call 47; exact call_ext_same _ (impl_allValuesIs _ _ _ _ (hI4.out _) hV)) | (go_at_call 107; exact call_ext _ (impl_OpenOkIs op _ _ _ (Ext.rds R3.out _) hO)) | (go_at_call 114; exact call_ext_same _ (impl_isCountedIs _ _ _ (by assumption))) | (go_at_call 115; exact call_ext _ (impl_StackOkIs hs ds st _ _ _ _ _ (Ext.rds R0.out _) (Ext.rds R1.out _) (Ext.rds R4.out _) hS)) | (go_at_call 82; exact call_ext _ (impl_hasObjectsOfIs op _ _ _ _ _ _ _ _ _ _ _ (by omega) (Ext.rds R3.out _) hJ)) | (go_at_call 116; exact call_ext _ (impl_mayCommitIs ⟨hs, ds⟩ ⟨id, pr, at_, r0, r1, r2, r3, op, ck, st, mi, sta, cm, fl⟩ _ _ _ _ _ _ _ (Ext.rds R0.out _) (Ext.rds R1.out _) (Ext.rds R2.out _) (Ext.rds R4.out _) hA2.out hM))))); refine wpQuiet_nil ?_; rintro _ ⟨E, rfl⟩)
    (go_wp2; go_ret; exact ⟨by (rw [Hn.out]) <;> rfl, HB.out.trans (E.h.mono HB.out.size)⟩)
  have HK := hid (show checkOk ⟨id, pr, at_, r0, r1, r2, r3, op, ck, st, mi, sta, cm, fl⟩ = true by have := HM9.out; unfold checkOk; simp [inB]; omega)
  (refine wp_region_ext0 W1 (Ext.h _) ?_; (try dsimp only [List.append]); (repeat (go_big_quiet_step (first | (go_at_call 105; exact call_ext_same _ (impl_isThreadIs _ _ _ hI)) | (go_at_call 113; exact call_ext _ (impl_ProgOkIs pr _ _ _ (Ext.rds R2.out _) hP)) | (go_at_call 47; exact call_ext_same _ (impl_allValuesIs _ _ _ _ (hI4.out _) hV)) | (go_at_call 107; exact call_ext _ (impl_OpenOkIs op _ _ _ (Ext.rds R3.out _) hO)) | (go_at_call 114; exact call_ext_same _ (impl_isCountedIs _ _ _ (by assumption))) | (go_at_call 115; exact call_ext _ (impl_StackOkIs hs ds st _ _ _ _ _ (Ext.rds R0.out _) (Ext.rds R1.out _) (Ext.rds R4.out _) hS)) | (go_at_call 82; exact call_ext _ (impl_hasObjectsOfIs op _ _ _ _ _ _ _ _ _ _ _ (by omega) (Ext.rds R3.out _) hJ)) | (go_at_call 116; exact call_ext _ (impl_mayCommitIs ⟨hs, ds⟩ ⟨id, pr, at_, r0, r1, r2, r3, op, ck, st, mi, sta, cm, fl⟩ _ _ _ _ _ _ _ (Ext.rds R0.out _) (Ext.rds R1.out _) (Ext.rds R2.out _) (Ext.rds R4.out _) hA2.out hM))))); refine wpQuiet_nil ?_; rintro _ ⟨E, rfl⟩)
  have HBE := hid (HB.out.trans (E.h.mono HB.out.size))
  clear hk0 hk1
  go_upto_region 5 with fail
  by_cases hz0 : sta < 0
  · have hK0 : inB sta 0 3 = false := by simp [inB]; omega
    have Hn := hid (show threadOk ⟨hs, ds⟩ ⟨id, pr, at_, r0, r1, r2, r3, op, ck, st, mi, sta, cm, fl⟩ = false by unfold threadOk firstOk; simp [hK0])
    (refine wp_region_ext0 W1 (Ext.h _) ?_; (try dsimp only [List.append]); (repeat (go_big_quiet_step (first | (go_at_call 105; exact call_ext_same _ (impl_isThreadIs _ _ _ hI)) | (go_at_call 113; exact call_ext _ (impl_ProgOkIs pr _ _ _ (Ext.rds R2.out _) hP)) | (go_at_call 47; exact call_ext_same _ (impl_allValuesIs _ _ _ _ (hI4.out _) hV)) | (go_at_call 107; exact call_ext _ (impl_OpenOkIs op _ _ _ (Ext.rds R3.out _) hO)) | (go_at_call 114; exact call_ext_same _ (impl_isCountedIs _ _ _ (by assumption))) | (go_at_call 115; exact call_ext _ (impl_StackOkIs hs ds st _ _ _ _ _ (Ext.rds R0.out _) (Ext.rds R1.out _) (Ext.rds R4.out _) hS)) | (go_at_call 82; exact call_ext _ (impl_hasObjectsOfIs op _ _ _ _ _ _ _ _ _ _ _ (by omega) (Ext.rds R3.out _) hJ)) | (go_at_call 116; exact call_ext _ (impl_mayCommitIs ⟨hs, ds⟩ ⟨id, pr, at_, r0, r1, r2, r3, op, ck, st, mi, sta, cm, fl⟩ _ _ _ _ _ _ _ (Ext.rds R0.out _) (Ext.rds R1.out _) (Ext.rds R2.out _) (Ext.rds R4.out _) hA2.out hM))))); refine wpQuiet_nil ?_; rintro _ ⟨E, rfl⟩)
    (go_wp2; go_ret; exact ⟨by (rw [Hn.out]) <;> rfl, HB.out.trans (E.h.mono HB.out.size)⟩)
  by_cases hz1 : 3 < sta
  · have hK0 : inB sta 0 3 = false := by simp [inB]; omega
    have Hn := hid (show threadOk ⟨hs, ds⟩ ⟨id, pr, at_, r0, r1, r2, r3, op, ck, st, mi, sta, cm, fl⟩ = false by unfold threadOk firstOk; simp [hK0])
    (refine wp_region_ext0 W1 (Ext.h _) ?_; (try dsimp only [List.append]); (repeat (go_big_quiet_step (first | (go_at_call 105; exact call_ext_same _ (impl_isThreadIs _ _ _ hI)) | (go_at_call 113; exact call_ext _ (impl_ProgOkIs pr _ _ _ (Ext.rds R2.out _) hP)) | (go_at_call 47; exact call_ext_same _ (impl_allValuesIs _ _ _ _ (hI4.out _) hV)) | (go_at_call 107; exact call_ext _ (impl_OpenOkIs op _ _ _ (Ext.rds R3.out _) hO)) | (go_at_call 114; exact call_ext_same _ (impl_isCountedIs _ _ _ (by assumption))) | (go_at_call 115; exact call_ext _ (impl_StackOkIs hs ds st _ _ _ _ _ (Ext.rds R0.out _) (Ext.rds R1.out _) (Ext.rds R4.out _) hS)) | (go_at_call 82; exact call_ext _ (impl_hasObjectsOfIs op _ _ _ _ _ _ _ _ _ _ _ (by omega) (Ext.rds R3.out _) hJ)) | (go_at_call 116; exact call_ext _ (impl_mayCommitIs ⟨hs, ds⟩ ⟨id, pr, at_, r0, r1, r2, r3, op, ck, st, mi, sta, cm, fl⟩ _ _ _ _ _ _ _ (Ext.rds R0.out _) (Ext.rds R1.out _) (Ext.rds R2.out _) (Ext.rds R4.out _) hA2.out hM))))); refine wpQuiet_nil ?_; rintro _ ⟨E, rfl⟩)
    (go_wp2; go_ret; exact ⟨by (rw [Hn.out]) <;> rfl, HB.out.trans (E.h.mono HB.out.size)⟩)
  have HS9 := hid (show inB sta 0 3 = true by simp [inB]; omega)
  cases hc9 : inB cm 0 1000000 with
  | false =>
    have Hn := hid (show threadOk ⟨hs, ds⟩ ⟨id, pr, at_, r0, r1, r2, r3, op, ck, st, mi, sta, cm, fl⟩ = false by unfold threadOk firstOk; simp [hc9])
    (refine wp_region_ext0 W1 (Ext.h _) ?_; (try dsimp only [List.append]); (repeat (go_big_quiet_step (first | (go_at_call 105; exact call_ext_same _ (impl_isThreadIs _ _ _ hI)) | (go_at_call 113; exact call_ext _ (impl_ProgOkIs pr _ _ _ (Ext.rds R2.out _) hP)) | (go_at_call 47; exact call_ext_same _ (impl_allValuesIs _ _ _ _ (hI4.out _) hV)) | (go_at_call 107; exact call_ext _ (impl_OpenOkIs op _ _ _ (Ext.rds R3.out _) hO)) | (go_at_call 114; exact call_ext_same _ (impl_isCountedIs _ _ _ (by assumption))) | (go_at_call 115; exact call_ext _ (impl_StackOkIs hs ds st _ _ _ _ _ (Ext.rds R0.out _) (Ext.rds R1.out _) (Ext.rds R4.out _) hS)) | (go_at_call 82; exact call_ext _ (impl_hasObjectsOfIs op _ _ _ _ _ _ _ _ _ _ _ (by omega) (Ext.rds R3.out _) hJ)) | (go_at_call 116; exact call_ext _ (impl_mayCommitIs ⟨hs, ds⟩ ⟨id, pr, at_, r0, r1, r2, r3, op, ck, st, mi, sta, cm, fl⟩ _ _ _ _ _ _ _ (Ext.rds R0.out _) (Ext.rds R1.out _) (Ext.rds R2.out _) (Ext.rds R4.out _) hA2.out hM))))); refine wpQuiet_nil ?_; rintro _ ⟨E, rfl⟩)
    (go_wp2; go_ret; exact ⟨by (rw [Hn.out]) <;> rfl, HB.out.trans (E.h.mono HB.out.size)⟩)
  | true =>
  cases hf9 : inB fl 0 1000000 with
  | false =>
    have Hn := hid (show threadOk ⟨hs, ds⟩ ⟨id, pr, at_, r0, r1, r2, r3, op, ck, st, mi, sta, cm, fl⟩ = false by unfold threadOk firstOk; simp [hf9])
    (refine wp_region_ext0 W1 (Ext.h _) ?_; (try dsimp only [List.append]); (repeat (go_big_quiet_step (first | (go_at_call 105; exact call_ext_same _ (impl_isThreadIs _ _ _ hI)) | (go_at_call 113; exact call_ext _ (impl_ProgOkIs pr _ _ _ (Ext.rds R2.out _) hP)) | (go_at_call 47; exact call_ext_same _ (impl_allValuesIs _ _ _ _ (hI4.out _) hV)) | (go_at_call 107; exact call_ext _ (impl_OpenOkIs op _ _ _ (Ext.rds R3.out _) hO)) | (go_at_call 114; exact call_ext_same _ (impl_isCountedIs _ _ _ (by assumption))) | (go_at_call 115; exact call_ext _ (impl_StackOkIs hs ds st _ _ _ _ _ (Ext.rds R0.out _) (Ext.rds R1.out _) (Ext.rds R4.out _) hS)) | (go_at_call 82; exact call_ext _ (impl_hasObjectsOfIs op _ _ _ _ _ _ _ _ _ _ _ (by omega) (Ext.rds R3.out _) hJ)) | (go_at_call 116; exact call_ext _ (impl_mayCommitIs ⟨hs, ds⟩ ⟨id, pr, at_, r0, r1, r2, r3, op, ck, st, mi, sta, cm, fl⟩ _ _ _ _ _ _ _ (Ext.rds R0.out _) (Ext.rds R1.out _) (Ext.rds R2.out _) (Ext.rds R4.out _) hA2.out hM))))); refine wpQuiet_nil ?_; rintro _ ⟨E, rfl⟩)
    (go_wp2; go_ret; exact ⟨by (rw [Hn.out]) <;> rfl, HB.out.trans (E.h.mono HB.out.size)⟩)
  | true =>
  (refine wp_region_ext0 W1 (Ext.h _) ?_; (try dsimp only [List.append]); (repeat (go_big_quiet_step (first | (go_at_call 105; exact call_ext_same _ (impl_isThreadIs _ _ _ hI)) | (go_at_call 113; exact call_ext _ (impl_ProgOkIs pr _ _ _ (Ext.rds R2.out _) hP)) | (go_at_call 47; exact call_ext_same _ (impl_allValuesIs _ _ _ _ (hI4.out _) hV)) | (go_at_call 107; exact call_ext _ (impl_OpenOkIs op _ _ _ (Ext.rds R3.out _) hO)) | (go_at_call 114; exact call_ext_same _ (impl_isCountedIs _ _ _ (by assumption))) | (go_at_call 115; exact call_ext _ (impl_StackOkIs hs ds st _ _ _ _ _ (Ext.rds R0.out _) (Ext.rds R1.out _) (Ext.rds R4.out _) hS)) | (go_at_call 82; exact call_ext _ (impl_hasObjectsOfIs op _ _ _ _ _ _ _ _ _ _ _ (by omega) (Ext.rds R3.out _) hJ)) | (go_at_call 116; exact call_ext _ (impl_mayCommitIs ⟨hs, ds⟩ ⟨id, pr, at_, r0, r1, r2, r3, op, ck, st, mi, sta, cm, fl⟩ _ _ _ _ _ _ _ (Ext.rds R0.out _) (Ext.rds R1.out _) (Ext.rds R2.out _) (Ext.rds R4.out _) hA2.out hM))))); refine wpQuiet_nil ?_; rintro _ ⟨E, rfl⟩)
  clear hz0 hz1
  go_upto_region 7 with fail
  cases hS : stackOk hs ds st with
  | false =>
    have Hn := hid (show threadOk ⟨hs, ds⟩ ⟨id, pr, at_, r0, r1, r2, r3, op, ck, st, mi, sta, cm, fl⟩ = false by unfold threadOk firstOk; simp [hS])
    (refine wp_region_ext0 W1 (Ext.h _) ?_; (try dsimp only [List.append]); (repeat (go_big_quiet_step (first | (go_at_call 105; exact call_ext_same _ (impl_isThreadIs _ _ _ hI)) | (go_at_call 113; exact call_ext _ (impl_ProgOkIs pr _ _ _ (Ext.rds R2.out _) hP)) | (go_at_call 47; exact call_ext_same _ (impl_allValuesIs _ _ _ _ (hI4.out _) hV)) | (go_at_call 107; exact call_ext _ (impl_OpenOkIs op _ _ _ (Ext.rds R3.out _) hO)) | (go_at_call 114; exact call_ext_same _ (impl_isCountedIs _ _ _ (by assumption))) | (go_at_call 115; exact call_ext _ (impl_StackOkIs hs ds st _ _ _ _ _ (Ext.rds R0.out _) (Ext.rds R1.out _) (Ext.rds R4.out _) hS)) | (go_at_call 82; exact call_ext _ (impl_hasObjectsOfIs op _ _ _ _ _ _ _ _ _ _ _ (by omega) (Ext.rds R3.out _) hJ)) | (go_at_call 116; exact call_ext _ (impl_mayCommitIs ⟨hs, ds⟩ ⟨id, pr, at_, r0, r1, r2, r3, op, ck, st, mi, sta, cm, fl⟩ _ _ _ _ _ _ _ (Ext.rds R0.out _) (Ext.rds R1.out _) (Ext.rds R2.out _) (Ext.rds R4.out _) hA2.out hM))))); refine wpQuiet_nil ?_; rintro _ ⟨E, rfl⟩)
    (go_wp2; go_ret; exact ⟨by (rw [Hn.out]) <;> rfl, HB.out.trans (E.h.mono HB.out.size)⟩)
  | true =>
  have HF := hid (show firstOk ⟨hs, ds⟩ ⟨id, pr, at_, r0, r1, r2, r3, op, ck, st, mi, sta, cm, fl⟩ = true by unfold firstOk; rw [hS, hI, hP, hA.out, hO, HK.out, HS9.out, hc9, hf9]; rfl)
  have HT := hid (show threadOk ⟨hs, ds⟩ ⟨id, pr, at_, r0, r1, r2, r3, op, ck, st, mi, sta, cm, fl⟩ = (objsAt hs.length op 0 && mineOk ⟨hs, ds⟩ ⟨id, pr, at_, r0, r1, r2, r3, op, ck, st, mi, sta, cm, fl⟩) by unfold threadOk; rw [HF.out, HRG.out]; simp)
  have HJ := hid (objs_all hO hs.length)
  cases hJ : op.all (objIn hs.length) with
  | false =>
    have Hn := hid (show threadOk ⟨hs, ds⟩ ⟨id, pr, at_, r0, r1, r2, r3, op, ck, st, mi, sta, cm, fl⟩ = false by rw [HT.out, ← HJ.out, hJ]; rfl)
    (refine wp_region_ext0 W1 (Ext.h _) ?_; (try dsimp only [List.append]); (repeat (go_big_quiet_step (first | (go_at_call 105; exact call_ext_same _ (impl_isThreadIs _ _ _ hI)) | (go_at_call 113; exact call_ext _ (impl_ProgOkIs pr _ _ _ (Ext.rds R2.out _) hP)) | (go_at_call 47; exact call_ext_same _ (impl_allValuesIs _ _ _ _ (hI4.out _) hV)) | (go_at_call 107; exact call_ext _ (impl_OpenOkIs op _ _ _ (Ext.rds R3.out _) hO)) | (go_at_call 114; exact call_ext_same _ (impl_isCountedIs _ _ _ (by assumption))) | (go_at_call 115; exact call_ext _ (impl_StackOkIs hs ds st _ _ _ _ _ (Ext.rds R0.out _) (Ext.rds R1.out _) (Ext.rds R4.out _) hS)) | (go_at_call 82; exact call_ext _ (impl_hasObjectsOfIs op _ _ _ _ _ _ _ _ _ _ _ (by omega) (Ext.rds R3.out _) hJ)) | (go_at_call 116; exact call_ext _ (impl_mayCommitIs ⟨hs, ds⟩ ⟨id, pr, at_, r0, r1, r2, r3, op, ck, st, mi, sta, cm, fl⟩ _ _ _ _ _ _ _ (Ext.rds R0.out _) (Ext.rds R1.out _) (Ext.rds R2.out _) (Ext.rds R4.out _) hA2.out hM))))); refine wpQuiet_nil ?_; rintro _ ⟨E, rfl⟩)
    (go_wp2; go_ret; exact ⟨by (rw [Hn.out]) <;> rfl, HB.out.trans (E.h.mono HB.out.size)⟩)
  | true =>
  cases hM : mineOk ⟨hs, ds⟩ ⟨id, pr, at_, r0, r1, r2, r3, op, ck, st, mi, sta, cm, fl⟩ with
  | false =>
    have Hn := hid (show threadOk ⟨hs, ds⟩ ⟨id, pr, at_, r0, r1, r2, r3, op, ck, st, mi, sta, cm, fl⟩ = false by rw [HT.out, ← HJ.out, hJ, hM]; rfl)
    (refine wp_region_ext0 W1 (Ext.h _) ?_; (try dsimp only [List.append]); (repeat (go_big_quiet_step (first | (go_at_call 105; exact call_ext_same _ (impl_isThreadIs _ _ _ hI)) | (go_at_call 113; exact call_ext _ (impl_ProgOkIs pr _ _ _ (Ext.rds R2.out _) hP)) | (go_at_call 47; exact call_ext_same _ (impl_allValuesIs _ _ _ _ (hI4.out _) hV)) | (go_at_call 107; exact call_ext _ (impl_OpenOkIs op _ _ _ (Ext.rds R3.out _) hO)) | (go_at_call 114; exact call_ext_same _ (impl_isCountedIs _ _ _ (by assumption))) | (go_at_call 115; exact call_ext _ (impl_StackOkIs hs ds st _ _ _ _ _ (Ext.rds R0.out _) (Ext.rds R1.out _) (Ext.rds R4.out _) hS)) | (go_at_call 82; exact call_ext _ (impl_hasObjectsOfIs op _ _ _ _ _ _ _ _ _ _ _ (by omega) (Ext.rds R3.out _) hJ)) | (go_at_call 116; exact call_ext _ (impl_mayCommitIs ⟨hs, ds⟩ ⟨id, pr, at_, r0, r1, r2, r3, op, ck, st, mi, sta, cm, fl⟩ _ _ _ _ _ _ _ (Ext.rds R0.out _) (Ext.rds R1.out _) (Ext.rds R2.out _) (Ext.rds R4.out _) hA2.out hM))))); refine wpQuiet_nil ?_; rintro _ ⟨E, rfl⟩)
    (go_wp2; go_ret; exact ⟨by (rw [Hn.out]) <;> rfl, HB.out.trans (E.h.mono HB.out.size)⟩)
  | true =>
    have Hn := hid (show threadOk ⟨hs, ds⟩ ⟨id, pr, at_, r0, r1, r2, r3, op, ck, st, mi, sta, cm, fl⟩ = true by rw [HT.out, ← HJ.out, hJ, hM]; rfl)
    (refine wp_region_ext0 W1 (Ext.h _) ?_; (try dsimp only [List.append]); (repeat (go_big_quiet_step (first | (go_at_call 105; exact call_ext_same _ (impl_isThreadIs _ _ _ hI)) | (go_at_call 113; exact call_ext _ (impl_ProgOkIs pr _ _ _ (Ext.rds R2.out _) hP)) | (go_at_call 47; exact call_ext_same _ (impl_allValuesIs _ _ _ _ (hI4.out _) hV)) | (go_at_call 107; exact call_ext _ (impl_OpenOkIs op _ _ _ (Ext.rds R3.out _) hO)) | (go_at_call 114; exact call_ext_same _ (impl_isCountedIs _ _ _ (by assumption))) | (go_at_call 115; exact call_ext _ (impl_StackOkIs hs ds st _ _ _ _ _ (Ext.rds R0.out _) (Ext.rds R1.out _) (Ext.rds R4.out _) hS)) | (go_at_call 82; exact call_ext _ (impl_hasObjectsOfIs op _ _ _ _ _ _ _ _ _ _ _ (by omega) (Ext.rds R3.out _) hJ)) | (go_at_call 116; exact call_ext _ (impl_mayCommitIs ⟨hs, ds⟩ ⟨id, pr, at_, r0, r1, r2, r3, op, ck, st, mi, sta, cm, fl⟩ _ _ _ _ _ _ _ (Ext.rds R0.out _) (Ext.rds R1.out _) (Ext.rds R2.out _) (Ext.rds R4.out _) hA2.out hM))))); refine wpQuiet_nil ?_; rintro _ ⟨E, rfl⟩)
    (go_wp2; go_ret; exact ⟨by (rw [Hn.out]) <;> rfl, HB.out.trans (E.h.mono HB.out.size)⟩)
end Go.Proofs.YtbbdchlabdilcabGreat
