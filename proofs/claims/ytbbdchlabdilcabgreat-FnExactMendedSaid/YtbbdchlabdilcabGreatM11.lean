/- An append whose two slices are of two named types. Of any program. -/
import Derived.Test.YtbbdchlabdilcabGreatM3
import Derived.Test.YtbbdchlabdilcabGreatM9
import Derived.Test.YtbbdchlabdilcabGreatF8
import Derived.Test.YtbbdchlabdilcabGreatN8o
import Derived.Test.YtbbdchlabdilcabGreatM10
namespace Go.Own
open Go.RowKit
set_option linter.unusedVariables false
theorem append_types {P : Program} {t t2 ty e e2 : TypeId} {i : TypeInfo} (h1 : P.underlying t = some (.slice e)) (h2 : P.underlying t2 = some (.slice e2)) (hi : P.info? e = some i) (a a2 : Option Addr) (n c n2 c2 : Nat) (w : World) : (Builtin.append_ #[t, t2] ty #[.slice a n c, .slice a2 n2 c2]).run P w = (Builtin.append_ #[t, t] ty #[.slice a n c, .slice a2 n2 c2]).run P w := by
  simp [Builtin.append_, run_underlying h1, run_underlying h2, sizeOf, typeInfo, hi, Builtin.lenOf]
theorem wpList_append_two {P : Program} {w : World} {ops : Array Oper} {rest : List Oper} {o : Oper} {a : Act} {Q : Exit → Act → World → Prop} (hgd : o.guard = none) (s x : Operand) (t t2 e2 : TypeId)
    (ho : o.op = .call { callee := .builtin .append, args := #[s, x], argTypes := #[t, t2] })
    (base : Nat) (e : TypeId) (i : TypeInfo) (z : Value) (size bytes : Nat) (ht : P.underlying t = some (.slice e)) (ht2 : P.underlying t2 = some (.slice e2)) (hi : P.info? e = some i) (hz : i.zero = some z)
    (hsize : i.size = size) (hby : i.bytes = bytes) (hzs : z.cells.size = size) (hsz : 0 < size)
    (v : Value) (n : Nat) (xs : List Value) (hs : a.eval s = v) (hown : w.ownsRow base e size v n xs)
    (u : Value) (m : Nat) (news : List Value) (hx : a.eval x = u) (hu : Flat w u m size news) (h1 : ∀ c ∈ news, c.oneCell' = true)
    (h63 : n + m ≤ maxLen) (hbytes : (n + m) * bytes ≤ 140737488355328) (hbase : base ≤ w.heap.size)
    (h : ∀ v' w', w'.ownsRow base e size v' (n + m) (xs ++ news) → w.grownBy w' v.ownBlock → wpList P ops Q rest (a.put o.dst v') w') : wpList P ops Q (o :: rest) a w := by
  rcases hu.src with ⟨rfl, rfl, rfl⟩ | ⟨ad, cap, rfl, hl, hc⟩
  · have hrun := run_append_owned_none (P := P) (w := w) base t o.type e i size ht hi v n xs hown
    obtain ⟨sa, sm, sc, rfl⟩ := owns_form3 hown
    rw [← append_types ht ht2 hi] at hrun
    refine wpList_plain hgd fun K hK => ?_
    unfold Oper.wp
    simp [execOp, ho, resolve, invoke, builtin, hs, hx, hrun, Result.andThen]
    exact hK _ _ (h _ w (by simpa using hown) (World.grownBy.refl _ _))
  · obtain ⟨v', w', hrun, r1, r2, _⟩ := run_append_own (P := P) (w := w) base t o.type e i z size bytes ht hi hz hsize hby hzs hsz v n xs hown ad m cap news hl hc h1 h63 hbytes hbase
    obtain ⟨sa, sm, sc, rfl⟩ := owns_form3 hown
    rw [← append_types ht ht2 hi] at hrun
    refine wpList_plain hgd fun K hK => ?_
    unfold Oper.wp
    simp [execOp, ho, resolve, invoke, builtin, hs, hx, hrun, Result.andThen]
    exact hK _ _ (h v' w' r1 r2)
end Go.Own
/- Chapter 8's model: a stack copied; StackOk. -/
namespace Go.Proofs.YtbbdchlabdilcabGreat
set_option maxRecDepth 100000
open Go.RowKit Go.Proofs Go.Own
open Go Go.BigFrame
set_option linter.unusedVariables false
set_option linter.unusedSimpArgs false
theorem oneCell_F (xs : List Frame) : ∀ c ∈ xs.flatMap Frame.enc, c.oneCell' = true := oneCell_enc (f := Frame.enc) (by intro x c hc; simp [Frame.enc] at hc; rcases hc with rfl | rfl | rfl <;> rfl) xs
theorem spec_l8Copy (v : Value) (xs : List Frame) (w : World) (h : rdsL w v xs) (hx : xs.length ≤ 1048576) :
    Calls Tryz.prog 73 #[v] w fun e w' => ∃ v', ∃ S : Nat → Prop, e = .returned v' ∧ ownL S w' v' xs ∧ (∀ k, S k → Rg w.heap.size w'.heap.size k) ∧ Below w.heap.size w w' := by
  obtain ⟨i0, hi, hz0, hz1, hz2⟩ := info_parts infoFrame
  have hone := hid (oneCell_F xs)
  have h := rdsFrames.1 h
  obtain ⟨ad, cap, rfl, hl, hm⟩ := Flat.form h
  have hown : (w.alloc (.cells #[] 91)).ownsRow w.heap.size 91 3 (.slice (some ⟨w.heap.size, 0, none⟩) 0 0) 0 [] := World.ownsRow_made _ _ _ (Nat.le_refl _) (Nat.zero_le _) rfl
  have hB : Below w.heap.size w (w.alloc (.cells #[] 91)) := (Below.refl _ _).alloc (Nat.le_refl _) _
  have h2 := Flat.below h hB
  go_enter Tryz.func73, Tryz.ntmps73
  go_wp2_with (at_builtin; refine wpList_append_flat rfl _ _ 80 rfl w.heap.size 91 i0 (.agg #[.int .i64 0, .int .i64 0, .int .i64 0]) 3 24 Tryz.underlying80 hi hz0 hz1 hz2 rfl (by decide) _ _ _ rfl hown _ _ _ rfl h2 hone.out (by unfold maxLen; omega) (by omega) (by simp) ?_)
  intro v' w1 ho hg
  have hB1 := hB.trans (below_of_mark hown hg (Nat.le_refl _) (by simp))
  go_wp2
  go_ret
  exact ⟨_, _, rfl, ownFrame_of (by simpa using ho), fun _ h => h, hB1⟩
set_option maxHeartbeats 8000000 in
theorem spec_StackOk0 (hs : List Head) (ds : List DescD) (st : List Frame) (v0 v1 v2 : Value) (w : World) (h0 : rdsL w v0 hs) (h1 : rdsL w v1 ds) (h2 : rdsL w v2 st) :
    Calls Tryz.prog 69 #[.agg #[v0, v1], v2] w fun e w' => e = .returned (.bool (stackOk hs ds st)) ∧ Below w.heap.size w w' := by
  have H0 := hid h0
  have H1 := hid h1
  obtain ⟨a0, cap0, rfl, hl0, hm0, -⟩ := rdsL_open h0
  obtain ⟨a1, cap1, rfl, hl1, hm1, -⟩ := rdsL_open h1
  obtain ⟨a2, cap2, rfl, hl2, hm2, hc2⟩ := rdsL_open h2
  have HC := hid hc2
  clear h0 h1 h2 hc2
  have hlen2 : st.length ≤ 9223372036854775807 := by omega
  obtain ⟨W1, hW1⟩ : ∃ X, w.alloc (.cells #[Value.slice a0 hs.length cap0, Value.slice a1 ds.length cap1] 37) = X := ⟨_, rfl⟩
  have hB1 : Below w.heap.size w W1 := by rw [← hW1]; exact (Below.refl _ _).alloc (Nat.le_refl _) _
  have BP : Hid (BoxF W1 w.heap.size [Value.slice a0 hs.length cap0, Value.slice a1 ds.length cap1]) := by rw [← hW1]; exact hid (BoxF.alloc w #[Value.slice a0 hs.length cap0, Value.slice a1 ds.length cap1] 37)
  go_enter Tryz.func69, Tryz.ntmps69
  go_wp2
  go_loopw [5] (fun i wr => ∃ k : Nat, k ≤ st.length ∧ i = .int .i64 k ∧ Same ((st.drop k).all (stkIn hs ds)) (st.all (stkIn hs ds)) ∧ Below w.heap.size w wr ∧ Hid (BoxF wr w.heap.size [Value.slice a0 hs.length cap0, Value.slice a1 ds.length cap1])) (fun i _ => st.length - (intOf i).toNat)
  case atStart => exact ⟨0, by omega, rfl, .rfl, hB1, BP⟩
  case round =>
    clear hW1 hB1 BP
    clear W1
    obtain ⟨k, hk, rfl, hS, hB, BP⟩ := hrel
    by_cases hlt : k < st.length
    · have hst := hid (all_step (stkIn hs ds) st k hlt)
      obtain ⟨bb, off, cs, rfl, hbs, rfl, hcell⟩ := HC.out k hlt
      have hbr := Nat.lt_of_lt_of_le hbs hB.size
      have y0 := Ext.cell hbr ((hB.cell (p := ⟨bb, off + k * 3, none⟩) hbs).trans (show w.cell? ⟨bb, off + k * 3, none⟩ = some (.int .i64 st[k].desc_) from hcell 0 (show 0 < 3 by omega)))
      have y1 := Ext.cell hbr ((hB.cell (p := ⟨bb, off + k * 3 + 1, none⟩) hbs).trans (show w.cell? ⟨bb, off + k * 3 + 1, none⟩ = some (.int .i64 st[k].phase_) from hcell 1 (show 1 < 3 by omega)))
      have y2 := Ext.cell hbr ((hB.cell (p := ⟨bb, off + k * 3 + 2, none⟩) hbs).trans (show w.cell? ⟨bb, off + k * 3 + 2, none⟩ = some (.int .i64 st[k].at_) from hcell 2 (show 2 < 3 by omega)))
      have x0 := Ext.cell BP.out.1.1 (show wr.cell? ⟨w.heap.size, 0, none⟩ = some (Value.slice a0 hs.length cap0) from BP.out.1.2 0 (by simp))
      have x1 := Ext.cell BP.out.1.1 (show wr.cell? ⟨w.heap.size, 1, none⟩ = some (Value.slice a1 ds.length cap1) from BP.out.1.2 1 (by simp))
      have HR0 := hid (rdsL.below H0.out hB)
      have HR1 := hid (rdsL.below H1.out hB)
      have hki : (k : Int) < (st.length : Int) := by omega
      have hk0 : (0 : Int) ≤ (k : Int) := by omega
      clear hcell HC H0 H1
      by_cases hp : st[k].phase_ = 5
      · have hp' : (st[k].phase_ == 5) = true := by rw [beq_iff_eq]; exact hp
        have hn : Hid (stkIn hs ds st[k] = false) := hid (by unfold stkIn; rw [decide_eq_true hp]; rfl)
        clear hp
        go_wp2_with fail
        refine wp_region_ext wr (Below.refl _ _) (by kernel_rfl) (by kernel_rfl) ?_
        repeat (go_big_quiet_step (fail))
        refine wpQuiet_nil ?_; rintro _ ⟨E, rfl⟩
        have hBE := hid (hB.trans (E.h.mono hB.size))
        clear x0 x1 y0 y1 y2
        go_wp2
        go_ret
        exact ⟨ret_bool (by unfold stackOk; rw [← hS.out, hst.out, hn.out, Bool.false_and, Bool.and_false]), hBE.out⟩
      · have hp' : (st[k].phase_ == 5) = false := by rw [beq_eq_false_iff_ne]; exact hp
        have hn : Hid (stkIn hs ds st[k] = frameOk hs ds st[k]) := hid (by unfold stkIn; rw [decide_eq_false hp]; rfl)
        clear hp
        obtain ⟨FB, hFB⟩ : ∃ FB, Hid (frameOk hs ds st[k] = FB) := ⟨_, hid rfl⟩
        have hFo := hFB.out
        go_wp2_with fail
        refine wp_region_ext wr (Below.refl _ _) (by kernel_rfl) (by kernel_rfl) ?_
        repeat (go_big_quiet_step (first | (go_at_call 98; exact call_ext _ (spec_FrameOk0 hs ds _ _ st[k] _ (rdsL.below HR0.out (Ext.h _)) (rdsL.below HR1.out (Ext.h _))))))
        refine wpQuiet_nil ?_; rintro _ ⟨E, rfl⟩
        have hBE := hid (hB.trans (E.h.mono hB.size))
        have BPE := hid (BP.out.below E.h)
        have hBE2 := hBE.out
        clear x0 x1 y0 y1 y2 hFo HR0 HR1 BP hB
        cases FB with
        | false =>
          go_wp2
          go_ret
          exact ⟨ret_bool (by unfold stackOk; rw [← hS.out, hst.out, hn.out, hFB.out, Bool.false_and, Bool.and_false]), hBE.out⟩
        | true =>
          clear hBE2
          go_wp2
          go_roundw
          case rel => exact ⟨k+1, by omega, by go_num, Same.mk (by rw [← hS.out, hst.out, hn.out, hFB.out, Bool.true_and]), hBE.out, BPE⟩
          case measure => simp [intOf]; omega
    · obtain rfl : k = st.length := by omega
      have hAll := hid (show st.all (stkIn hs ds) = true by rw [← hS.out]; exact all_end _ _ _ (by omega))
      have hu := hid (show stackOk hs ds st = (storeOk hs ds && decide (st.length ≤ 130)) by unfold stackOk; rw [hAll.out, Bool.and_true])
      have x0 : wr.cell? ⟨w.heap.size, 0, none⟩ = some (Value.slice a0 hs.length cap0) := BP.out.1.2 0 (by simp)
      have x1 : wr.cell? ⟨w.heap.size, 1, none⟩ = some (Value.slice a1 ds.length cap1) := BP.out.1.2 1 (by simp)
      have R0 := hid (rdsL.below H0.out hB)
      have R1 := hid (rdsL.below H1.out hB)
      go_wp2_with fail
      refine (spec_StoreOk0 hs ds _ _ _ R0.out R1.out).mono ?_
      rintro e w2 ⟨rfl, b2⟩
      have hB2 := hB.trans (b2.mono hB.size)
      cases hso : storeOk hs ds with
      | false =>
        go_wp2
        go_ret
        exact ⟨ret_bool (by rw [hu.out, hso]; rfl), hB2⟩
      | true =>
        go_wp2
        go_ret
        exact ⟨ret_bool (by rw [hu.out, hso, Bool.true_and]; exact decide_eq_decide.2 (by omega)), hB2⟩
end Go.Proofs.YtbbdchlabdilcabGreat
/- A stack of the call's own: an element read, the last one laid anew, cut. -/
namespace Go.Own
open Go.RowKit
theorem take_flatMap {α : Type} (f : α → List Value) (sz : Nat) (hsz : ∀ x, (f x).length = sz) : ∀ (xs : List α) (i : Nat), (xs.flatMap f).take (i * sz) = (xs.take i).flatMap f
  | [], i => by simp
  | x :: xs, 0 => by simp
  | x :: xs, i+1 => by
    have e : (i + 1) * sz = (f x).length + i * sz := by rw [hsz, Nat.add_mul]; omega
    rw [List.take_succ_cons, List.flatMap_cons, List.flatMap_cons, e, List.take_length_add_append, take_flatMap f sz hsz xs i]
/-- A row of the call's own, cut at an end. -/
theorem owns_cut {w : World} {base e sz n m cap g : Nat} {cs : List Value} (h : w.ownsRow base e sz (.slice (some ⟨g, 0, none⟩) n cap) n cs) (hm : m ≤ n) : w.ownsRow base e sz (.slice (some ⟨g, 0, none⟩) m cap) m (cs.take (m * sz)) := by
  have hms : m * sz ≤ n * sz := Nat.mul_le_mul_right _ hm
  refine ⟨by rw [List.length_take, h.1]; omega, ?_⟩
  rcases h.2 with ⟨h1, _⟩ | ⟨g', cap', cur, hv, hb, hg, hnc, hcm, hcs, ht⟩
  · cases h1
  · simp only [Value.slice.injEq, Option.some.injEq, Addr.mk.injEq, and_true, true_and] at hv
    obtain ⟨rfl, rfl⟩ := hv
    refine .inr ⟨g, cap, cur, rfl, hb, hg, by omega, hcm, hcs, ?_⟩
    rw [← ht, List.take_take, Nat.min_eq_left hms]
theorem set_last {α : Type} (xs : List α) (x : α) (h : ¬ xs.length = 0) : xs.set (xs.length - 1) x = xs.take (xs.length - 1) ++ [x] := by
  have hl : xs.length - 1 < xs.length := by omega
  rw [List.set_eq_take_append_cons_drop, if_pos hl, List.drop_eq_nil_of_le (by omega)]
end Go.Own
namespace Go.Proofs.YtbbdchlabdilcabGreat
set_option maxRecDepth 100000
open Go.RowKit Go.Proofs Go.Own
set_option linter.unusedVariables false
theorem own_frame {S : Nat → Prop} {w : World} {v : Value} {st : List Frame} (h : ownL S w v st) (i : Nat) (hi : i < st.length) : ∃ g cap, v = .slice (some ⟨g, 0, none⟩) st.length cap ∧ S g ∧ g < w.heap.size ∧
    w.cell? ⟨g, i * 3, none⟩ = some (.int .i64 st[i].desc_) ∧ w.cell? ⟨g, i * 3 + 1, none⟩ = some (.int .i64 st[i].phase_) ∧ w.cell? ⟨g, i * 3 + 2, none⟩ = some (.int .i64 st[i].at_) ∧ (∀ j, w.frozen? ⟨g, j, none⟩ = false) := by
  obtain ⟨o, hb⟩ := ownFrames.1 h
  obtain ⟨g, cap, rfl⟩ : ∃ g cap, v = .slice (some ⟨g, 0, none⟩) st.length cap := by
    rcases o.2 with ⟨_, e2⟩ | ⟨g, c2, cur, e1, _⟩
    · omega
    · exact ⟨g, c2, e1⟩
  have c : ∀ j, j < 3 → w.cell? ⟨g, i * 3 + j, none⟩ = (Frame.enc st[i])[j]? := fun j hj => by
    rw [o.cellAt (i * 3 + j) (by omega), flatMap_get Frame.enc 3 (fun _ => rfl) st i hi j hj]
  exact ⟨g, cap, rfl, hb g rfl, (owns_lt o).2, c 0 (by omega), c 1 (by omega), c 2 (by omega), fun j => World.ownsRow.frozenAt o j⟩
theorem own_frame_set {S : Nat → Prop} {w : World} {g cap n : Nat} {st : List Frame} (h : ownL S w (.slice (some ⟨g, 0, none⟩) n cap) st) (i : Nat) (hi : i < st.length) (a b c : Int) : ownL S (((w.setCell ⟨g, i * 3, none⟩ (.int .i64 a)).setCell ⟨g, i * 3 + 1, none⟩ (.int .i64 b)).setCell ⟨g, i * 3 + 2, none⟩ (.int .i64 c)) (.slice (some ⟨g, 0, none⟩) n cap) (st.set i ⟨a, b, c⟩) := by
  obtain ⟨o, hb⟩ := ownFrames.1 h
  have hn : n = st.length := by
    obtain ⟨a, c, e, _, _⟩ := ownL_len h
    have h9 := congrArg (fun v => match v with | Value.slice _ n _ => n | _ => 0) e
    simpa using h9
  subst hn
  refine ownFrames.2 ⟨?_, hb⟩
  have e1 := flat_set Frame.enc 3 (fun _ => rfl) st i hi 0 (.int .i64 a) ⟨a, st[i].phase_, st[i].at_⟩ (by omega) rfl
  have e2 := flat_set Frame.enc 3 (fun _ => rfl) (st.set i ⟨a, st[i].phase_, st[i].at_⟩) i (by rw [List.length_set]; exact hi) 1 (.int .i64 b) ⟨a, b, st[i].at_⟩ (by omega) (by rw [List.getElem_set_self]; rfl)
  have e3 := flat_set Frame.enc 3 (fun _ => rfl) ((st.set i ⟨a, st[i].phase_, st[i].at_⟩).set i ⟨a, b, st[i].at_⟩) i (by rw [List.length_set, List.length_set]; exact hi) 2 (.int .i64 c) ⟨a, b, c⟩ (by omega) (by rw [List.getElem_set_self]; rfl)
  rw [List.set_set] at e2
  rw [List.set_set, List.set_set] at e3
  rw [List.length_set]
  have o3 := owns_put (owns_put (owns_put o (i * 3 + 0) (.int .i64 a)) (i * 3 + 1) (.int .i64 b)) (i * 3 + 2) (.int .i64 c)
  rw [e1, e2, e3] at o3
  exact o3
theorem own_frame_take {S : Nat → Prop} {w : World} {g cap n : Nat} {st : List Frame} (h : ownL S w (.slice (some ⟨g, 0, none⟩) n cap) st) (m : Nat) (hm : m ≤ st.length) : ownL S w (.slice (some ⟨g, 0, none⟩) m cap) (st.take m) := by
  obtain ⟨o, hb⟩ := ownFrames.1 h
  have hn : n = st.length := by
    obtain ⟨a, c, e, _, _⟩ := ownL_len h
    have h9 := congrArg (fun v => match v with | Value.slice _ n _ => n | _ => 0) e
    simpa using h9
  subst hn
  refine ownFrames.2 ⟨?_, fun k hk => hb k hk⟩
  have h9 := owns_cut o hm
  rw [take_flatMap Frame.enc 3 (fun _ => rfl)] at h9
  rw [show (st.take m).length = m by simp; omega]
  exact h9
/-- An append of one frame: a row of the call's own, in its block or in a new one. -/
theorem own_frame_snoc {S : Nat → Prop} {w w' : World} {v v' : Value} {st : List Frame} {f : Frame} (h : ownL S w v st) (hS : ∀ b, S b → b < w.heap.size) (ho : w'.ownsRow 0 91 3 v' (st.length + 1) (st.flatMap Frame.enc ++ Frame.enc f)) (hg : w.grownBy w' v.ownBlock) (hp : ∀ k, v'.ownBlock = some k → v.ownBlock = some k ∨ k = w.heap.size) :
    ownL (Blk v') w' v' (st ++ [f]) ∧ (∀ k, Blk v' k → S k ∨ (w.heap.size ≤ k ∧ k < w'.heap.size)) ∧ ChgS S w w' := by
  obtain ⟨o, hb⟩ := ownFrames.1 h
  refine ⟨ownFrames.2 ⟨?_, fun k hk => hk⟩, fun k hk => ?_, ChgS.of_grown hg hb⟩
  · rw [List.length_append, List.flatMap_append]; simpa using ho
  · have hl := (owns_in ho k hk).2
    rcases hp k hk with h9 | h9
    · exact .inl (hb k h9)
    · exact .inr ⟨by omega, hl⟩
end Go.Proofs.YtbbdchlabdilcabGreat
