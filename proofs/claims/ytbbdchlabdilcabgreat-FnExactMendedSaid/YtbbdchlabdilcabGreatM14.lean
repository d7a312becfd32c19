/- Chapter 8: FinishAll's contracts as the law's walk takes them. -/
import Derived.Test.YtbbdchlabdilcabGreatF8
import Derived.Test.YtbbdchlabdilcabGreatN8o
import Derived.Test.YtbbdchlabdilcabGreatM13
import Derived.Test.YtbbdchlabdilcabGreatI8a
import Derived.Test.YtbbdchlabdilcabGreatM6
import Derived.Test.YtbbdchlabdilcabGreatM7
import Derived.Test.YtbbdchlabdilcabGreatM3
import Derived.Test.YtbbdchlabdilcabGreatBx
import Derived.Test.YtbbdchlabdilcabGreatM4
import Derived.Deep.MidRow
/- Chapter 8: Finish's contracts as the law's walk takes them. -/
/- Chapter 8: a step of a stack leaves a store's size as it is. -/
namespace Go.Proofs.YtbbdchlabdilcabGreat
set_option maxRecDepth 100000
open Go.RowKit Go.Proofs Go.Own
theorem eSum_set2 : ∀ (ds : List DescD) (k : Nat) (x : DescD) (h : k < ds.length), x.entries_ = ds[k].entries_ → eSum (ds.set k x) = eSum ds
  | [], k, x, h, _ => by simp at h
  | d :: ds, 0, x, h, e => by unfold eSum; simp only [List.getElem_cons_zero] at e; simp [List.set_cons_zero, e]
  | d :: ds, k+1, x, h, e => by
    have h9 := eSum_set2 ds k x (by simpa using h) (by simpa using e)
    unfold eSum at h9 ⊢
    simp only [List.set_cons_succ, List.map_cons, List.sum_cons]
    omega
theorem stepD_sum (ds : List DescD) (f : Frame) (hk : f.desc_.toNat < ds.length) : eSum (stepD ds f) = eSum ds := by
  have e1 : ∀ st, (decD st (dAt ds f.desc_)).entries_ = ds[f.desc_.toNat].entries_ := fun st => by
    have e2 : dAt ds f.desc_ = ds[f.desc_.toNat] := by unfold dAt; rw [List.getElem?_eq_getElem hk]
    unfold decD
    split <;> rw [e2]
  unfold stepD
  split
  · exact eSum_set2 ds _ _ hk (e1 1)
  · split
    · exact eSum_set2 ds _ _ hk (e1 2)
    · rfl
theorem helpR_sum {x : HS} (h : x.ok) : (helpR x).hs.length = x.hs.length ∧ szD (helpR x).ds = szD x.ds := by
  by_cases hz : x.st.length = 0
  · rw [helpR_nil hz]; exact ⟨rfl, rfl⟩
  · rw [helpR_cons hz]
    have hf := ((stackOk_iff.1 h).2.2 _ (top_mem hz)).2
    obtain ⟨-, k, hk, hkl, -⟩ := frameOk_parts hf
    refine ⟨stepH_len _ _ _, ?_⟩
    have h9 := stepD_sum x.ds (topF x.st) (by rw [hk]; simpa using hkl)
    have h8 := stepD_len x.ds (topF x.st)
    show szD (stepD x.ds (topF x.st)) = szD x.ds
    unfold szD
    rw [h9, h8]
theorem helpR_B {hs : List Head} {ds : List DescD} {st : List Frame} (hk : stackOk hs ds st = true) (h : StoreB ⟨hs, ds⟩) : StoreB ⟨(helpR ⟨hs, ds, st⟩).hs, (helpR ⟨hs, ds, st⟩).ds⟩ := by
  obtain ⟨h1, h2⟩ := helpR_sum (x := ⟨hs, ds, st⟩) hk
  unfold StoreB at h ⊢
  dsimp only at h h1 h2 ⊢
  rw [h1, h2]
  exact h
end Go.Proofs.YtbbdchlabdilcabGreat
namespace Go.Proofs.YtbbdchlabdilcabGreat
set_option maxRecDepth 100000
open Go.RowKit Go.Proofs Go.Own
set_option linter.unusedVariables false
def finD (s : StoreD) (st : List Frame) (m : Int) : StoreD := ⟨(finA s.heads_ s.descs_ st m).x.hs, (finA s.heads_ s.descs_ st m).x.ds⟩
def finN (s : StoreD) (st : List Frame) (m : Int) : Int := (finA s.heads_ s.descs_ st m).n
def finB (s : StoreD) (st : List Frame) (m : Int) : Bool := (finA s.heads_ s.descs_ st m).b
theorem finR_sum : ∀ (k : Nat) {x : HS}, x.ok → (finR k x).1.hs.length = x.hs.length ∧ szD (finR k x).1.ds = szD x.ds
  | 0, x, _ => ⟨rfl, rfl⟩
  | k+1, x, h => by
    by_cases hz : x.st.length = 0
    · rw [finR_nil hz]; exact ⟨rfl, rfl⟩
    · rw [finR_cons hz]
      obtain ⟨h1, h2⟩ := finR_sum k (help_ok h)
      obtain ⟨h3, h4⟩ := helpR_sum h
      exact ⟨h1.trans h3, h2.trans h4⟩
theorem finDB {s : StoreD} {st : List Frame} {m : Int} (h : StoreB s) : StoreB (finD s st m) := by
  unfold finD finA
  split
  · rename_i hk
    have hk2 : stackOk s.heads_ s.descs_ st = true := by unfold finOk at hk; simp only [Bool.and_eq_true] at hk; exact hk.1
    obtain ⟨h1, h2⟩ := finR_sum m.toNat (x := ⟨s.heads_, s.descs_, st⟩) hk2
    unfold StoreB at h ⊢
    dsimp only at h1 h2 ⊢
    rw [h1, h2]; exact h
  · exact h
theorem spec_FinishW (s : StoreD) (v0 v1 : Value) (st : List Frame) (v2 : Value) (m : Int) (w : World) (r0 : rdsL w v0 s.heads_) (r1 : rdsL w v1 s.descs_) (hb : StoreB s) (r2 : rdsL w v2 st) (hb2 : FrameSB st) :
    Calls Tryz.prog 41 #[.agg #[v0, v1], v2, .int .i64 m] w fun e w' => ∃ u0 u1 : Value, ∃ S0 S1 : Nat → Prop, e = .returned (.tuple #[.agg #[u0, u1], .int .i64 (finN s st m), .bool (finB s st m)]) ∧ ownL S0 w' u0 (finD s st m).heads_ ∧ ownL S1 w' u1 (finD s st m).descs_ ∧ (∀ k, S0 k → Rg w.heap.size w'.heap.size k) ∧ (∀ k, S1 k → Rg w.heap.size w'.heap.size k) ∧ (∀ k, S0 k → ¬ S1 k) ∧ StoreB (finD s st m) ∧ Below w.heap.size w w' :=
  (spec_Finish0 s.heads_ s.descs_ st v0 v1 v2 m w (storeB_parts hb).1 (storeB_parts hb).2.1 (storeB_parts hb).2.2.1 hb2 r0 r1 r2).mono fun _ _ ⟨u0, u1, he, ⟨S0, S1, o0, o1, g0, g1, dj⟩, b⟩ => ⟨u0, u1, S0, S1, he, o0, o1, g0, g1, dj, finDB hb, b⟩
end Go.Proofs.YtbbdchlabdilcabGreat
namespace Go.Proofs.YtbbdchlabdilcabGreat
set_option maxRecDepth 100000
open Go.RowKit Go.Proofs Go.Own
set_option linter.unusedVariables false
def finAllD (s : StoreD) : StoreD := ⟨(finAllA s.heads_ s.descs_).x.1, (finAllA s.heads_ s.descs_).x.2⟩
def finAllB (s : StoreD) : Bool := (finAllA s.heads_ s.descs_).b
theorem finOne_sum {x : List Head × List DescD} (hso : storeOk x.1 x.2 = true) (h : ¬ (heldC x.1 x.2).length = 0) : (finOne x).1.length = x.1.length ∧ szD (finOne x).2 = szD x.2 := by
  have h9 := finR_sum 2000 (x := ⟨x.1, x.2, heldSt x.1 x.2⟩) (heldSt_ok hso h)
  unfold finOne
  exact h9
theorem finAllR_sum : ∀ (k : Nat) {x y : List Head × List DescD}, storeOk x.1 x.2 = true → finAllR k x = some y → y.1.length = x.1.length ∧ szD y.2 = szD x.2
  | 0, x, y, hso, h => by
    by_cases hz : (heldC x.1 x.2).length = 0
    · rw [finAllR_done hz] at h; cases h; exact ⟨rfl, rfl⟩
    · rw [finAllR_none hz] at h; cases h
  | k+1, x, y, hso, h => by
    by_cases hz : (heldC x.1 x.2).length = 0
    · rw [finAllR_done hz] at h; cases h; exact ⟨rfl, rfl⟩
    · rw [finAllR_step hz] at h
      have h1 := finAllR_sum k (finOne_ok hso hz) h
      have h2 := finOne_sum hso hz
      exact ⟨h1.1.trans h2.1, h1.2.trans h2.2⟩
theorem finAllB_ {s : StoreD} (h : StoreB s) : StoreB (finAllD s) := by
  unfold finAllD
  cases hso : storeOk s.heads_ s.descs_ with
  | false => rw [finAllA_no hso]; exact h
  | true =>
    cases e : finAllR 60 (s.heads_, s.descs_) with
    | none => rw [finAllA_none hso e]; exact h
    | some y =>
      rw [finAllA_some hso e]
      obtain ⟨h1, h2⟩ := finAllR_sum 60 (x := (s.heads_, s.descs_)) hso e
      unfold StoreB at h ⊢
      dsimp only at h1 h2 ⊢
      rw [h1, h2]; exact h
theorem spec_FinishAllW (s : StoreD) (v0 v1 : Value) (w : World) (r0 : rdsL w v0 s.heads_) (r1 : rdsL w v1 s.descs_) (hb : StoreB s) :
    Calls Tryz.prog 18 #[.agg #[v0, v1]] w fun e w' => ∃ u0 u1 : Value, ∃ S0 S1 : Nat → Prop, e = .returned (.tuple #[.agg #[u0, u1], .bool (finAllB s)]) ∧ ownL S0 w' u0 (finAllD s).heads_ ∧ ownL S1 w' u1 (finAllD s).descs_ ∧ (∀ k, S0 k → Rg w.heap.size w'.heap.size k) ∧ (∀ k, S1 k → Rg w.heap.size w'.heap.size k) ∧ (∀ k, S0 k → ¬ S1 k) ∧ StoreB (finAllD s) ∧ Below w.heap.size w w' :=
  (spec_FinishAll0 s.heads_ s.descs_ v0 v1 w (storeB_parts hb).1 (storeB_parts hb).2.1 (storeB_parts hb).2.2.1 r0 r1).mono fun _ _ ⟨u0, u1, he, ⟨S0, S1, o0, o1, g0, g1, dj⟩, b⟩ => ⟨u0, u1, S0, S1, he, o0, o1, g0, g1, dj, finAllB_ hb, b⟩
theorem impl_FinishAllW (s : StoreD) (v0 v1 : Value) (w : World) (r0 : rdsL w v0 s.heads_) (r1 : rdsL w v1 s.descs_) (hb : StoreB s) :
    Calls Tryz.prog 24 #[.agg #[v0, v1]] w fun e w' => ∃ u0 u1 : Value, ∃ S0 S1 : Nat → Prop, e = .returned (.tuple #[.agg #[u0, u1], .bool (finAllB s)]) ∧ ownL S0 w' u0 (finAllD s).heads_ ∧ ownL S1 w' u1 (finAllD s).descs_ ∧ (∀ k, S0 k → Rg w.heap.size w'.heap.size k) ∧ (∀ k, S1 k → Rg w.heap.size w'.heap.size k) ∧ (∀ k, S0 k → ¬ S1 k) ∧ StoreB (finAllD s) ∧ Below w.heap.size w w' :=
  (impl_FinishAll0 s.heads_ s.descs_ v0 v1 w (storeB_parts hb).1 (storeB_parts hb).2.1 (storeB_parts hb).2.2.1 r0 r1).mono fun _ _ ⟨u0, u1, he, ⟨S0, S1, o0, o1, g0, g1, dj⟩, b⟩ => ⟨u0, u1, S0, S1, he, o0, o1, g0, g1, dj, finAllB_ hb, b⟩
end Go.Proofs.YtbbdchlabdilcabGreat
/- Chapter 12: what Mended answers. -/
namespace Go.Proofs.YtbbdchlabdilcabGreat
set_option maxRecDepth 100000
open Go.RowKit Go.Proofs Go.Own
def mendH (d : WorldD) : List Head := (finAllA d.store_.heads_ d.store_.descs_).x.1
def mendOk (d : WorldD) : Bool := worldOk d && (finAllA d.store_.heads_ d.store_.descs_).b
def valsTo (hs : List Head) (k : Nat) : List Int := (hs.take k).map (·.value_)
theorem valsTo_succ {hs : List Head} {k : Nat} (h : k < hs.length) : valsTo hs (k+1) = valsTo hs k ++ [hs[k].value_] := by
  unfold valsTo
  rw [List.take_succ_eq_append_getElem h, List.map_append]; rfl
theorem valsTo_len {hs : List Head} {k : Nat} (h : k ≤ hs.length) : (valsTo hs k).length = k := by
  unfold valsTo
  rw [List.length_map, List.length_take]; omega
def mendC (d : WorldD) : List Int := if mendOk d = true then valsTo (mendH d) (mendH d).length else []
end Go.Proofs.YtbbdchlabdilcabGreat
/- What chapter 9 stands on: chapter 6's small functions. -/
/- Chapter 9's model: an instruction that is so, ProgOk, Straight. -/
namespace Go.Proofs.YtbbdchlabdilcabGreat
set_option maxRecDepth 100000
open Go.RowKit Go.Proofs Go.Own
set_option linter.unusedVariables false
set_option linter.unusedSimpArgs false
theorem spec_l9Reg (x : Int) (w : World) :
    Calls Tryz.prog 124 #[.int .i64 x] w fun e w' => e = .returned (.bool (inB x 0 3)) ∧ w = w' := by
  go_enter Tryz.func124, Tryz.ntmps124
  go_wp2_with (go_at_call 36; refine (spec_l1In _ _ _ _).mono ?_; rintro e w' ⟨rfl, rfl⟩)
  go_ret
  exact ⟨rfl, rfl⟩
theorem spec_l9Object (x : Int) (w : World) :
    Calls Tryz.prog 125 #[.int .i64 x] w fun e w' => e = .returned (.bool (inB x 0 7)) ∧ w = w' := by
  go_enter Tryz.func125, Tryz.ntmps125
  go_wp2_with (go_at_call 36; refine (spec_l1In _ _ _ _).mono ?_; rintro e w' ⟨rfl, rfl⟩)
  go_ret
  exact ⟨rfl, rfl⟩
set_option maxHeartbeats 2000000 in
theorem spec_l9Instr (i : Instr) (n : Int) (w : World) :
    Calls Tryz.prog 99 #[.agg #[.int .i64 i.op_, .int .i64 i.a_, .int .i64 i.b_], .int .i64 n] w fun e w' => e = .returned (.bool (instrOk i n)) ∧ Below w.heap.size w w' := by
  obtain ⟨a0, a1, a2⟩ := i
  have hE := hid (show instrOk ⟨a0, a1, a2⟩ n = (if a0 = 1 then inB a1 0 3 && inB a2 0 7 else
  if a0 = 2 then inB a1 0 7 && inB a2 0 3 else
  if a0 = 3 then inB a1 0 3 && isVal a2 else
  if a0 = 4 then inB a1 0 3 && inB a2 0 3 else
  if a0 = 5 then inB a1 0 3 && inB a2 0 n else
  if a0 = 6 then a1 == 0 && a2 == 0 else
  if a0 = 7 then a1 == 0 && a2 == 0 else
  if a0 = 8 then inB a1 0 n && a2 == 0 else false) from rfl)
  dsimp only
  go_enter Tryz.func99, Tryz.ntmps99
  go_wp2_with (first | (go_at_call 124; refine (spec_l9Reg _ _).mono ?_; rintro e w' ⟨rfl, rfl⟩) | (go_at_call 125; refine (spec_l9Object _ _).mono ?_; rintro e w' ⟨rfl, rfl⟩) | (go_at_call 36; refine (spec_l1In _ _ _ _).mono ?_; rintro e w' ⟨rfl, rfl⟩) | (go_at_call 67; refine (spec_l1Value _ _).mono ?_; rintro e w' ⟨rfl, rfl⟩))
  all_goals go_ret
  all_goals refine ⟨ret_bool (by rw [hE.out]; simp_all), (Below.refl _ _).alloc (Nat.le_refl _) _⟩
/-- The cells of an instruction behind a step. -/
theorem cells3 {w wr : World} {b o : Nat} {v0 v1 v2 : Value} (hB : Below w.heap.size w wr) (hb : b < w.heap.size) (c0 : w.cell? ⟨b, o, none⟩ = some v0) (c1 : w.cell? ⟨b, o + 1, none⟩ = some v1) (c2 : w.cell? ⟨b, o + 2, none⟩ = some v2) :
    wr.cell? ⟨b, o, none⟩ = some v0 ∧ wr.cell? ⟨b, o + 1, none⟩ = some v1 ∧ wr.cell? ⟨b, o + 2, none⟩ = some v2 :=
  ⟨(hB.cell (p := ⟨b, o, none⟩) hb).trans c0, (hB.cell (p := ⟨b, o + 1, none⟩) hb).trans c1, (hB.cell (p := ⟨b, o + 2, none⟩) hb).trans c2⟩
set_option maxHeartbeats 2000000 in
theorem spec_ProgOk (v : Value) (xs : List Instr) (w : World) (h : Instrs w v xs) :
    Calls Tryz.prog 70 #[v] w fun e w' => e = .returned (.bool (progOk xs)) ∧ Below w.heap.size w w' := by
  obtain ⟨ad, cap, rfl, hl, hm, hc⟩ := h.open
  clear h
  have hlen : xs.length ≤ 9223372036854775807 := by omega
  have HC := hid hc
  clear hc
  go_enter Tryz.func70, Tryz.ntmps70
  go_wp2
  go_loopw [3] (fun i wr => ∃ k : Nat, k ≤ xs.length ∧ i = .int .i64 k ∧ Same (progAt xs 0) (progAt xs k) ∧ Below w.heap.size w wr) (fun i _ => xs.length - (intOf i).toNat)
  case atStart => exact ⟨0, by omega, rfl, .rfl, Below.refl _ _⟩
  case round =>
    obtain ⟨k, hk, rfl, hS, hB⟩ := hrel
    by_cases hlt : k < xs.length
    · obtain ⟨bb, off, rfl, hbs, c0, c1, c2⟩ := HC.out k hlt
      obtain ⟨e0, e1, e2⟩ := cells3 hB hbs c0 c1 c2
      have hst := hid (progAt_step xs k hlt)
      clear c0 c1 c2
      cases hE : instrOk xs[k] xs.length with
      | false =>
        have Hn := hid (show progOk xs = false by unfold progOk; rw [hS.out, hst.out, hE]; rfl)
        go_wp2_with fail
        refine (spec_l9Instr xs[k] _ _).mono ?_
        rintro e w2 ⟨rfl, hB1⟩
        rw [hE]
        have hB2 := hB.trans (hB1.mono hB.size)
        go_wp2
        go_ret
        exact ⟨ret_bool Hn.out.symm, hB2⟩
      | true =>
        go_wp2_with fail
        refine (spec_l9Instr xs[k] _ _).mono ?_
        rintro e w2 ⟨rfl, hB1⟩
        rw [hE]
        have hB2 := hB.trans (hB1.mono hB.size)
        clear e0 e1 e2 hB1 hB
        go_wp2
        go_roundw
        case rel => exact ⟨k+1, by omega, by go_num, Same.mk (by rw [hS.out, hst.out, hE, Bool.true_and]), hB2⟩
        case measure => simp [intOf]; omega
    · have Hy := hid (show progOk xs = decide (xs.length ≤ 30) by unfold progOk; rw [hS.out, progAt_end xs k hlt, Bool.true_and])
      by_cases h6 : (xs.length : Int) ≤ 30
      · go_wp2
        go_ret
        exact ⟨ret_bool (by rw [Hy.out, decide_eq_true (by omega : xs.length ≤ 30)]), hB⟩
      · go_wp2
        go_ret
        exact ⟨ret_bool (by rw [Hy.out, decide_eq_false (by omega : ¬ xs.length ≤ 30)]), hB⟩
end Go.Proofs.YtbbdchlabdilcabGreat
/- A region in the text's order, walked as a quiet one: in all worlds grown out of W. Of any program. -/
namespace Go.Own
open Go.RowKit
theorem wpList_of_quiet {P : Program} {ops : Array Oper} {C : World → Prop} {Qa : Act → Prop} {Q : Exit → Act → World → Prop} (hQ : ∀ a' w', C w' → Qa a' → Q .normal a' w') : ∀ (l : List Oper) (a : Act) (w : World), C w → wpQuiet P ops C Qa l a → wpList P ops Q l a w
  | [], a, w, hw, h => hQ _ _ hw h
  | o :: rest, a, w, hw, h => by
    unfold wpQuiet at h
    refine wpList_step fun K hK => ?_
    split
    · rename_i hwt
      rw [if_pos hwt] at h
      obtain ⟨v, hv, hk⟩ := h
      have h1 := hv w hw
      unfold Oper.quietAt at h1
      unfold Oper.wp
      generalize (execOp a.eval o).run P w = r at *
      cases r with
      | ok n w' =>
        cases n <;> simp only [Oper.quietUpon] at h1 <;> simp only [Oper.upon]
        · obtain ⟨rfl, rfl⟩ := h1
          exact hK _ _ (wpList_of_quiet hQ rest _ _ hw hk)
        · obtain ⟨rfl, rfl⟩ := h1
          exact hK _ _ (wpList_of_quiet hQ rest _ _ hw hk)
        · obtain ⟨rfl, h1⟩ := h1
          refine h1.mono ?_
          rintro e w'' ⟨rfl, hC⟩
          exact hK _ _ (wpList_of_quiet hQ rest _ _ hC hk)
      | halt x w' => simp only [Oper.quietUpon] at h1
    · rename_i hwt
      rw [if_neg hwt] at h
      exact hK _ _ (wpList_of_quiet hQ rest _ _ hw h)
/-- A region that keeps to its order: one walk, in all worlds grown out of W. -/
theorem wp_region_ext0 {P : Program} {id : Nat} {Q : Exit → Act → World → Prop} {a : Act} {w : World} {l : List Oper} (W : World) (hW : Below W.heap.size W w)
    (h : wpQuiet P l.toArray (fun w' => ∃ e : Ext W, w' = e.w) (fun a' => ∀ w', (∃ e : Ext W, w' = e.w) → Q .normal a' w') l a) : (Code.region id l.toArray false).wp P Q a w :=
  wp_region_lit (wpList_of_quiet (fun a' w' hC h => h w' hC) l a w ⟨⟨w, hW⟩, rfl⟩ h)
end Go.Own
/- A whole struct out of a box and into it in one step, however many cells it has. Of any program. -/
namespace Go.Own
open Go.RowKit
theorem Box.range {w : World} {b : Nat} {cs : List Value} (h : Box w b cs) : w.rangeAt b 0 cs := fun j v hj => by
  have hl : j < cs.length := by
    rcases Nat.lt_or_ge j cs.length with h1 | h1
    · exact h1
    · rw [List.getElem?_eq_none h1] at hj; cases hj
  rw [Nat.zero_add, h.2 j hl]; exact hj
theorem BoxF.there {w : World} {b : Nat} {cs : List Value} {n : Nat} (h : BoxF w b cs) (hn : n = cs.length) : w.there b 0 n := fun j hj => by
  subst hn
  rw [Nat.zero_add]
  exact ⟨by rw [h.1.2 j hj, List.getElem?_eq_getElem hj]; rfl, h.2 j hj⟩
theorem below_setCells {N : Nat} {w0 : World} (b : Nat) (hb : N ≤ b) : ∀ (vs : List Value) (o : Nat) (w : World), Below N w0 w → Below N w0 (w.setCells b o vs)
  | [], _, _, h => h
  | v :: r, o, w, h => below_setCells b hb r (o + 1) _ (h.setCell (p := ⟨b, o, none⟩) hb v)
theorem chg_setCells {S : Nat → Prop} {w0 : World} (b : Nat) (hb : S b) : ∀ (vs : List Value) (o : Nat) (w : World), ChgS S w0 w → ChgS S w0 (w.setCells b o vs)
  | [], _, _, h => h
  | v :: r, o, w, h => chg_setCells b hb r (o + 1) _ (h.set ⟨b, o, none⟩ v hb)
theorem size_setCells (b : Nat) : ∀ (vs : List Value) (o : Nat) (w : World), (w.setCells b o vs).heap.size = w.heap.size
  | [], _, _ => rfl
  | v :: r, o, w => by rw [World.setCells, size_setCells b r (o + 1)]; simp [World.setCell]
theorem box_setGo (b : Nat) : ∀ (vs pre : List Value) (w : World) (cs : List Value), BoxF w b (pre ++ cs) → cs.length = vs.length → BoxF (w.setCells b pre.length vs) b (pre ++ vs)
  | [], pre, w, cs, h, hl => by
    obtain rfl : cs = [] := List.eq_nil_of_length_eq_zero hl
    exact h
  | v :: r, pre, w, [], h, hl => by cases hl
  | v :: r, pre, w, c :: cs, h, hl => by
    have h1 := h.set pre.length (by simp) v
    rw [show (pre ++ c :: cs).set pre.length v = (pre ++ [v]) ++ cs by simp] at h1
    have h2 := box_setGo b r (pre ++ [v]) _ cs h1 (by simpa using hl)
    rw [show (pre ++ [v]).length = pre.length + 1 by simp] at h2
    rw [World.setCells]
    simpa using h2
theorem BoxF.setCells {w : World} {b : Nat} {cs : List Value} (h : BoxF w b cs) (vs : List Value) (hl : cs.length = vs.length) : BoxF (w.setCells b 0 vs) b vs := by
  have := box_setGo b vs [] w cs h hl
  simpa using this
section
variable {P : Program}
/-- A struct stored whole into its box: the box holds it behind that, all else is as it was. -/
theorem wpList_store_box {ops : Array Oper} {rest : List Oper} {op : Oper} {a : Act} {w : World} {Q : Exit → Act → World → Prop} (hgd : op.guard = none) (ty : TypeId) (x y : Operand) (ho : op.op = .store ty x y)
    (b : Nat) (cs vs : List Value) (hb : BoxF w b cs) (hx : a.eval x = .pointer (some ⟨b, 0, none⟩)) (hy : a.eval y = .agg vs.toArray) (hl : cs.length = vs.length)
    (hi : (P.info? ty).map (·.size) = some vs.length) (h1 : vs.all (·.oneCell') = true)
    (h : ∀ w', BoxF w' b vs → ChgS (fun k => k = b) w w' → wpList P ops Q rest (a.put op.dst undef) w') : wpList P ops Q (op :: rest) a w :=
  wpList_store_mid hgd ty x y ho b 0 vs.toArray hx hy (hb.there (by simp [hl])) (by simpa using hi) (all_oneCell_toArray (by simpa using h1))
    (h _ (by simpa using hb.setCells vs hl) (chg_setCells (S := fun k => k = b) b rfl _ 0 w (ChgS.refl _ _)))
/-- A struct loaded whole. -/
theorem wpList_load_box {ops : Array Oper} {rest : List Oper} {op : Oper} {a : Act} {w : World} {Q : Exit → Act → World → Prop} (hgd : op.guard = none) (ty : TypeId) (x : Operand) (ho : op.op = .load ty x)
    (b : Nat) (cs : List Value) (hb : Box w b cs) (hx : a.eval x = .pointer (some ⟨b, 0, none⟩)) (d : TypeDesc) (hu : P.underlying ty = some d) (hd : d.isRow = true) (hi : (P.info? ty).map (·.size) = some cs.length)
    (h : wpList P ops Q rest (a.put op.dst (.agg cs.toArray)) w) : wpList P ops Q (op :: rest) a w :=
  wpList_load_mid hgd ty x ho b 0 hx cs d hb.range hu hd hi h
end
end Go.Own
