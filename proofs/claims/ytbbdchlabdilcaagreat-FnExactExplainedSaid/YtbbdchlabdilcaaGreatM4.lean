/- Appends in regions that draw their order. -/
import Derived.Test.YtbbdchlabdilcaaGreatBase2
import Derived.Deep.RegionLaw
import Derived.Test.YtbbdchlabdilcaaGreatM3
import Derived.Deep.QuietTactic
import Derived.BigQuiet
namespace Go.Own
open Go.RowKit
/-- 'append(s, x...)', s a row of the call's own, x whatever slice that is read, as one step of a region that draws. -/
theorem step_append_flat {P : Program} {ops : Array Oper} {o : Oper} {a : Act} {w : World} {K : Act → World → Prop} {Q : Exit → Act → World → Prop} {E : Prop}
    (hg : o.guard = none) (s x : Operand) (t : TypeId) (hop : o.op = Op.call { callee := Callee.builtin Builtin.append, args := #[s, x], argTypes := #[t, t] })
    (base : Nat) (e : TypeId) (i : TypeInfo) (z : Value) (size bytes : Nat) (ht : P.underlying t = some (.slice e)) (hi : P.info? e = some i) (hz : i.zero = some z)
    (hsize : i.size = size) (hby : i.bytes = bytes) (hzs : z.cells.size = size) (hsz : 0 < size)
    (v : Value) (n : Nat) (xs : List Value) (hs : a.eval s = v) (hown : w.ownsRow base e size v n xs)
    (u : Value) (m : Nat) (news : List Value) (hx : a.eval x = u) (hu : Flat w u m size news) (h1 : ∀ c ∈ news, c.oneCell' = true)
    (h63 : n + m ≤ maxLen) (hbytes : (n + m) * bytes ≤ 140737488355328) (hbase : base ≤ w.heap.size)
    (hK : ∀ v' w', w'.ownsRow base e size v' (n + m) (xs ++ news) → w.grownBy w' v.ownBlock → Below base w w' → K (a.put o.dst v') w') :
    if Region.wanted o (yielded ops a.tmps) = true then Oper.wp P o a w K Q else E := by
  have hw : Region.wanted o (yielded ops a.tmps) = true := by simp [Region.wanted, hg]
  rw [if_pos hw]
  rcases hu.src with ⟨rfl, rfl, rfl⟩ | ⟨ad, cap, rfl, hl, hc⟩
  · have hrun := run_append_owned_none (P := P) (w := w) base t o.type e i size ht hi v n xs hown
    have hk := hK v w (by simpa using hown) (World.grownBy.refl _ _) (Below.refl _ _)
    unfold Oper.wp
    simp [execOp, hop, resolve, invoke, builtin, hs, hx, hrun, Result.andThen]
    exact hk
  · obtain ⟨v', w', hrun, r1, r2, _⟩ := run_append_own (P := P) (w := w) base t o.type e i z size bytes ht hi hz hsize hby hzs hsz v n xs hown ad m cap news hl hc h1 h63 hbytes hbase
    unfold Oper.wp
    simp [execOp, hop, resolve, invoke, builtin, hs, hx, hrun, Result.andThen]
    exact hK v' w' r1 r2 (below_of_mark hown r2 (Nat.le_refl _) hbase)
/-- Rows of two element types are two rows. -/
theorem apart_types {w : World} {b1 b2 e1 e2 s1 s2 n1 n2 : Nat} {v u : Value} {c1 c2 : List Value} (h : w.ownsRow b1 e1 s1 v n1 c1) (g : w.ownsRow b2 e2 s2 u n2 c2) (he : e1 ≠ e2) : (v.ownBlock = none ∨ v.ownBlock ≠ u.ownBlock) ∧ (u.ownBlock = none ∨ u.ownBlock ≠ v.ownBlock) := by
  rcases h.2 with ⟨rfl, _⟩ | ⟨k, cap, cur, rfl, _, hk, _⟩
  · exact ⟨.inl rfl, by cases u.ownBlock <;> simp [Value.ownBlock]⟩
  · rcases g.2 with ⟨rfl, _⟩ | ⟨k2, cap2, cur2, rfl, _, hk2, _⟩
    · exact ⟨.inr (by simp [Value.ownBlock]), .inl rfl⟩
    · have hne : k ≠ k2 := by
        intro e
        subst e
        rw [hk] at hk2
        simp only [Option.some.injEq, Obj.cells.injEq] at hk2
        exact he hk2.2.1
      exact ⟨.inr (by simp [Value.ownBlock, hne]), .inr (by simp [Value.ownBlock, Ne.symm hne])⟩
/-- Two rows of a call's own, laid into its result's box. -/
theorem fin_box2 {w W1 X : World} {b e0 e1 s0 s1 n0 n1 : Nat} {u0 u1 : Value} {c0 c1 : List Value} (hN : b < W1.heap.size) (hb : w.heap.size ≤ b) (hw : w.heap.size ≤ W1.heap.size) (hB1 : Below w.heap.size w W1) (hX : Below W1.heap.size W1 X) (R0 : X.ownsRow W1.heap.size e0 s0 u0 n0 c0) (R1 : X.ownsRow W1.heap.size e1 s1 u1 n1 c1) (he : e0 ≠ e1) (x0 x1 : Value) :
    ((X.setCell ⟨b, 0, none⟩ x0).setCell ⟨b, 1, none⟩ x1).ownsRow w.heap.size e0 s0 u0 n0 c0 ∧ ((X.setCell ⟨b, 0, none⟩ x0).setCell ⟨b, 1, none⟩ x1).ownsRow w.heap.size e1 s1 u1 n1 c1 ∧
    ((u0.ownBlock = none ∨ u0.ownBlock ≠ u1.ownBlock) ∧ (u1.ownBlock = none ∨ u1.ownBlock ≠ u0.ownBlock)) ∧ Below w.heap.size w ((X.setCell ⟨b, 0, none⟩ x0).setCell ⟨b, 1, none⟩ x1) :=
  ⟨owns_mono (owns_setCell (owns_setCell R0 _ _ hN) _ _ hN) hw, owns_mono (owns_setCell (owns_setCell R1 _ _ hN) _ _ hN) hw, apart_types R0 R1 he, ((hB1.trans (hX.mono hw)).setCell (by exact hb) _).setCell (by exact hb) _⟩
theorem stepB {N : Nat} {W0 X w2 : World} (hp : Below N W0 X) (hN : N ≤ X.heap.size) (b : Below X.heap.size X w2) : Below N W0 w2 := hp.trans (b.mono hN)
end Go.Own
/- Chapter 6's model: SetNew, DescOk. -/
namespace Go.Proofs.YtbbdchlabdilcaaGreat
set_option maxRecDepth 100000
open Go.RowKit Go.Proofs Go.Own
set_option linter.unusedVariables false
set_option linter.unusedSimpArgs false
theorem oneCell_E (x : Entry) : ∀ c ∈ Entry.enc x, c.oneCell' = true := by intro c hc; simp [Entry.enc] at hc; rcases hc with rfl | rfl | rfl | rfl | rfl <;> rfl
/-- Two cells of a row of the call's own: an entry's New and Write. -/
theorem owns_wr6 {w : World} {base e g c : Nat} {xs : List Entry} (h : w.ownsRow base e 5 (.slice (some ⟨g, 0, none⟩) xs.length c) xs.length (xs.flatMap Entry.enc)) (k : Nat) (hk : k < xs.length) (x : Int) :
    ((w.setCell ⟨g, k * 5 + 3, none⟩ (.int .i64 x)).setCell ⟨g, k * 5 + 4, none⟩ (.bool true)).ownsRow base e 5 (.slice (some ⟨g, 0, none⟩) xs.length c) (setAt xs k x).length ((setAt xs k x).flatMap Entry.enc) := by
  rw [setAt_len, ← setAt_cells xs k x hk]
  exact owns_put (owns_put h _ _) _ _
set_option maxHeartbeats 2000000 in
theorem spec_SetNew0 (v : Value) (xs : List Entry) (o x : Int) (w : World) (h : Entrys w v xs) (hx : xs.length ≤ 1048576) :
    Calls Tryz.prog 249 #[v, .int .i64 o, .int .i64 x] w fun e w' => ∃ v' : Value, e = .returned (.tuple #[v', .bool (setOkC xs o x)]) ∧ w'.ownsRow w.heap.size 123 5 v' (setL xs o x).length ((setL xs o x).flatMap Entry.enc) ∧ Below w.heap.size w w' := by
  have hge := openedC_ge xs o
  have hlt := openedC_lt xs o
  have H0 := hid h
  go_enter Tryz.func249, Tryz.ntmps249
  clear h
  go_wp2_with fail
  refine (spec_l6Copy v xs _ H0.out hx).mono ?_
  rintro e w2 ⟨u, rfl, o2, b2⟩
  have h2 := hid (Entrys.below H0.out b2)
  go_wp2_with fail
  refine (spec_Opened0 v xs o _ h2.out).mono ?_
  rintro e w3 ⟨rfl, b3⟩
  have o3 := owns_below o2 b3
  have b4 := b2.trans (b3.mono b2.size)
  clear H0 h2
  by_cases hk : openedC xs o < 0
  · have Hn := hid (show setOkC xs o x = false by unfold setOkC; rw [decide_eq_false (by omega)]; rfl)
    clear o2
    go_wp2
    go_ret2
    exact ⟨_, by rw [Hn.out]; rfl, by rw [setL, Hn.out, if_neg (by simp)]; exact o3, b4⟩
  · cases hv : isVal x with
    | false =>
      have Hn := hid (show setOkC xs o x = false by unfold setOkC; rw [hv, Bool.and_false])
      go_wp2_with (go_at_call 157; refine (spec_l1Value _ _).mono ?_; rintro e w' ⟨rfl, rfl⟩)
      go_ret2
      exact ⟨_, by rw [Hn.out]; rfl, by rw [setL, Hn.out, if_neg (by simp)]; exact o3, b4⟩
    | true =>
      have Hy := hid (show setOkC xs o x = true by unfold setOkC; rw [hv, decide_eq_true (by omega)]; rfl)
      have HL := hid (show setL xs o x = setAt xs (openedC xs o).toNat x by rw [setL, if_pos Hy.out])
      generalize openedC xs o = K at *
      obtain ⟨k, rfl⟩ := Int.eq_ofNat_of_zero_le (by omega : 0 ≤ K)
      have hkl : k < xs.length := by omega
      have hkl2 : (k : Int) < (xs.length : Int) := by omega
      have hk0 : (0 : Int) ≤ (k : Int) := by omega
      rw [Int.toNat_natCast] at HL
      clear o2 hge hlt
      obtain ⟨a, cap, rfl, hc1, hc2⟩ := owns_form o3
      obtain ⟨g, rfl⟩ : ∃ g, a = some ⟨g, 0, none⟩ := by
        rcases o3.2 with ⟨e1, e2⟩ | ⟨g, c2, cur, e1, _⟩
        · omega
        · simp only [Value.slice.injEq, true_and] at e1; exact ⟨g, e1.1⟩
      have g3 := o3.cellAt (k * 5 + 3) (by omega)
      have g4 := o3.cellAt (k * 5 + 4) (by omega)
      rw [flatMap_get Entry.enc 5 (fun _ => rfl) xs k hkl 3 (by omega)] at g3
      rw [flatMap_get Entry.enc 5 (fun _ => rfl) xs k hkl 4 (by omega)] at g4
      have f3 := World.ownsRow.frozenAt o3 (k * 5 + 3)
      have f4 := World.ownsRow.frozenAt o3 (k * 5 + 4)
      have hg := (owns_lt o3).1
      simp only [Entry.enc, List.getElem?_cons_succ, List.getElem?_cons_zero] at g3 g4
      have o4 := hid (owns_wr6 o3 k hkl x)
      have b5 := hid ((b4.setCell (p := ⟨g, k * 5 + 3, none⟩) hg (.int .i64 x)).setCell (p := ⟨g, k * 5 + 4, none⟩) hg (.bool true))
      go_wp2_with (go_at_call 157; refine (spec_l1Value _ _).mono ?_; rintro e w' ⟨rfl, rfl⟩)
      go_ret2
      exact ⟨_, by rw [Hy.out]; rfl, by rw [HL.out]; exact o4.out, b5.out⟩
set_option maxHeartbeats 8000000 in
theorem spec_DescOk0 (ow st : Int) (v : Value) (xs : List Entry) (w : World) (h : Entrys w v xs) :
    Calls Tryz.prog 238 #[.agg #[.int .i64 ow, .int .i64 st, v]] w fun e w' => e = .returned (.bool (descOk ow st xs)) ∧ Below w.heap.size w w' := by
  have H0 := hid h
  obtain ⟨ad, cap, rfl, hl, hm, hc⟩ := h.open
  clear h
  have hlen : xs.length ≤ 9223372036854775807 := by omega
  have HC := hid hc
  clear hc
  obtain ⟨W1, hW1⟩ : ∃ X, w.alloc (.cells #[.int .i64 ow, .int .i64 st, Value.slice ad xs.length cap] 54) = X := ⟨_, rfl⟩
  have hB1 : Below w.heap.size w W1 := by rw [← hW1]; exact (Below.refl _ _).alloc (Nat.le_refl _) _
  have hN : w.heap.size < W1.heap.size := by rw [← hW1]; simp
  have k0 : W1.cell? ⟨w.heap.size, 0, none⟩ = some (.int .i64 ow) := by rw [← hW1]; simp [go_sem]
  have k1 : W1.cell? ⟨w.heap.size, 1, none⟩ = some (.int .i64 st) := by rw [← hW1]; simp [go_sem]
  have k2 : W1.cell? ⟨w.heap.size, 2, none⟩ = some (Value.slice ad xs.length cap) := by rw [← hW1]; simp [go_sem]
  go_enter Tryz.func238, Tryz.ntmps238
  go_wp2
  clear hW1
  go_loopw [3] (fun i wr => ∃ k : Nat, (k ≤ xs.length ∨ k = 0) ∧ i = .int .i64 ((k : Int) + 1) ∧ Same (ascGo (xs.drop k)) (ascGo xs) ∧ Below W1.heap.size W1 wr) (fun i _ => xs.length + 1 - (intOf i).toNat)
  case atStart => exact ⟨0, .inr rfl, rfl, .rfl, Below.refl _ _⟩
  case round =>
    obtain ⟨k, hk, rfl, hS, hB⟩ := hrel
    have q0 := (hB.cell (p := ⟨w.heap.size, 0, none⟩) hN).trans k0
    have q1 := (hB.cell (p := ⟨w.heap.size, 1, none⟩) hN).trans k1
    have q2 := (hB.cell (p := ⟨w.heap.size, 2, none⟩) hN).trans k2
    have hB2 := hB1.trans (hB.mono hB1.size)
    clear k0 k1 k2
    by_cases hlt : k + 1 < xs.length
    · have hlt' : (k : Int) + 1 < (xs.length : Int) := by omega
      obtain ⟨bb, off, rfl, hbs, c0, -⟩ := HC.out k (by omega)
      have c1 := (HC.out (k+1) hlt |> fun ⟨_, _, q, _, c, _⟩ => by cases q; exact c : w.cell? ⟨bb, off + (k+1) * 5, none⟩ = some (.int .i64 xs[k+1].object_))
      have e0 := (hB2.cell (p := ⟨bb, off + k * 5, none⟩) hbs).trans c0
      have e1 := (hB2.cell (p := ⟨bb, off + (k+1) * 5, none⟩) hbs).trans c1
      have hst := hid (asc_step xs k hlt)
      have hix : ((k : Int) + 1).toNat = k + 1 := by omega
      have hix2 : ((k : Int) + 1 - 1).toNat = k := by omega
      clear c0 c1 HC
      by_cases heq : xs[k+1].object_ ≤ xs[k].object_
      · have Hn := hid (show descOk ow st xs = false by
          unfold descOk; rw [← hS.out, hst.out, decide_eq_false (by omega : ¬ xs[k].object_ < xs[k+1].object_)]; simp)
        go_wp2
        go_quiet (fail)
        go_wp2
        go_ret
        exact ⟨ret_bool Hn.out.symm, below_drewN hB2 _⟩
      · go_wp2
        go_quiet (fail)
        go_wp2
        go_roundw
        case rel => exact ⟨k+1, by omega, by go_num, Same.mk (by have h9 := hS.out; rw [hst.out, decide_eq_true (by omega : xs[k].object_ < xs[k+1].object_), Bool.true_and] at h9; exact h9), below_drewN hB _⟩
        case measure => simp [intOf]; omega
    · have Hy := hid (show descOk ow st xs = (inB ow 0 3 && inB st 0 2 && decide (0 < xs.length) && openOk xs) by
        unfold descOk; rw [← hS.out, asc_end xs k hlt, Bool.and_true])
      have h2 := hid (Entrys.below H0.out hB2)
      have hlt' : ¬ (k : Int) + 1 < (xs.length : Int) := by omega
      clear HC H0 hB hB1 hS
      cases hA : inB ow 0 3 with
      | false =>
        go_wp2_with (go_at_call 128; refine (spec_l1In _ _ _ _).mono ?_; rintro e w' ⟨rfl, rfl⟩)
        go_ret
        exact ⟨ret_bool (by rw [Hy.out, hA]; rfl), hB2⟩
      | true =>
      cases hA2 : inB st 0 2 with
      | false =>
        go_wp2_with (go_at_call 128; refine (spec_l1In _ _ _ _).mono ?_; rintro e w' ⟨rfl, rfl⟩)
        go_ret
        exact ⟨ret_bool (by rw [Hy.out, hA, hA2]; rfl), hB2⟩
      | true =>
      by_cases h0 : (0 : Int) < (xs.length : Int)
      · go_wp2_with (go_at_call 128; refine (spec_l1In _ _ _ _).mono ?_; rintro e w' ⟨rfl, rfl⟩)
        refine (spec_OpenOk _ xs _ h2.out).mono ?_
        rintro e w3 ⟨rfl, b3⟩
        have hB3 := hB2.trans (b3.mono hB2.size)
        go_wp2
        go_ret
        exact ⟨ret_bool (by rw [Hy.out, hA, hA2, decide_eq_true (by omega : 0 < xs.length)]; rfl), hB3⟩
      · go_wp2_with (go_at_call 128; refine (spec_l1In _ _ _ _).mono ?_; rintro e w' ⟨rfl, rfl⟩)
        go_ret
        exact ⟨ret_bool (by rw [Hy.out, decide_eq_false (by omega : ¬ 0 < xs.length)]; simp), hB2⟩
end Go.Proofs.YtbbdchlabdilcaaGreat
/- Worlds that grow out of a world: facts said once of all of them; a region that draws its order, walked once, in a class of such worlds. -/
namespace Go.Own
open Go.RowKit
/-- A world that has grown out of W: what W has is there as it was. -/
structure Ext (W : World) where
  w : World
  h : Below W.heap.size W w
theorem Ext.size {W : World} (e : Ext W) : W.heap.size ≤ e.w.heap.size := e.h.size
/-- This very world. -/
def Ext.here (W : World) : Ext W := ⟨W, Below.refl _ _⟩
instance (W : World) : Nonempty (Ext W) := ⟨Ext.here W⟩
/-- A world that grows on from a grown one. -/
def Ext.on {W : World} (e : Ext W) {w' : World} (h : Below e.w.heap.size e.w w') : Ext W := ⟨w', e.h.trans (h.mono e.size)⟩
theorem Ext.ex {W : World} (e : Ext W) {w' : World} (h : Below e.w.heap.size e.w w') : ∃ E : Ext W, w' = E.w := ⟨e.on h, rfl⟩
theorem Ext.of {W w' : World} (h : Below W.heap.size W w') : ∃ E : Ext W, w' = E.w := ⟨⟨w', h⟩, rfl⟩
/-- A world grown out of a grown one has grown out of the first. -/
def Ext.back {W V : World} (h : Below W.heap.size W V) (e : Ext V) : Ext W := ⟨e.w, h.trans (e.h.mono h.size)⟩
theorem Ext.back_w {W V : World} (h : Below W.heap.size W V) (e : Ext V) : (e.back h).w = e.w := rfl
theorem Ext.cell {W : World} {b o : Nat} {v : Value} (hb : b < W.heap.size) (h : W.cell? ⟨b, o, none⟩ = some v) : ∀ e : Ext W, e.w.cell? ⟨b, o, none⟩ = some v := fun e => (e.h.cell (p := ⟨b, o, none⟩) hb).trans h
theorem Ext.froz {W : World} {b o : Nat} {v : Bool} (hb : b < W.heap.size) (h : W.frozen? ⟨b, o, none⟩ = v) : ∀ e : Ext W, e.w.frozen? ⟨b, o, none⟩ = v := fun e => (e.h.frozen (p := ⟨b, o, none⟩) hb).trans h
theorem Ext.flat {W : World} {v : Value} {n sz : Nat} {cs : List Value} (h : Flat W v n sz cs) : ∀ e : Ext W, Flat e.w v n sz cs := fun e => Flat.below h e.h
theorem Ext.now {W : World} {p : Addr} {v : Option Value} (h : ∀ e : Ext W, e.w.cell? p = v) : W.cell? p = v := h (Ext.here W)
theorem Ext.lt {W : World} {b : Nat} (h : b < W.heap.size) : ∀ e : Ext W, b < e.w.heap.size := fun e => Nat.lt_of_lt_of_le h e.size
theorem Ext.ne {W : World} {b : Nat} (h : b < W.heap.size) : ∀ e : Ext W, (b == e.w.heap.size) = false := fun e => by have := e.size; simp; omega
/-- A region that draws its order: one walk of the text's order, in all worlds grown out of W. -/
theorem wp_region_ext {P : Program} {id : Nat} {Q : Exit → Act → World → Prop} {a : Act} {w : World} {l : List Oper} (W : World) (hW : Below W.heap.size W w) (hm : P.follows .mixedOrders = true) (hB : Region.lexB .any l.toArray = true)
    (h : wpQuiet P l.toArray (fun w' => ∃ e : Ext W, w' = e.w) (fun a' => ∀ w', (∃ e : Ext W, w' = e.w) → Q .normal a' w') l a) : (Code.region id l.toArray true).wp P Q a w :=
  wp_region_quiet (C := fun w' => ∃ e : Ext W, w' = e.w) hm hB ⟨⟨_, hW.drew⟩, rfl⟩ (by simpa using h)
theorem call_ext {P : Program} {f : FuncId} {args : Array Value} {W : World} (E : Ext W) {v : Value} (h : Calls P f args E.w fun e w' => e = .returned v ∧ Below E.w.heap.size E.w w') : Calls P f args E.w fun e w'' => e = .returned v ∧ ∃ e2 : Ext W, w'' = e2.w :=
  h.mono fun _ _ ⟨he, hb⟩ => ⟨he, E.ex hb⟩
theorem call_ext_same {P : Program} {f : FuncId} {args : Array Value} {W : World} (E : Ext W) {v : Value} (h : Calls P f args E.w fun e w' => e = .returned v ∧ E.w = w') : Calls P f args E.w fun e w'' => e = .returned v ∧ ∃ e2 : Ext W, w'' = e2.w :=
  h.mono fun _ _ ⟨he, hb⟩ => ⟨he, E, hb.symm⟩
/-- A box that is made anew. -/
theorem Ext.alloc {W : World} (e : Ext W) (o : Obj) : Below W.heap.size W (e.w.alloc o) := e.h.alloc (by have := e.size; omega) _
end Go.Own
/- Chapter 6's model: Meets. -/
namespace Go.Proofs.YtbbdchlabdilcaaGreat
set_option maxRecDepth 100000
open Go.RowKit Go.Proofs Go.Own
open Go Go.BigFrame
set_option linter.unusedVariables false
set_option linter.unusedSimpArgs false
theorem spec_OpenedIs (v : Value) (xs : List Entry) (o : Int) (r : Int) (w : World) (h : Entrys w v xs) (e : openedC xs o = r) :
    Calls Tryz.prog 239 #[v, .int .i64 o] w fun e w' => e = .returned (.int .i64 r) ∧ Below w.heap.size w w' := by
  subst e; exact spec_Opened0 v xs o w h
end Go.Proofs.YtbbdchlabdilcaaGreat
