/- Chapter 9's program: ProgOk, Straight. -/
import Derived.Test.YtcafdihekamnkaaI9
import Derived.Test.YtcafdihekamnkaaM5
import Derived.Shelf.Abstract
import Derived.Test.YtcafdihekamnkaaM7
import Derived.Test.YtcafdihekamnkaaM9
namespace Go.Proofs.Ytcafdihekamnkaa
set_option maxRecDepth 100000
open Go.RowKit Go.Proofs Go.Own
open Go Go.BigFrame Go.Shelf
set_option linter.unusedVariables false
set_option linter.unusedSimpArgs false
set_option maxHeartbeats 2000000 in
theorem impl_ProgOk (v : Value) (xs : List Instr) (w : World) (h : Instrs w v xs) :
    Calls Try.prog 41 #[v] w fun e w' => e = .returned (.bool (progOk xs)) ∧ Below w.heap.size w w' := by
  have H0 := hid h
  obtain ⟨ad, cap, rfl, hl, hm, hc⟩ := h.open
  clear h
  have hlen : xs.length ≤ 9223372036854775807 := by omega
  have HC := hid hc
  clear hc
  by_cases h6 : (30 : Int) < (xs.length : Int)
  · have Hno := hid (show progOk xs = false by unfold progOk; rw [decide_eq_false (by omega), Bool.and_false])
    go_enter Try.func41, Try.ntmps41
    go_wp2
    go_ret
    exact ⟨ret_bool Hno.out.symm, Below.refl _ _⟩
  have Hy := hid (show progOk xs = progAt xs 0 by unfold progOk; rw [decide_eq_true (by omega), Bool.and_true])
  go_enter Try.func41, Try.ntmps41
  go_wp2
  go_loopw [10] (fun i wr => ∃ k : Nat, k ≤ xs.length ∧ i = .int .i64 k ∧ Same (progAt xs 0) (progAt xs k) ∧ Below w.heap.size w wr) (fun i _ => xs.length - (intOf i).toNat)
  case atStart => exact ⟨0, by omega, rfl, .rfl, Below.refl _ _⟩
  case round =>
    obtain ⟨k, hk, rfl, hS, hB⟩ := hrel
    by_cases hlt : k < xs.length
    · obtain ⟨bb, off, rfl, hbs, c0, c1, c2⟩ := HC.out k hlt
      obtain ⟨e0, e1, e2⟩ := cells3 hB hbs c0 c1 c2
      have hst := hid (progAt_step xs k hlt)
      clear c0 c1 c2
      obtain ⟨V, hV⟩ : ∃ X, wr.alloc (.cells #[.int .i64 xs[k].op_, .int .i64 xs[k].a_, .int .i64 xs[k].b_] 72) = X := ⟨_, rfl⟩
      have bV : Below wr.heap.size wr V := by rw [← hV]; exact (Below.refl _ _).alloc (Nat.le_refl _) _
      have k0 : V.cell? ⟨wr.heap.size, 0, none⟩ = some (.int .i64 xs[k].op_) := by rw [← hV]; simp [go_sem]
      have k1 : V.cell? ⟨wr.heap.size, 1, none⟩ = some (.int .i64 xs[k].a_) := by rw [← hV]; simp [go_sem]
      have k2 : V.cell? ⟨wr.heap.size, 2, none⟩ = some (.int .i64 xs[k].b_) := by rw [← hV]; simp [go_sem]
      have HBV := hid (show Below w.heap.size w V from hB.trans (bV.mono hB.size))
      have HV := hid hV
      clear hV bV HC H0
      cases hE : instrOk xs[k] xs.length with
      | false =>
        have Hn := hid (show progOk xs = false by rw [Hy.out, hS.out, hst.out, hE]; rfl)
        go_wp2_with fail
        rw [HV.out]
        clear e0 e1 e2
        go_wp2_with fail
        refine (impl_instrOk xs[k] _ _).mono ?_
        rintro e w2 ⟨rfl, b2⟩
        rw [hE]
        have hB2 := HBV.out.trans (b2.mono HBV.out.size)
        go_wp2
        go_ret
        exact ⟨ret_bool Hn.out.symm, hB2⟩
      | true =>
        go_wp2_with fail
        rw [HV.out]
        clear e0 e1 e2
        go_wp2_with fail
        refine (impl_instrOk xs[k] _ _).mono ?_
        rintro e w2 ⟨rfl, b2⟩
        rw [hE]
        have hB2 := HBV.out.trans (b2.mono HBV.out.size)
        go_wp2
        go_roundw
        case rel => exact ⟨k+1, by omega, by go_num, Same.mk (by rw [hS.out, hst.out, hE, Bool.true_and]), hB2⟩
        case measure => simp [intOf]; omega
    · have Hn := hid (show progOk xs = true by rw [Hy.out, hS.out, progAt_end xs k hlt])
      go_wp2
      go_ret
      exact ⟨ret_bool Hn.out.symm, hB⟩
end Go.Proofs.Ytcafdihekamnkaa
/- Chapter 10's program: ThreadOk. (printed by tools/mk_i10.py) -/
namespace Go.Proofs.Ytcafdihekamnkaa
set_option maxRecDepth 100000
open Go.RowKit Go.Proofs Go.Own
open Go Go.BigFrame
set_option linter.unusedVariables false
set_option linter.unusedSimpArgs false
theorem impl_isThreadIs (t : Int) (r : Bool) (w : World) (e : inB t 0 3 = r) :
    Calls Try.prog 40 #[.int .i64 t] w fun e w' => e = .returned (.bool r) ∧ w = w' := by
  subst e
  go_enter Try.func40, Try.ntmps40
  go_wp2
  all_goals go_ret
  all_goals (simp [inB, *]; try omega)
theorem impl_allValues10 (v : Value) (xs : List Int) (w : World) (h : Ints w v xs) :
    Calls Try.prog 39 #[v] w fun e w' => e = .returned (.bool (allIn xs (-1000000000) 1000000000 0)) ∧ w = w' := by
  obtain ⟨ad, cap, rfl, hl, hm, hc⟩ := h.open
  have hlen : xs.length ≤ 9223372036854775807 := by omega
  go_enter Try.func39, Try.ntmps39
  go_wp2
  go_loop [7] (fun i => ∃ k : Nat, k ≤ xs.length ∧ i = .int .i64 k ∧ Same (allIn xs (-1000000000) 1000000000 0) (allIn xs (-1000000000) 1000000000 k)) (fun i => xs.length - (intOf i).toNat)
  case atStart => exact ⟨0, by omega, rfl, .rfl⟩
  case round =>
    obtain ⟨k, hk, rfl, hall⟩ := hrel
    by_cases hlt : k < xs.length
    · obtain ⟨bb, off, rfl, hbs, hcell⟩ := hc k hlt
      have hst := hid (allIn_step xs (-1000000000) 1000000000 k hlt)
      clear hc
      go_wp2_with ((go_at_call 58; refine (impl_isValue _ _).mono ?_; rintro e w' ⟨rfl, rfl⟩))
      · have hf : (!isVal xs[k]) = true := by assumption
        go_ret
        exact ⟨ret_bool (by rw [hall.out, hst.out]; simp [isVal] at hf; simp [hf]), rfl⟩
      · have hf : (!isVal xs[k]) = false := by assumption
        go_round
        case rel => exact ⟨k+1, by omega, by go_num, .mk (by rw [hall.out, hst.out]; simp [isVal] at hf; simp [hf])⟩
        case measure => simp [intOf]; omega
    · have hst := hid (allIn_end xs (-1000000000) 1000000000 k hlt)
      go_wp2
      go_ret
      exact ⟨ret_bool (by rw [hall.out, hst.out]), rfl⟩
theorem impl_allValuesIs (v : Value) (xs : List Int) (r : Bool) (w : World) (h : Ints w v xs) (e : allIn xs (-1000000000) 1000000000 0 = r) :
    Calls Try.prog 39 #[v] w fun e w' => e = .returned (.bool r) ∧ w = w' := by subst e; exact impl_allValues10 v xs w h
theorem impl_ProgOkIs (xs : List Instr) (v : Value) (r : Bool) (w : World) (h : rdsL w v xs) (e : progOk xs = r) :
    Calls Try.prog 41 #[v] w fun e w' => e = .returned (.bool r) ∧ Below w.heap.size w w' := by subst e; exact impl_ProgOk v xs w (rdsInstrs.1 h)
theorem objs_all {xs : List Entry} (h : openOk xs = true) (n : Nat) : xs.all (objIn n) = objsAt n xs 0 := by
  have hp := openOk_at h
  unfold objsAt
  rw [List.drop_zero, Bool.eq_iff_iff, List.all_eq_true, List.all_eq_true]
  constructor
  · intro h9 e he
    have := h9 e he
    unfold objIn at this
    simp only [Bool.and_eq_true] at this
    exact this.2
  · intro h9 e he
    obtain ⟨i, hi, rfl⟩ := List.getElem_of_mem he
    have h8 := (entryOk_iff.1 (hp i hi).1).1.1
    unfold objIn
    rw [decide_eq_true h8, Bool.true_and]
    exact h9 _ he
end Go.Proofs.Ytcafdihekamnkaa
/- A field of a struct that lies in a box: stored in one step, whatever world comes of it. Of any program. -/
namespace Go.Own
open Go.RowKit
theorem run_storeVar_one {P : Program} (w : World) (b o : Nat) (ty : TypeId) (v : Value) (hc : (w.cell? ⟨b, o, none⟩).isSome = true) (hf : w.frozen? ⟨b, o, none⟩ = false) (hi : (P.info? ty).map (·.size) = some 1) (h1 : v.oneCell' = true) (hv : v.cells = #[v]) :
    (storeVar ty ⟨b, o, none⟩ v).run P w = .ok () (w.setCell ⟨b, o, none⟩ v) := by
  have := run_storeCells_cells (P := P) b o [v] 0 w (fun j hj => by
    obtain rfl : j = 0 := by simpa using hj
    simpa using hc) (fun j hj => by
    obtain rfl : j = 0 := by simpa using hj
    simpa using hf) (fun u hu => by
    obtain rfl : u = v := by simpa using hu
    exact h1)
  cases hq : P.info? ty with
  | none => simp [hq] at hi
  | some i =>
    have hs : 1 = i.size := by simp [hq] at hi; omega
    simp only [Nat.add_zero] at this
    simp [storeVar, sizeOf, typeInfo, hq, hv, ← hs, this, World.setCells]
theorem box_setMid (b : Nat) (post : List Value) : ∀ (vs pre : List Value) (w : World) (cs : List Value), BoxF w b (pre ++ cs ++ post) → cs.length = vs.length → BoxF (w.setCells b pre.length vs) b (pre ++ vs ++ post)
  | [], pre, w, cs, h, hl => by
    obtain rfl : cs = [] := List.eq_nil_of_length_eq_zero hl
    exact h
  | v :: r, pre, w, [], h, hl => by cases hl
  | v :: r, pre, w, c :: cs, h, hl => by
    have h1 := h.set pre.length (by simp) v
    rw [show (pre ++ c :: cs ++ post).set pre.length v = (pre ++ [v]) ++ cs ++ post by simp] at h1
    have h2 := box_setMid b post r (pre ++ [v]) _ cs h1 (by simpa using hl)
    rw [show (pre ++ [v]).length = pre.length + 1 by simp] at h2
    rw [World.setCells]
    simpa using h2
section
variable {P : Program}
/-- Some fields of a struct stored as a whole (an array in it). -/
theorem wpList_store_part {ops : Array Oper} {rest : List Oper} {op : Oper} {a : Act} {w : World} {Q : Exit → Act → World → Prop} (hgd : op.guard = none) (ty : TypeId) (x y : Operand) (ho : op.op = .store ty x y)
    (b : Nat) (pre cs post vs all : List Value) (hb : BoxF w b all) (ha : all = pre ++ cs ++ post) (hx : a.eval x = .pointer (some ⟨b, pre.length, none⟩)) (hy : a.eval y = .agg vs.toArray) (hl : cs.length = vs.length)
    (hi : (P.info? ty).map (·.size) = some vs.length) (h1 : vs.all (·.oneCell') = true)
    (h : ∀ w', BoxF w' b (pre ++ vs ++ post) → ChgS (fun k => k = b) w w' → wpList P ops Q rest (a.put op.dst undef) w') : wpList P ops Q (op :: rest) a w := by
  subst ha
  refine wpList_store_mid hgd ty x y ho b pre.length vs.toArray hx hy (fun j hj => ?_) (by simpa using hi) (all_oneCell_toArray (by simpa using h1))
    (h _ (by simpa using box_setMid b post vs pre w cs hb hl) (chg_setCells (S := fun k => k = b) b rfl _ _ w (ChgS.refl _ _)))
  have hj2 : pre.length + j < (pre ++ cs ++ post).length := by simp at hj ⊢; omega
  exact ⟨by rw [hb.1.2 _ hj2, List.getElem?_eq_getElem hj2]; rfl, hb.2 _ hj2⟩
/-- A field stored into its box. -/
theorem wpList_store_cell {ops : Array Oper} {rest : List Oper} {op : Oper} {a : Act} {w : World} {Q : Exit → Act → World → Prop} (hgd : op.guard = none) (ty : TypeId) (x y : Operand) (ho : op.op = .store ty x y)
    (b j : Nat) (cs : List Value) (v : Value) (hb : BoxF w b cs) (hx : a.eval x = .pointer (some ⟨b, j, none⟩)) (hy : a.eval y = v) (hj : j < cs.length)
    (hi : (P.info? ty).map (·.size) = some 1) (h1 : v.oneCell' = true) (hv : v.cells = #[v])
    (h : ∀ w', BoxF w' b (cs.set j v) → ChgS (fun k => k = b) w w' → wpList P ops Q rest (a.put op.dst undef) w') : wpList P ops Q (op :: rest) a w := by
  refine wpList_plain hgd fun K hK => ?_
  unfold Oper.wp execOp
  have hc : (w.cell? ⟨b, j, none⟩).isSome = true := by rw [hb.1.2 j hj, List.getElem?_eq_getElem hj]; rfl
  simp only [ho, hx, hy, Instr.storeAt, Instr.sureAddr, Sem.run_bind, Sem.run_pure, Result.andThen_ok, run_storeVar_one w b j ty v hc (hb.2 j hj) hi h1 hv]
  exact hK _ _ (h _ (hb.set j hj v) ((ChgS.refl _ w).set _ _ rfl))
end
theorem boxF_eq {w : World} {b : Nat} {cs ds : List Value} (h : BoxF w b cs) (e : cs = ds) : BoxF w b ds := by subst e; exact h
end Go.Own
