/- Texts of the claim. -/
import Derived.Test.YtikiaffgjpddeaaN10o
import Derived.Test.YtikiaffgjpddeaaF0
import Derived.Test.YtikiaffgjpddeaaBase2
import Derived.Deep.RegionLaw
/- The types of stage 9 lie in N10o from stage 10 on. -/
/- Chapter 9: what its functions answer. -/
namespace Go.Proofs.Ytikiaffgjpddeaa
set_option maxRecDepth 100000
open Go.RowKit Go.Proofs Go.Own
/-- An instruction of a program of n lines. -/
def instrOk (e : Instr) (n : Int) : Bool :=
  if e.op_ = 1 then inB e.a_ 0 3 && inB e.b_ 0 7 else
  if e.op_ = 2 then inB e.a_ 0 7 && inB e.b_ 0 3 else
  if e.op_ = 3 then inB e.a_ 0 3 && isVal e.b_ else
  if e.op_ = 4 then inB e.a_ 0 3 && inB e.b_ 0 3 else
  if e.op_ = 5 then inB e.a_ 0 3 && inB e.b_ 0 n else
  if e.op_ = 6 then e.a_ == 0 && e.b_ == 0 else
  if e.op_ = 7 then e.a_ == 0 && e.b_ == 0 else
  if e.op_ = 8 then inB e.a_ 0 n && e.b_ == 0 else false
theorem op_of {e : Instr} {n : Int} (h : instrOk e n = true) : e.op_ = 1 ∨ e.op_ = 2 ∨ e.op_ = 3 ∨ e.op_ = 4 ∨ e.op_ = 5 ∨ e.op_ = 6 ∨ e.op_ = 7 ∨ e.op_ = 8 := by
  unfold instrOk at h
  repeat (split at h; · omega)
  cases h
def progAt (xs : List Instr) (k : Nat) : Bool := (xs.drop k).all fun e => instrOk e xs.length
def progOk (xs : List Instr) : Bool := progAt xs 0 && decide (xs.length ≤ 30)
theorem progAt_step (xs : List Instr) (k : Nat) (h : k < xs.length) : progAt xs k = (instrOk xs[k] xs.length && progAt xs (k+1)) := by
  unfold progAt
  rw [List.drop_eq_getElem_cons h]; rfl
theorem progAt_end (xs : List Instr) (k : Nat) (h : ¬ k < xs.length) : progAt xs k = true := by
  unfold progAt
  rw [List.drop_eq_nil_of_le (by omega)]; rfl
theorem progOk_len {xs : List Instr} (h : progOk xs = true) : xs.length ≤ 30 := by simp [progOk] at h; exact h.2
theorem progOk_get {xs : List Instr} (h : progOk xs = true) (k : Nat) (hk : k < xs.length) : instrOk xs[k] xs.length = true := by
  simp [progOk, progAt] at h; exact h.1 _ (List.getElem_mem hk)
/-- Whether an instruction names the object. -/
def names (e : Instr) (o : Int) : Bool := (e.op_ == 1 && e.b_ == o) || (e.op_ == 2 && e.a_ == o)
def namedAt (xs : List Instr) (o : Int) (k : Nat) : Bool := (xs.take k).any fun e => names e o
theorem namedAt_succ (xs : List Instr) (o : Int) (k : Nat) (h : k < xs.length) : namedAt xs o (k+1) = (namedAt xs o k || names xs[k] o) := by
  unfold namedAt
  rw [List.take_add_one, List.getElem?_eq_getElem h, Option.toList_some, List.any_append]; simp
def named (xs : List Instr) (o : Int) : Bool := namedAt xs o xs.length
/-- The objects below k that are named. -/
def touchTo (xs : List Instr) (k : Nat) : List Int := ((List.range k).filter fun o : Nat => named xs (o : Int)).map fun o : Nat => (o : Int)
theorem touchTo_succ (xs : List Instr) (k : Nat) : touchTo xs (k+1) = touchTo xs k ++ if named xs (k : Int) = true then [(k : Int)] else [] := by
  unfold touchTo
  rw [List.range_succ, List.filter_append, List.map_append]
  by_cases h : named xs (k : Int) = true <;> simp [h]
theorem touchTo_len (xs : List Instr) (k : Nat) : (touchTo xs k).length ≤ k := by
  unfold touchTo
  rw [List.length_map]
  exact Nat.le_trans (List.length_filter_le _ _) (by simp)
def touchL (xs : List Instr) : List Int := if progOk xs = true then touchTo xs 8 else []
theorem touchL_len (xs : List Instr) : (touchL xs).length ≤ 1048576 := by
  unfold touchL; split
  · exact Nat.le_trans (touchTo_len xs 8) (by decide)
  · exact Nat.zero_le _
def isJump (e : Instr) : Bool := e.op_ == 5 || e.op_ == 8
def jumpAt (xs : List Instr) (k : Nat) : Bool := (xs.drop k).any isJump
theorem jumpAt_step (xs : List Instr) (k : Nat) (h : k < xs.length) : jumpAt xs k = (isJump xs[k] || jumpAt xs (k+1)) := by
  unfold jumpAt
  rw [List.drop_eq_getElem_cons h]; rfl
theorem jumpAt_end (xs : List Instr) (k : Nat) (h : ¬ k < xs.length) : jumpAt xs k = false := by
  unfold jumpAt
  rw [List.drop_eq_nil_of_le (by omega)]; rfl
def straightC (xs : List Instr) : Bool := progOk xs && !jumpAt xs 0
end Go.Proofs.Ytikiaffgjpddeaa
/- Appends in regions that draw their order. -/
namespace Go.Own
open Go.RowKit
/-- 'append(s, x...)', s a row of the call's own, x whatever slice that is read, as one step of a region that draws. -/
theorem step_append_flat {P : Program} {ops : Array Oper} {o : Oper} {a : Act} {w : World} {K : Act → World → Prop} {Q : Exit → Act → World → Prop} {E : Prop}
    (hg : o.guard = none) (s x : Operand) (t : TypeId) (hop : o.op = Op.call { callee := Callee.builtin Builtin.append, args := #[s, x], argTypes := #[t, t] })
    (base : Nat) (e : TypeId) (i : TypeInfo) (z : Value) (size bytes : Nat) (ht : P.underlying t = some (.slice e)) (hi : P.info? e = some i) (hz : i.zero = some z)
    (hsize : i.size = size) (hby : i.bytes = bytes) (hzs : z.cells.size = size) (hsz : 0 < size)
    (v : Value) (n : Nat) (xs : List Value) (hs : a.eval s = v) (hown : w.ownsRow base e size v n xs)
    (u : Value) (m : Nat) (news : List Value) (hx : a.eval x = u) (hu : Flat w u m size news) (h1 : ∀ c ∈ news, c.oneCell' = true)
    (h63 : n + m ≤ maxLen) (hbytes : (n + m) * bytes ≤ 140737488355328) (hbase : base ≤ w.heap.size)
    (hK : ∀ v' w', w'.ownsRow base e size v' (n + m) (xs ++ news) → w.grownBy w' v.ownBlock → Below base w w' → K (a.put o.dst v') w') :
    if Region.wanted o (yielded ops a.tmps) = true then Oper.wp P o a w K Q else E := by
  have hw : Region.wanted o (yielded ops a.tmps) = true := by simp [Region.wanted, hg]
  rw [if_pos hw]
  rcases hu.src with ⟨rfl, rfl, rfl⟩ | ⟨ad, cap, rfl, hl, hc⟩
  · have hrun := run_append_owned_none (P := P) (w := w) base t o.type e i size ht hi v n xs hown
    have hk := hK v w (by simpa using hown) (World.grownBy.refl _ _) (Below.refl _ _)
    unfold Oper.wp
    simp [execOp, hop, resolve, invoke, builtin, hs, hx, hrun, Result.andThen]
    exact hk
  · obtain ⟨v', w', hrun, r1, r2, _⟩ := run_append_own (P := P) (w := w) base t o.type e i z size bytes ht hi hz hsize hby hzs hsz v n xs hown ad m cap news hl hc h1 h63 hbytes hbase
    unfold Oper.wp
    simp [execOp, hop, resolve, invoke, builtin, hs, hx, hrun, Result.andThen]
    exact hK v' w' r1 r2 (below_of_mark hown r2 (Nat.le_refl _) hbase)
/-- Rows of two element types are two rows. -/
theorem apart_types {w : World} {b1 b2 e1 e2 s1 s2 n1 n2 : Nat} {v u : Value} {c1 c2 : List Value} (h : w.ownsRow b1 e1 s1 v n1 c1) (g : w.ownsRow b2 e2 s2 u n2 c2) (he : e1 ≠ e2) : (v.ownBlock = none ∨ v.ownBlock ≠ u.ownBlock) ∧ (u.ownBlock = none ∨ u.ownBlock ≠ v.ownBlock) := by
  rcases h.2 with ⟨rfl, _⟩ | ⟨k, cap, cur, rfl, _, hk, _⟩
  · exact ⟨.inl rfl, by cases u.ownBlock <;> simp [Value.ownBlock]⟩
  · rcases g.2 with ⟨rfl, _⟩ | ⟨k2, cap2, cur2, rfl, _, hk2, _⟩
    · exact ⟨.inr (by simp [Value.ownBlock]), .inl rfl⟩
    · have hne : k ≠ k2 := by
        intro e
        subst e
        rw [hk] at hk2
        simp only [Option.some.injEq, Obj.cells.injEq] at hk2
        exact he hk2.2.1
      exact ⟨.inr (by simp [Value.ownBlock, hne]), .inr (by simp [Value.ownBlock, Ne.symm hne])⟩
/-- Two rows of a call's own, laid into its result's box. -/
theorem fin_box2 {w W1 X : World} {b e0 e1 s0 s1 n0 n1 : Nat} {u0 u1 : Value} {c0 c1 : List Value} (hN : b < W1.heap.size) (hb : w.heap.size ≤ b) (hw : w.heap.size ≤ W1.heap.size) (hB1 : Below w.heap.size w W1) (hX : Below W1.heap.size W1 X) (R0 : X.ownsRow W1.heap.size e0 s0 u0 n0 c0) (R1 : X.ownsRow W1.heap.size e1 s1 u1 n1 c1) (he : e0 ≠ e1) (x0 x1 : Value) :
    ((X.setCell ⟨b, 0, none⟩ x0).setCell ⟨b, 1, none⟩ x1).ownsRow w.heap.size e0 s0 u0 n0 c0 ∧ ((X.setCell ⟨b, 0, none⟩ x0).setCell ⟨b, 1, none⟩ x1).ownsRow w.heap.size e1 s1 u1 n1 c1 ∧
    ((u0.ownBlock = none ∨ u0.ownBlock ≠ u1.ownBlock) ∧ (u1.ownBlock = none ∨ u1.ownBlock ≠ u0.ownBlock)) ∧ Below w.heap.size w ((X.setCell ⟨b, 0, none⟩ x0).setCell ⟨b, 1, none⟩ x1) :=
  ⟨owns_mono (owns_setCell (owns_setCell R0 _ _ hN) _ _ hN) hw, owns_mono (owns_setCell (owns_setCell R1 _ _ hN) _ _ hN) hw, apart_types R0 R1 he, ((hB1.trans (hX.mono hw)).setCell (by exact hb) _).setCell (by exact hb) _⟩
theorem stepB {N : Nat} {W0 X w2 : World} (hp : Below N W0 X) (hN : N ≤ X.heap.size) (b : Below X.heap.size X w2) : Below N W0 w2 := hp.trans (b.mono hN)
end Go.Own
