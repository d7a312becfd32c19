/- Texts of the claim. -/
import Derived.Test.YtbbdchlabdilcabGreatN10o
import Derived.Test.YtbbdchlabdilcabGreatM1
import Derived.Test.YtbbdchlabdilcabGreatBase2
import Derived.Deep.RegionLaw
import Derived.Test.YtbbdchlabdilcabGreatEnc2
/- The types of stage 9 lie in N10o from stage 10 on. -/
/- Chapter 9: what its functions answer. -/
namespace Go.Proofs.YtbbdchlabdilcabGreat
set_option maxRecDepth 100000
open Go.RowKit Go.Proofs Go.Own
/-- An instruction of a program of n lines. -/
def instrOk (e : Instr) (n : Int) : Bool :=
  if e.op_ = 1 then inB e.a_ 0 3 && inB e.b_ 0 7 else
  if e.op_ = 2 then inB e.a_ 0 7 && inB e.b_ 0 3 else
  if e.op_ = 3 then inB e.a_ 0 3 && isVal e.b_ else
  if e.op_ = 4 then inB e.a_ 0 3 && inB e.b_ 0 3 else
  if e.op_ = 5 then inB e.a_ 0 3 && inB e.b_ 0 n else
  if e.op_ = 6 then e.a_ == 0 && e.b_ == 0 else
  if e.op_ = 7 then e.a_ == 0 && e.b_ == 0 else
  if e.op_ = 8 then inB e.a_ 0 n && e.b_ == 0 else false
theorem op_of {e : Instr} {n : Int} (h : instrOk e n = true) : e.op_ = 1 ∨ e.op_ = 2 ∨ e.op_ = 3 ∨ e.op_ = 4 ∨ e.op_ = 5 ∨ e.op_ = 6 ∨ e.op_ = 7 ∨ e.op_ = 8 := by
  unfold instrOk at h
  repeat (split at h; · omega)
  cases h
def progAt (xs : List Instr) (k : Nat) : Bool := (xs.drop k).all fun e => instrOk e xs.length
def progOk (xs : List Instr) : Bool := progAt xs 0 && decide (xs.length ≤ 30)
theorem progAt_step (xs : List Instr) (k : Nat) (h : k < xs.length) : progAt xs k = (instrOk xs[k] xs.length && progAt xs (k+1)) := by
  unfold progAt
  rw [List.drop_eq_getElem_cons h]; rfl
theorem progAt_end (xs : List Instr) (k : Nat) (h : ¬ k < xs.length) : progAt xs k = true := by
  unfold progAt
  rw [List.drop_eq_nil_of_le (by omega)]; rfl
theorem progOk_len {xs : List Instr} (h : progOk xs = true) : xs.length ≤ 30 := by simp [progOk] at h; exact h.2
theorem progOk_get {xs : List Instr} (h : progOk xs = true) (k : Nat) (hk : k < xs.length) : instrOk xs[k] xs.length = true := by
  simp [progOk, progAt] at h; exact h.1 _ (List.getElem_mem hk)
/-- Whether an instruction names the object. -/
def names (e : Instr) (o : Int) : Bool := (e.op_ == 1 && e.b_ == o) || (e.op_ == 2 && e.a_ == o)
def namedAt (xs : List Instr) (o : Int) (k : Nat) : Bool := (xs.take k).any fun e => names e o
theorem namedAt_succ (xs : List Instr) (o : Int) (k : Nat) (h : k < xs.length) : namedAt xs o (k+1) = (namedAt xs o k || names xs[k] o) := by
  unfold namedAt
  rw [List.take_add_one, List.getElem?_eq_getElem h, Option.toList_some, List.any_append]; simp
def named (xs : List Instr) (o : Int) : Bool := namedAt xs o xs.length
/-- The objects below k that are named. -/
def touchTo (xs : List Instr) (k : Nat) : List Int := ((List.range k).filter fun o : Nat => named xs (o : Int)).map fun o : Nat => (o : Int)
theorem touchTo_succ (xs : List Instr) (k : Nat) : touchTo xs (k+1) = touchTo xs k ++ if named xs (k : Int) = true then [(k : Int)] else [] := by
  unfold touchTo
  rw [List.range_succ, List.filter_append, List.map_append]
  by_cases h : named xs (k : Int) = true <;> simp [h]
theorem touchTo_len (xs : List Instr) (k : Nat) : (touchTo xs k).length ≤ k := by
  unfold touchTo
  rw [List.length_map]
  exact Nat.le_trans (List.length_filter_le _ _) (by simp)
def touchL (xs : List Instr) : List Int := if progOk xs = true then touchTo xs 8 else []
theorem touchL_len (xs : List Instr) : (touchL xs).length ≤ 1048576 := by
  unfold touchL; split
  · exact Nat.le_trans (touchTo_len xs 8) (by decide)
  · exact Nat.zero_le _
def isJump (e : Instr) : Bool := e.op_ == 5 || e.op_ == 8
def jumpAt (xs : List Instr) (k : Nat) : Bool := (xs.drop k).any isJump
theorem jumpAt_step (xs : List Instr) (k : Nat) (h : k < xs.length) : jumpAt xs k = (isJump xs[k] || jumpAt xs (k+1)) := by
  unfold jumpAt
  rw [List.drop_eq_getElem_cons h]; rfl
theorem jumpAt_end (xs : List Instr) (k : Nat) (h : ¬ k < xs.length) : jumpAt xs k = false := by
  unfold jumpAt
  rw [List.drop_eq_nil_of_le (by omega)]; rfl
def straightC (xs : List Instr) : Bool := progOk xs && !jumpAt xs 0
end Go.Proofs.YtbbdchlabdilcabGreat
/- Appends in regions that draw their order. -/
namespace Go.Own
open Go.RowKit
/-- 'append(s, x...)', s a row of the call's own, x whatever slice that is read, as one step of a region that draws. -/
theorem step_append_flat {P : Program} {ops : Array Oper} {o : Oper} {a : Act} {w : World} {K : Act → World → Prop} {Q : Exit → Act → World → Prop} {E : Prop}
    (hg : o.guard = none) (s x : Operand) (t : TypeId) (hop : o.op = Op.call { callee := Callee.builtin Builtin.append, args := #[s, x], argTypes := #[t, t] })
    (base : Nat) (e : TypeId) (i : TypeInfo) (z : Value) (size bytes : Nat) (ht : P.underlying t = some (.slice e)) (hi : P.info? e = some i) (hz : i.zero = some z)
    (hsize : i.size = size) (hby : i.bytes = bytes) (hzs : z.cells.size = size) (hsz : 0 < size)
    (v : Value) (n : Nat) (xs : List Value) (hs : a.eval s = v) (hown : w.ownsRow base e size v n xs)
    (u : Value) (m : Nat) (news : List Value) (hx : a.eval x = u) (hu : Flat w u m size news) (h1 : ∀ c ∈ news, c.oneCell' = true)
    (h63 : n + m ≤ maxLen) (hbytes : (n + m) * bytes ≤ 140737488355328) (hbase : base ≤ w.heap.size)
    (hK : ∀ v' w', w'.ownsRow base e size v' (n + m) (xs ++ news) → w.grownBy w' v.ownBlock → Below base w w' → K (a.put o.dst v') w') :
    if Region.wanted o (yielded ops a.tmps) = true then Oper.wp P o a w K Q else E := by
  have hw : Region.wanted o (yielded ops a.tmps) = true := by simp [Region.wanted, hg]
  rw [if_pos hw]
  rcases hu.src with ⟨rfl, rfl, rfl⟩ | ⟨ad, cap, rfl, hl, hc⟩
  · have hrun := run_append_owned_none (P := P) (w := w) base t o.type e i size ht hi v n xs hown
    have hk := hK v w (by simpa using hown) (World.grownBy.refl _ _) (Below.refl _ _)
    unfold Oper.wp
    simp [execOp, hop, resolve, invoke, builtin, hs, hx, hrun, Result.andThen]
    exact hk
  · obtain ⟨v', w', hrun, r1, r2, _⟩ := run_append_own (P := P) (w := w) base t o.type e i z size bytes ht hi hz hsize hby hzs hsz v n xs hown ad m cap news hl hc h1 h63 hbytes hbase
    unfold Oper.wp
    simp [execOp, hop, resolve, invoke, builtin, hs, hx, hrun, Result.andThen]
    exact hK v' w' r1 r2 (below_of_mark hown r2 (Nat.le_refl _) hbase)
/-- Rows of two element types are two rows. -/
theorem apart_types {w : World} {b1 b2 e1 e2 s1 s2 n1 n2 : Nat} {v u : Value} {c1 c2 : List Value} (h : w.ownsRow b1 e1 s1 v n1 c1) (g : w.ownsRow b2 e2 s2 u n2 c2) (he : e1 ≠ e2) : (v.ownBlock = none ∨ v.ownBlock ≠ u.ownBlock) ∧ (u.ownBlock = none ∨ u.ownBlock ≠ v.ownBlock) := by
  rcases h.2 with ⟨rfl, _⟩ | ⟨k, cap, cur, rfl, _, hk, _⟩
  · exact ⟨.inl rfl, by cases u.ownBlock <;> simp [Value.ownBlock]⟩
  · rcases g.2 with ⟨rfl, _⟩ | ⟨k2, cap2, cur2, rfl, _, hk2, _⟩
    · exact ⟨.inr (by simp [Value.ownBlock]), .inl rfl⟩
    · have hne : k ≠ k2 := by
        intro e
        subst e
        rw [hk] at hk2
        simp only [Option.some.injEq, Obj.cells.injEq] at hk2
        exact he hk2.2.1
      exact ⟨.inr (by simp [Value.ownBlock, hne]), .inr (by simp [Value.ownBlock, Ne.symm hne])⟩
/-- Two rows of a call's own, laid into its result's box. -/
theorem fin_box2 {w W1 X : World} {b e0 e1 s0 s1 n0 n1 : Nat} {u0 u1 : Value} {c0 c1 : List Value} (hN : b < W1.heap.size) (hb : w.heap.size ≤ b) (hw : w.heap.size ≤ W1.heap.size) (hB1 : Below w.heap.size w W1) (hX : Below W1.heap.size W1 X) (R0 : X.ownsRow W1.heap.size e0 s0 u0 n0 c0) (R1 : X.ownsRow W1.heap.size e1 s1 u1 n1 c1) (he : e0 ≠ e1) (x0 x1 : Value) :
    ((X.setCell ⟨b, 0, none⟩ x0).setCell ⟨b, 1, none⟩ x1).ownsRow w.heap.size e0 s0 u0 n0 c0 ∧ ((X.setCell ⟨b, 0, none⟩ x0).setCell ⟨b, 1, none⟩ x1).ownsRow w.heap.size e1 s1 u1 n1 c1 ∧
    ((u0.ownBlock = none ∨ u0.ownBlock ≠ u1.ownBlock) ∧ (u1.ownBlock = none ∨ u1.ownBlock ≠ u0.ownBlock)) ∧ Below w.heap.size w ((X.setCell ⟨b, 0, none⟩ x0).setCell ⟨b, 1, none⟩ x1) :=
  ⟨owns_mono (owns_setCell (owns_setCell R0 _ _ hN) _ _ hN) hw, owns_mono (owns_setCell (owns_setCell R1 _ _ hN) _ _ hN) hw, apart_types R0 R1 he, ((hB1.trans (hX.mono hw)).setCell (by exact hb) _).setCell (by exact hb) _⟩
theorem stepB {N : Nat} {W0 X w2 : World} (hp : Below N W0 X) (hN : N ≤ X.heap.size) (b : Below X.heap.size X w2) : Below N W0 w2 := hp.trans (b.mono hN)
end Go.Own
/- Appends to lists of whatever data; what a datum's cells come to lie in; shapes. Of any program. -/
namespace Go.Own
open Go.RowKit
section
variable {P : Program}
/-- Where an append's row lies: where it lay, or in a block of its own. -/
theorem append_place {w : World} (base : Nat) (t ty e : TypeId) (i : TypeInfo) (z : Value) (size bytes : Nat) (ht : P.underlying t = some (.slice e)) (hi : P.info? e = some i) (hz : i.zero = some z)
    (hsize : i.size = size) (hby : i.bytes = bytes)
    (v : Value) (n : Nat) (xs : List Value) (hown : w.ownsRow base e size v n xs)
    (a : Addr) (m c : Nat) (news : List Value) (hl : news.length = m * size) (hnews : ∀ j u, news[j]? = some u → w.cell? (a.add j) = some u) (h1 : ∀ u ∈ news, u.oneCell' = true)
    (h63 : n + m ≤ maxLen) (hbytes : (n + m) * bytes ≤ 140737488355328) (hm : 0 < m) {v' : Value} {w' : World}
    (hr : (Builtin.append_ #[t, t] ty #[v, .slice (some a) m c]).run P w = .ok v' w') : ∀ k, v'.ownBlock = some k → v.ownBlock = some k ∨ k = w.heap.size := by
  subst hsize
  subst hby
  have hsmall : n + m ≤ 9223372036854775807 := by simp only [maxLen] at h63; omega
  rcases hown.2 with ⟨rfl, rfl⟩ | ⟨g, cap, cur, rfl, hbg, hg, hnc, hcm, hcs, htake⟩
  · have h := run_append_nil (P := P) w t ty e i z ht hi hz a m c news hl hnews (by omega) (by omega) (by have hb := hbytes; simp only [Nat.zero_add] at hb; omega)
    rw [h] at hr
    obtain ⟨rfl, -⟩ := Result.ok.inj hr
    intro k hk
    exact .inr (Option.some.inj hk).symm
  · by_cases hroom : n + m ≤ cap
    · have hfit : n * i.size + news.length ≤ cur.size := by rw [hl, hcs, ← Nat.add_mul]; exact Nat.mul_le_mul_right _ hroom
      have h := run_append_room (P := P) w t ty e i ht hi g n cap cur hg a m c news hl hnews h1 hroom hfit
      rw [h] at hr
      obtain ⟨rfl, -⟩ := Result.ok.inj hr
      intro k hk
      exact .inl hk
    · have holds : ∀ j u, xs[j]? = some u → w.cell? ((⟨g, 0, none⟩ : Addr).add j) = some u := hown.cells (g := g) rfl
      have h := run_append_grow (P := P) w t ty e i z ht hi hz ⟨g, 0, none⟩ n cap xs hown.1 holds a m c news hl hnews (by omega) (by omega) (growslice_fits (by omega) hbytes)
      rw [h] at hr
      obtain ⟨rfl, -⟩ := Result.ok.inj hr
      intro k hk
      exact .inr (Option.some.inj hk).symm
theorem wpList_append_at {w : World} {ops : Array Oper} {rest : List Oper} {o : Oper} {a : Act} {Q : Exit → Act → World → Prop} (hgd : o.guard = none) (s x : Operand) (t : TypeId)
    (ho : o.op = .call { callee := .builtin .append, args := #[s, x], argTypes := #[t, t] })
    (base : Nat) (e : TypeId) (i : TypeInfo) (z : Value) (size bytes : Nat) (ht : P.underlying t = some (.slice e)) (hi : P.info? e = some i) (hz : i.zero = some z)
    (hsize : i.size = size) (hby : i.bytes = bytes) (hzs : z.cells.size = size) (hsz : 0 < size)
    (v : Value) (n : Nat) (xs : List Value) (hs : a.eval s = v) (hown : w.ownsRow base e size v n xs)
    (u : Value) (m : Nat) (news : List Value) (hx : a.eval x = u) (hu : Flat w u m size news) (hm : 0 < m) (h1 : ∀ c ∈ news, c.oneCell' = true)
    (h63 : n + m ≤ maxLen) (hbytes : (n + m) * bytes ≤ 140737488355328) (hbase : base ≤ w.heap.size)
    (h : ∀ v' w', w'.ownsRow base e size v' (n + m) (xs ++ news) → w.grownBy w' v.ownBlock → (∀ k, v'.ownBlock = some k → v.ownBlock = some k ∨ k = w.heap.size) → wpList P ops Q rest (a.put o.dst v') w') : wpList P ops Q (o :: rest) a w := by
  rcases hu.src with ⟨rfl, rfl, rfl⟩ | ⟨ad, cap, rfl, hl, hc⟩
  · omega
  · obtain ⟨v', w', hrun, r1, r2, _⟩ := run_append_own (P := P) (w := w) base t o.type e i z size bytes ht hi hz hsize hby hzs hsz v n xs hown ad m cap news hl hc h1 h63 hbytes hbase
    have hp := append_place (P := P) base t o.type e i z size bytes ht hi hz hsize hby v n xs hown ad m cap news hl hc h1 h63 hbytes hm hrun
    refine wpList_plain hgd fun K hK => ?_
    unfold Oper.wp
    simp [execOp, ho, resolve, invoke, builtin, hs, hx, hrun, Result.andThen]
    exact hK _ _ (h v' w' r1 r2 hp)
end
/-- A list that is of the call's own, at an append of one element. -/
theorem ownL_snoc {α : Type} [A : Enc α] {S : Nat → Prop} {w : World} {v : Value} {xs : List α} (h : ownL S w v xs) : ∃ css : List (List Value), w.ownsRow 0 A.ty A.sz v xs.length css.flatten ∧ (∀ k, Blk v k → S k) ∧
    ∀ (w' : World) (v' : Value) (c : List Value) (x : α) (T : Nat → Prop), w'.ownsRow 0 A.ty A.sz v' (xs.length + 1) (css.flatten ++ c) → (∀ k, Blk v' k → Blk v k ∨ ¬ S k) → (∀ k, S k → ¬ Blk v k → w'.heap[k]? = w.heap[k]?) → A.own T w' c x → (∀ k, T k → ¬ S k ∧ ¬ Blk v' k) →
      ownL (fun k => S k ∨ T k ∨ Blk v' k) w' v' (xs ++ [x]) := by
  obtain ⟨v0, css, R, e, h1, h2, h3, h4, h5, h6⟩ := h
  obtain rfl : v = v0 := by simpa using e
  refine ⟨css, h2, h3, fun w' v' c x T r1 r2 r3 r4 r5 => ?_⟩
  refine ⟨v', css ++ [c], fun i k => (i < xs.length ∧ R i k) ∨ (i = xs.length ∧ T k), rfl, by simp [h1], ?_, fun k hk => .inr (.inr hk), ?_, ?_, ?_⟩
  · rw [List.flatten_append, List.length_append]; simpa using r1
  · rintro i k (⟨hi, hk⟩ | ⟨hi, hk⟩)
    · obtain ⟨a1, a2⟩ := h4 i k hk
      exact ⟨.inl a1, fun hb => (r2 k hb).elim a2 fun hn => hn a1⟩
    · exact ⟨.inr (.inl hk), (r5 k hk).2⟩
  · rintro i j k hne (⟨hi, hk⟩ | ⟨hi, hk⟩) (⟨hj, hk2⟩ | ⟨hj, hk2⟩)
    · exact h5 i j k hne hk hk2
    · exact (r5 k hk2).1 (h4 i k hk).1
    · exact (r5 k hk).1 (h4 j k hk2).1
    · omega
  · intro i hi hi2
    by_cases hlt : i < xs.length
    · rw [List.getElem_append_left (by omega), List.getElem_append_left hlt]
      refine A.own_mono (A.own_keep (h6 i (by omega) hlt) fun k hk => r3 k (h4 i k hk).1 (h4 i k hk).2) fun k hk => .inl ⟨hlt, hk⟩
    · have e1 : i = xs.length := by simp at hi2; omega
      subst e1
      rw [List.getElem_append_right (by omega), List.getElem_append_right (by omega)]
      simp only [h1, Nat.sub_self, List.getElem_cons_zero]
      exact A.own_mono r4 fun k hk => by simp [hk]
/-- No element, no block. -/
theorem ownL_nil {α : Type} [A : Enc α] (S : Nat → Prop) (w : World) : ownL (α := α) S w (.slice none 0 0) [] :=
  ⟨_, [], fun _ _ => False, rfl, rfl, World.ownsRow_nil w 0 A.ty A.sz, fun k hk => by simp [Blk, Value.ownBlock] at hk, fun _ _ h => h.elim, fun _ _ _ _ h => h.elim, fun i hi => by simp at hi⟩
theorem ownL_shape {α : Type} [A : Enc α] {S : Nat → Prop} {w : World} {v : Value} {xs : List α} (h : ownL S w v xs) : ∃ a m c, v = .slice a m c := by
  obtain ⟨a, c, e, _⟩ := ownL_len h; exact ⟨a, _, c, e⟩
theorem rdsL_shape {α : Type} [A : Enc α] {w : World} {v : Value} {xs : List α} (h : rdsL w v xs) : ∃ a m c, v = .slice a m c := by
  obtain ⟨a, c, e, _⟩ := rdsL_open h; exact ⟨a, _, c, e⟩
theorem cell_chg {w w' : World} {S : Nat → Prop} {b o : Nat} (C : ChgS S w w') (hb : b < w.heap.size) (hn : ¬ S b) : w'.cell? ⟨b, o, none⟩ = w.cell? ⟨b, o, none⟩ := by
  have := C.block b hb hn
  simp [World.cell?, this]
theorem Box.chg {w w' : World} {S : Nat → Prop} {b : Nat} {cs : List Value} (h : Box w b cs) (C : ChgS S w w') (hn : ¬ S b) : Box w' b cs :=
  ⟨Nat.lt_of_lt_of_le h.1 C.size, fun j hj => (cell_chg C h.1 hn).trans (h.2 j hj)⟩
end Go.Own
