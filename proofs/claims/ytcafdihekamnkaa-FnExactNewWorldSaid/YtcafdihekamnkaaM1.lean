/- Appends in regions that draw their order. -/
import Derived.Test.YtcafdihekamnkaaBase2
import Derived.Deep.RegionLaw
import Derived.Test.YtcafdihekamnkaaEnc2
namespace Go.Own
open Go.RowKit
/-- 'append(s, x...)', s a row of the call's own, x whatever slice that is read, as one step of a region that draws. -/
theorem step_append_flat {P : Program} {ops : Array Oper} {o : Oper} {a : Act} {w : World} {K : Act → World → Prop} {Q : Exit → Act → World → Prop} {E : Prop}
    (hg : o.guard = none) (s x : Operand) (t : TypeId) (hop : o.op = Op.call { callee := Callee.builtin Builtin.append, args := #[s, x], argTypes := #[t, t] })
    (base : Nat) (e : TypeId) (i : TypeInfo) (z : Value) (size bytes : Nat) (ht : P.underlying t = some (.slice e)) (hi : P.info? e = some i) (hz : i.zero = some z)
    (hsize : i.size = size) (hby : i.bytes = bytes) (hzs : z.cells.size = size) (hsz : 0 < size)
    (v : Value) (n : Nat) (xs : List Value) (hs : a.eval s = v) (hown : w.ownsRow base e size v n xs)
    (u : Value) (m : Nat) (news : List Value) (hx : a.eval x = u) (hu : Flat w u m size news) (h1 : ∀ c ∈ news, c.oneCell' = true)
    (h63 : n + m ≤ maxLen) (hbytes : (n + m) * bytes ≤ 140737488355328) (hbase : base ≤ w.heap.size)
    (hK : ∀ v' w', w'.ownsRow base e size v' (n + m) (xs ++ news) → w.grownBy w' v.ownBlock → Below base w w' → K (a.put o.dst v') w') :
    if Region.wanted o (yielded ops a.tmps) = true then Oper.wp P o a w K Q else E := by
  have hw : Region.wanted o (yielded ops a.tmps) = true := by simp [Region.wanted, hg]
  rw [if_pos hw]
  rcases hu.src with ⟨rfl, rfl, rfl⟩ | ⟨ad, cap, rfl, hl, hc⟩
  · have hrun := run_append_owned_none (P := P) (w := w) base t o.type e i size ht hi v n xs hown
    have hk := hK v w (by simpa using hown) (World.grownBy.refl _ _) (Below.refl _ _)
    unfold Oper.wp
    simp [execOp, hop, resolve, invoke, builtin, hs, hx, hrun, Result.andThen]
    exact hk
  · obtain ⟨v', w', hrun, r1, r2, _⟩ := run_append_own (P := P) (w := w) base t o.type e i z size bytes ht hi hz hsize hby hzs hsz v n xs hown ad m cap news hl hc h1 h63 hbytes hbase
    unfold Oper.wp
    simp [execOp, hop, resolve, invoke, builtin, hs, hx, hrun, Result.andThen]
    exact hK v' w' r1 r2 (below_of_mark hown r2 (Nat.le_refl _) hbase)
/-- Rows of two element types are two rows. -/
theorem apart_types {w : World} {b1 b2 e1 e2 s1 s2 n1 n2 : Nat} {v u : Value} {c1 c2 : List Value} (h : w.ownsRow b1 e1 s1 v n1 c1) (g : w.ownsRow b2 e2 s2 u n2 c2) (he : e1 ≠ e2) : (v.ownBlock = none ∨ v.ownBlock ≠ u.ownBlock) ∧ (u.ownBlock = none ∨ u.ownBlock ≠ v.ownBlock) := by
  rcases h.2 with ⟨rfl, _⟩ | ⟨k, cap, cur, rfl, _, hk, _⟩
  · exact ⟨.inl rfl, by cases u.ownBlock <;> simp [Value.ownBlock]⟩
  · rcases g.2 with ⟨rfl, _⟩ | ⟨k2, cap2, cur2, rfl, _, hk2, _⟩
    · exact ⟨.inr (by simp [Value.ownBlock]), .inl rfl⟩
    · have hne : k ≠ k2 := by
        intro e
        subst e
        rw [hk] at hk2
        simp only [Option.some.injEq, Obj.cells.injEq] at hk2
        exact he hk2.2.1
      exact ⟨.inr (by simp [Value.ownBlock, hne]), .inr (by simp [Value.ownBlock, Ne.symm hne])⟩
/-- Two rows of a call's own, laid into its result's box. -/
theorem fin_box2 {w W1 X : World} {b e0 e1 s0 s1 n0 n1 : Nat} {u0 u1 : Value} {c0 c1 : List Value} (hN : b < W1.heap.size) (hb : w.heap.size ≤ b) (hw : w.heap.size ≤ W1.heap.size) (hB1 : Below w.heap.size w W1) (hX : Below W1.heap.size W1 X) (R0 : X.ownsRow W1.heap.size e0 s0 u0 n0 c0) (R1 : X.ownsRow W1.heap.size e1 s1 u1 n1 c1) (he : e0 ≠ e1) (x0 x1 : Value) :
    ((X.setCell ⟨b, 0, none⟩ x0).setCell ⟨b, 1, none⟩ x1).ownsRow w.heap.size e0 s0 u0 n0 c0 ∧ ((X.setCell ⟨b, 0, none⟩ x0).setCell ⟨b, 1, none⟩ x1).ownsRow w.heap.size e1 s1 u1 n1 c1 ∧
    ((u0.ownBlock = none ∨ u0.ownBlock ≠ u1.ownBlock) ∧ (u1.ownBlock = none ∨ u1.ownBlock ≠ u0.ownBlock)) ∧ Below w.heap.size w ((X.setCell ⟨b, 0, none⟩ x0).setCell ⟨b, 1, none⟩ x1) :=
  ⟨owns_mono (owns_setCell (owns_setCell R0 _ _ hN) _ _ hN) hw, owns_mono (owns_setCell (owns_setCell R1 _ _ hN) _ _ hN) hw, apart_types R0 R1 he, ((hB1.trans (hX.mono hw)).setCell (by exact hb) _).setCell (by exact hb) _⟩
theorem stepB {N : Nat} {W0 X w2 : World} (hp : Below N W0 X) (hN : N ≤ X.heap.size) (b : Below X.heap.size X w2) : Below N W0 w2 := hp.trans (b.mono hN)
end Go.Own
/- Appends to lists of whatever data; what a datum's cells come to lie in; shapes. Of any program. -/
namespace Go.Own
open Go.RowKit
section
variable {P : Program}
/-- Where an append's row lies: where it lay, or in a block of its own. -/
theorem append_place {w : World} (base : Nat) (t ty e : TypeId) (i : TypeInfo) (z : Value) (size bytes : Nat) (ht : P.underlying t = some (.slice e)) (hi : P.info? e = some i) (hz : i.zero = some z)
    (hsize : i.size = size) (hby : i.bytes = bytes)
    (v : Value) (n : Nat) (xs : List Value) (hown : w.ownsRow base e size v n xs)
    (a : Addr) (m c : Nat) (news : List Value) (hl : news.length = m * size) (hnews : ∀ j u, news[j]? = some u → w.cell? (a.add j) = some u) (h1 : ∀ u ∈ news, u.oneCell' = true)
    (h63 : n + m ≤ maxLen) (hbytes : (n + m) * bytes ≤ 140737488355328) (hm : 0 < m) {v' : Value} {w' : World}
    (hr : (Builtin.append_ #[t, t] ty #[v, .slice (some a) m c]).run P w = .ok v' w') : ∀ k, v'.ownBlock = some k → v.ownBlock = some k ∨ k = w.heap.size := by
  subst hsize
  subst hby
  have hsmall : n + m ≤ 9223372036854775807 := by simp only [maxLen] at h63; omega
  rcases hown.2 with ⟨rfl, rfl⟩ | ⟨g, cap, cur, rfl, hbg, hg, hnc, hcm, hcs, htake⟩
  · have h := run_append_nil (P := P) w t ty e i z ht hi hz a m c news hl hnews (by omega) (by omega) (by have hb := hbytes; simp only [Nat.zero_add] at hb; omega)
    rw [h] at hr
    obtain ⟨rfl, -⟩ := Result.ok.inj hr
    intro k hk
    exact .inr (Option.some.inj hk).symm
  · by_cases hroom : n + m ≤ cap
    · have hfit : n * i.size + news.length ≤ cur.size := by rw [hl, hcs, ← Nat.add_mul]; exact Nat.mul_le_mul_right _ hroom
      have h := run_append_room (P := P) w t ty e i ht hi g n cap cur hg a m c news hl hnews h1 hroom hfit
      rw [h] at hr
      obtain ⟨rfl, -⟩ := Result.ok.inj hr
      intro k hk
      exact .inl hk
    · have holds : ∀ j u, xs[j]? = some u → w.cell? ((⟨g, 0, none⟩ : Addr).add j) = some u := hown.cells (g := g) rfl
      have h := run_append_grow (P := P) w t ty e i z ht hi hz ⟨g, 0, none⟩ n cap xs hown.1 holds a m c news hl hnews (by omega) (by omega) (growslice_fits (by omega) hbytes)
      rw [h] at hr
      obtain ⟨rfl, -⟩ := Result.ok.inj hr
      intro k hk
      exact .inr (Option.some.inj hk).symm
theorem wpList_append_at {w : World} {ops : Array Oper} {rest : List Oper} {o : Oper} {a : Act} {Q : Exit → Act → World → Prop} (hgd : o.guard = none) (s x : Operand) (t : TypeId)
    (ho : o.op = .call { callee := .builtin .append, args := #[s, x], argTypes := #[t, t] })
    (base : Nat) (e : TypeId) (i : TypeInfo) (z : Value) (size bytes : Nat) (ht : P.underlying t = some (.slice e)) (hi : P.info? e = some i) (hz : i.zero = some z)
    (hsize : i.size = size) (hby : i.bytes = bytes) (hzs : z.cells.size = size) (hsz : 0 < size)
    (v : Value) (n : Nat) (xs : List Value) (hs : a.eval s = v) (hown : w.ownsRow base e size v n xs)
    (u : Value) (m : Nat) (news : List Value) (hx : a.eval x = u) (hu : Flat w u m size news) (hm : 0 < m) (h1 : ∀ c ∈ news, c.oneCell' = true)
    (h63 : n + m ≤ maxLen) (hbytes : (n + m) * bytes ≤ 140737488355328) (hbase : base ≤ w.heap.size)
    (h : ∀ v' w', w'.ownsRow base e size v' (n + m) (xs ++ news) → w.grownBy w' v.ownBlock → (∀ k, v'.ownBlock = some k → v.ownBlock = some k ∨ k = w.heap.size) → wpList P ops Q rest (a.put o.dst v') w') : wpList P ops Q (o :: rest) a w := by
  rcases hu.src with ⟨rfl, rfl, rfl⟩ | ⟨ad, cap, rfl, hl, hc⟩
  · omega
  · obtain ⟨v', w', hrun, r1, r2, _⟩ := run_append_own (P := P) (w := w) base t o.type e i z size bytes ht hi hz hsize hby hzs hsz v n xs hown ad m cap news hl hc h1 h63 hbytes hbase
    have hp := append_place (P := P) base t o.type e i z size bytes ht hi hz hsize hby v n xs hown ad m cap news hl hc h1 h63 hbytes hm hrun
    refine wpList_plain hgd fun K hK => ?_
    unfold Oper.wp
    simp [execOp, ho, resolve, invoke, builtin, hs, hx, hrun, Result.andThen]
    exact hK _ _ (h v' w' r1 r2 hp)
end
/-- A list that is of the call's own, at an append of one element. -/
theorem ownL_snoc {α : Type} [A : Enc α] {S : Nat → Prop} {w : World} {v : Value} {xs : List α} (h : ownL S w v xs) : ∃ css : List (List Value), w.ownsRow 0 A.ty A.sz v xs.length css.flatten ∧ (∀ k, Blk v k → S k) ∧
    ∀ (w' : World) (v' : Value) (c : List Value) (x : α) (T : Nat → Prop), w'.ownsRow 0 A.ty A.sz v' (xs.length + 1) (css.flatten ++ c) → (∀ k, Blk v' k → Blk v k ∨ ¬ S k) → (∀ k, S k → ¬ Blk v k → w'.heap[k]? = w.heap[k]?) → A.own T w' c x → (∀ k, T k → ¬ S k ∧ ¬ Blk v' k) →
      ownL (fun k => S k ∨ T k ∨ Blk v' k) w' v' (xs ++ [x]) := by
  obtain ⟨v0, css, R, e, h1, h2, h3, h4, h5, h6⟩ := h
  obtain rfl : v = v0 := by simpa using e
  refine ⟨css, h2, h3, fun w' v' c x T r1 r2 r3 r4 r5 => ?_⟩
  refine ⟨v', css ++ [c], fun i k => (i < xs.length ∧ R i k) ∨ (i = xs.length ∧ T k), rfl, by simp [h1], ?_, fun k hk => .inr (.inr hk), ?_, ?_, ?_⟩
  · rw [List.flatten_append, List.length_append]; simpa using r1
  · rintro i k (⟨hi, hk⟩ | ⟨hi, hk⟩)
    · obtain ⟨a1, a2⟩ := h4 i k hk
      exact ⟨.inl a1, fun hb => (r2 k hb).elim a2 fun hn => hn a1⟩
    · exact ⟨.inr (.inl hk), (r5 k hk).2⟩
  · rintro i j k hne (⟨hi, hk⟩ | ⟨hi, hk⟩) (⟨hj, hk2⟩ | ⟨hj, hk2⟩)
    · exact h5 i j k hne hk hk2
    · exact (r5 k hk2).1 (h4 i k hk).1
    · exact (r5 k hk).1 (h4 j k hk2).1
    · omega
  · intro i hi hi2
    by_cases hlt : i < xs.length
    · rw [List.getElem_append_left (by omega), List.getElem_append_left hlt]
      refine A.own_mono (A.own_keep (h6 i (by omega) hlt) fun k hk => r3 k (h4 i k hk).1 (h4 i k hk).2) fun k hk => .inl ⟨hlt, hk⟩
    · have e1 : i = xs.length := by simp at hi2; omega
      subst e1
      rw [List.getElem_append_right (by omega), List.getElem_append_right (by omega)]
      simp only [h1, Nat.sub_self, List.getElem_cons_zero]
      exact A.own_mono r4 fun k hk => by simp [hk]
/-- No element, no block. -/
theorem ownL_nil {α : Type} [A : Enc α] (S : Nat → Prop) (w : World) : ownL (α := α) S w (.slice none 0 0) [] :=
  ⟨_, [], fun _ _ => False, rfl, rfl, World.ownsRow_nil w 0 A.ty A.sz, fun k hk => by simp [Blk, Value.ownBlock] at hk, fun _ _ h => h.elim, fun _ _ _ _ h => h.elim, fun i hi => by simp at hi⟩
theorem ownL_shape {α : Type} [A : Enc α] {S : Nat → Prop} {w : World} {v : Value} {xs : List α} (h : ownL S w v xs) : ∃ a m c, v = .slice a m c := by
  obtain ⟨a, c, e, _⟩ := ownL_len h; exact ⟨a, _, c, e⟩
theorem rdsL_shape {α : Type} [A : Enc α] {w : World} {v : Value} {xs : List α} (h : rdsL w v xs) : ∃ a m c, v = .slice a m c := by
  obtain ⟨a, c, e, _⟩ := rdsL_open h; exact ⟨a, _, c, e⟩
theorem cell_chg {w w' : World} {S : Nat → Prop} {b o : Nat} (C : ChgS S w w') (hb : b < w.heap.size) (hn : ¬ S b) : w'.cell? ⟨b, o, none⟩ = w.cell? ⟨b, o, none⟩ := by
  have := C.block b hb hn
  simp [World.cell?, this]
theorem Box.chg {w w' : World} {S : Nat → Prop} {b : Nat} {cs : List Value} (h : Box w b cs) (C : ChgS S w w') (hn : ¬ S b) : Box w' b cs :=
  ⟨Nat.lt_of_lt_of_le h.1 C.size, fun j hj => (cell_chg C h.1 hn).trans (h.2 j hj)⟩
end Go.Own
