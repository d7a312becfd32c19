/- Appends in regions that draw their order. -/
import Derived.Test.YtdgmbcmgjadoiaaBase2
import Derived.Deep.RegionLaw
namespace Go.Own
open Go.RowKit
/-- 'append(s, x...)', s a row of the call's own, x whatever slice that is read, as one step of a region that draws. -/
theorem step_append_flat {P : Program} {ops : Array Oper} {o : Oper} {a : Act} {w : World} {K : Act → World → Prop} {Q : Exit → Act → World → Prop} {E : Prop}
    (hg : o.guard = none) (s x : Operand) (t : TypeId) (hop : o.op = Op.call { callee := Callee.builtin Builtin.append, args := #[s, x], argTypes := #[t, t] })
    (base : Nat) (e : TypeId) (i : TypeInfo) (z : Value) (size bytes : Nat) (ht : P.underlying t = some (.slice e)) (hi : P.info? e = some i) (hz : i.zero = some z)
    (hsize : i.size = size) (hby : i.bytes = bytes) (hzs : z.cells.size = size) (hsz : 0 < size)
    (v : Value) (n : Nat) (xs : List Value) (hs : a.eval s = v) (hown : w.ownsRow base e size v n xs)
    (u : Value) (m : Nat) (news : List Value) (hx : a.eval x = u) (hu : Flat w u m size news) (h1 : ∀ c ∈ news, c.oneCell' = true)
    (h63 : n + m ≤ maxLen) (hbytes : (n + m) * bytes ≤ 140737488355328) (hbase : base ≤ w.heap.size)
    (hK : ∀ v' w', w'.ownsRow base e size v' (n + m) (xs ++ news) → w.grownBy w' v.ownBlock → Below base w w' → K (a.put o.dst v') w') :
    if Region.wanted o (yielded ops a.tmps) = true then Oper.wp P o a w K Q else E := by
  have hw : Region.wanted o (yielded ops a.tmps) = true := by simp [Region.wanted, hg]
  rw [if_pos hw]
  rcases hu.src with ⟨rfl, rfl, rfl⟩ | ⟨ad, cap, rfl, hl, hc⟩
  · have hrun := run_append_owned_none (P := P) (w := w) base t o.type e i size ht hi v n xs hown
    have hk := hK v w (by simpa using hown) (World.grownBy.refl _ _) (Below.refl _ _)
    unfold Oper.wp
    simp [execOp, hop, resolve, invoke, builtin, hs, hx, hrun, Result.andThen]
    exact hk
  · obtain ⟨v', w', hrun, r1, r2, _⟩ := run_append_own (P := P) (w := w) base t o.type e i z size bytes ht hi hz hsize hby hzs hsz v n xs hown ad m cap news hl hc h1 h63 hbytes hbase
    unfold Oper.wp
    simp [execOp, hop, resolve, invoke, builtin, hs, hx, hrun, Result.andThen]
    exact hK v' w' r1 r2 (below_of_mark hown r2 (Nat.le_refl _) hbase)
/-- Rows of two element types are two rows. -/
theorem apart_types {w : World} {b1 b2 e1 e2 s1 s2 n1 n2 : Nat} {v u : Value} {c1 c2 : List Value} (h : w.ownsRow b1 e1 s1 v n1 c1) (g : w.ownsRow b2 e2 s2 u n2 c2) (he : e1 ≠ e2) : (v.ownBlock = none ∨ v.ownBlock ≠ u.ownBlock) ∧ (u.ownBlock = none ∨ u.ownBlock ≠ v.ownBlock) := by
  rcases h.2 with ⟨rfl, _⟩ | ⟨k, cap, cur, rfl, _, hk, _⟩
  · exact ⟨.inl rfl, by cases u.ownBlock <;> simp [Value.ownBlock]⟩
  · rcases g.2 with ⟨rfl, _⟩ | ⟨k2, cap2, cur2, rfl, _, hk2, _⟩
    · exact ⟨.inr (by simp [Value.ownBlock]), .inl rfl⟩
    · have hne : k ≠ k2 := by
        intro e
        subst e
        rw [hk] at hk2
        simp only [Option.some.injEq, Obj.cells.injEq] at hk2
        exact he hk2.2.1
      exact ⟨.inr (by simp [Value.ownBlock, hne]), .inr (by simp [Value.ownBlock, Ne.symm hne])⟩
/-- Two rows of a call's own, laid into its result's box. -/
theorem fin_box2 {w W1 X : World} {b e0 e1 s0 s1 n0 n1 : Nat} {u0 u1 : Value} {c0 c1 : List Value} (hN : b < W1.heap.size) (hb : w.heap.size ≤ b) (hw : w.heap.size ≤ W1.heap.size) (hB1 : Below w.heap.size w W1) (hX : Below W1.heap.size W1 X) (R0 : X.ownsRow W1.heap.size e0 s0 u0 n0 c0) (R1 : X.ownsRow W1.heap.size e1 s1 u1 n1 c1) (he : e0 ≠ e1) (x0 x1 : Value) :
    ((X.setCell ⟨b, 0, none⟩ x0).setCell ⟨b, 1, none⟩ x1).ownsRow w.heap.size e0 s0 u0 n0 c0 ∧ ((X.setCell ⟨b, 0, none⟩ x0).setCell ⟨b, 1, none⟩ x1).ownsRow w.heap.size e1 s1 u1 n1 c1 ∧
    ((u0.ownBlock = none ∨ u0.ownBlock ≠ u1.ownBlock) ∧ (u1.ownBlock = none ∨ u1.ownBlock ≠ u0.ownBlock)) ∧ Below w.heap.size w ((X.setCell ⟨b, 0, none⟩ x0).setCell ⟨b, 1, none⟩ x1) :=
  ⟨owns_mono (owns_setCell (owns_setCell R0 _ _ hN) _ _ hN) hw, owns_mono (owns_setCell (owns_setCell R1 _ _ hN) _ _ hN) hw, apart_types R0 R1 he, ((hB1.trans (hX.mono hw)).setCell (by exact hb) _).setCell (by exact hb) _⟩
theorem stepB {N : Nat} {W0 X w2 : World} (hp : Below N W0 X) (hN : N ≤ X.heap.size) (b : Below X.heap.size X w2) : Below N W0 w2 := hp.trans (b.mono hN)
end Go.Own
