/- Makers at work: steps of the walk, appends that make a row. -/
import Derived.Test.YtdnfphpeleakcaaMk
import Derived.Test.YtdnfphpeleakcaaSl2
import Derived.Laws.AppendOwn
namespace Go
set_option maxRecDepth 100000
open Go.RowKit Go.Own
section
variable {P : Program} {ops : Array Oper} {C : World → Prop} {R : Nat → Value → Nat → Nat → World → Prop} {dep : Nat → Option Nat} {mk : Nat → Bool} {Q : Act → Made → Prop} {o : Oper} {rest : List Oper} {i : Nat} {a : Act} {m : Made}
theorem wpMk_plain (hw : Region.wanted o (yielded ops a.tmps) = true) (hk : mk i = false) (h : ∀ K : Act → Prop, (∀ a', wpMk P ops C R dep mk Q rest (i + 1) a' m → K a') → ∃ v, (∀ w, C w → o.plainAt P a w v) ∧ K (a.put o.dst v)) : wpMk P ops C R dep mk Q (o :: rest) i a m := by
  unfold wpMk
  rw [if_pos hw, hk]
  exact h _ fun _ h => h
theorem wpMk_skip (hw : Region.wanted o (yielded ops a.tmps) = false) (h : wpMk P ops C R dep mk Q rest (i + 1) (a.put o.dst undef) m) : wpMk P ops C R dep mk Q (o :: rest) i a m := by
  unfold wpMk
  rw [if_neg (by rw [hw]; exact Bool.false_ne_true)]
  exact h
theorem wpMk_make (hw : Region.wanted o (yielded ops a.tmps) = true) (hk : mk i = true) (h1 : o.makes P C R dep i a m) (h2 : ∀ v lo hi, wpMk P ops C R dep mk Q rest (i + 1) (a.put o.dst v) (m.upd i (v, lo, hi))) : wpMk P ops C R dep mk Q (o :: rest) i a m := by
  unfold wpMk
  rw [if_pos hw, if_pos hk]
  exact ⟨h1, h2⟩
theorem wpMk_nil (h : Q a m) : wpMk P ops C R dep mk Q [] i a m := h
/-- In worlds grown out of W. -/
theorem makes_ext {W : World} (h : ∀ E : Ext W, (∀ d v lo hi, dep i = some d → m d = some (v, lo, hi) → R d v lo hi E.w ∧ hi ≤ E.w.heap.size) → Oper.madeUpon P (fun v w' => (∃ e : Ext W, w' = e.w) ∧ Below E.w.heap.size E.w w' ∧ R i v E.w.heap.size w'.heap.size w') ((execOp a.eval o).run P E.w)) : o.makes P (fun w' => ∃ e : Ext W, w' = e.w) R dep i a m := by
  rintro w ⟨E, rfl⟩ hd; exact h E hd
theorem made_call {f : FuncId} {args : Array Value} {w w' : World} {Good : Value → World → Prop} (hr : (execOp a.eval o).run P w = .ok (.enter f args) w') (h : Calls P f args w' fun e w'' => ∃ v, e = .returned v ∧ Good v w'') : Oper.madeUpon P Good ((execOp a.eval o).run P w) := by
  rw [hr]; exact h
theorem made_value {v : Value} {w w' : World} {Good : Value → World → Prop} (hr : (execOp a.eval o).run P w = .ok (.value v) w') (h : Good v w') : Oper.madeUpon P Good ((execOp a.eval o).run P w) := by
  rw [hr]; exact h
theorem below_none {w w' : World} (h : w.grownBy w' none) : Below w.heap.size w w' := below_grown0 h
where below_grown0 {w w' : World} (h : w.grownBy w' none) : Below w.heap.size w w' := ⟨h.os, h.tape, h.output, h.size, fun k hk => h.block k hk (by simp)⟩

/-- An append to a slice that has no room: the result is a row of its own, and nothing that was there is written. -/
theorem run_append_empty {w : World} (base : Nat) (t ty e : TypeId) (i : TypeInfo) (z : Value) (size bytes : Nat) (ht : P.underlying t = some (.slice e)) (hi : P.info? e = some i) (hz : i.zero = some z)
    (hsize : i.size = size) (hby : i.bytes = bytes) (hzs : z.cells.size = size) (hsz : 0 < size)
    (v : Value) (hv : v = .slice none 0 0 ∨ ∃ g, v = .slice (some ⟨g, 0, none⟩) 0 0) (hown : w.ownsRow base e size v 0 [])
    (u : Value) (n : Nat) (news : List Value) (hu : Flat w u n size news) (h1 : ∀ c ∈ news, c.oneCell' = true) (h63 : n ≤ maxLen) (hbytes : n * bytes ≤ 140737488355328) (hbase : base ≤ w.heap.size) :
    ∃ v' w', (Builtin.append_ #[t, t] ty #[v, u]).run P w = .ok v' w' ∧ w'.ownsRow base e size v' n news ∧ Below w.heap.size w w' := by
  rcases hu.src with ⟨rfl, rfl, rfl⟩ | ⟨ad, cap, rfl, hl, hc⟩
  · exact ⟨v, w, run_append_owned_none (P := P) (w := w) base t ty e i size ht hi v 0 [] hown, hown, Below.refl _ _⟩
  · obtain ⟨v', w', hrun, r1, r2, _⟩ := run_append_own (P := P) (w := w) base t ty e i z size bytes ht hi hz hsize hby hzs hsz v 0 [] hown ad n cap news hl hc h1 (by omega) (by simpa using hbytes) hbase
    rw [Nat.zero_add, List.nil_append] at r1
    refine ⟨v', w', hrun, r1, ?_⟩
    rcases hv with rfl | ⟨g, rfl⟩
    · exact below_none r2
    · by_cases hn : n = 0
      · subst hn
        rw [Nat.zero_mul] at hl
        obtain rfl := List.eq_nil_of_length_eq_zero hl
        rcases hown.2 with ⟨h0, _⟩ | ⟨g', cap', cur, he, hb, hg, _, _, hs, _⟩
        · cases h0
        · simp only [Value.slice.injEq, Option.some.injEq, Addr.mk.injEq, and_true, true_and] at he
          obtain ⟨rfl, rfl⟩ := he
          have hroom := run_append_room (P := P) (w := w) t ty e i ht hi g 0 0 cur hg ad 0 cap [] (by simp) (by intro j u h; simp at h) (by intro u h; simp at h) (Nat.le_refl _) (by simp)
          rw [hroom] at hrun
          simp only [Result.ok.injEq] at hrun
          obtain ⟨_, rfl⟩ := hrun
          refine ⟨r2.os, r2.tape, r2.output, r2.size, fun k hk => ?_⟩
          by_cases e : k = g
          · subst e
            have hc0 : cur = #[] := Array.eq_empty_of_size_eq_zero (by simpa using hs)
            subst hc0
            rw [hg, setRow_heap w _ _ _ _ _ hg]
            simp
          · exact r2.block k hk (by simp [Value.ownBlock]; exact e)
      · have hg := run_append_grow (P := P) (w := w) t ty e i z ht hi hz ⟨g, 0, none⟩ 0 0 [] (by simp) (by intro j v h; simp at h) ad n cap news (by rw [hsize]; exact hl) hc (by omega) (by unfold maxLen at h63; omega) (by rw [Nat.zero_add, nextslicecap_zero (by omega), hby]; omega)
        rw [hg] at hrun
        simp only [Result.ok.injEq] at hrun
        obtain ⟨_, rfl⟩ := hrun
        exact (Below.drew (Below.refl _ _)).alloc (Nat.le_refl _) _

theorem made_append {w : World} {Good : Value → World → Prop} (s x : Operand) (t : TypeId) (hop : o.op = Op.call { callee := Callee.builtin Builtin.append, args := #[s, x], argTypes := #[t, t] })
    (base : Nat) (e : TypeId) (i : TypeInfo) (z : Value) (size bytes : Nat) (ht : P.underlying t = some (.slice e)) (hi : P.info? e = some i) (hz : i.zero = some z)
    (hsize : i.size = size) (hby : i.bytes = bytes) (hzs : z.cells.size = size) (hsz : 0 < size)
    (v : Value) (hs : a.eval s = v) (hv : v = .slice none 0 0 ∨ ∃ g, v = .slice (some ⟨g, 0, none⟩) 0 0) (hown : w.ownsRow base e size v 0 [])
    (u : Value) (n : Nat) (news : List Value) (hx : a.eval x = u) (hu : Flat w u n size news) (h1 : ∀ c ∈ news, c.oneCell' = true) (h63 : n ≤ maxLen) (hbytes : n * bytes ≤ 140737488355328) (hbase : base ≤ w.heap.size)
    (hG : ∀ v' w', w'.ownsRow base e size v' n news → Below w.heap.size w w' → Good v' w') : Oper.madeUpon P Good ((execOp a.eval o).run P w) := by
  obtain ⟨v', w', hrun, r1, r2⟩ := run_append_empty (P := P) (w := w) base t o.type e i z size bytes ht hi hz hsize hby hzs hsz v hv hown u n news hu h1 h63 hbytes hbase
  simp [execOp, hop, resolve, invoke, builtin, hs, hx, hrun, Result.andThen, Oper.madeUpon]
  exact hG _ _ r1 r2

theorem wp_region_mk {id : Nat} {Q : Exit → Act → World → Prop} {a : Act} {w : World} {l : List Oper} (n : Nat) (R : Nat → Value → Nat → Nat → World → Prop) (dep : Nat → Option Nat) (mk : Nat → Bool)
    (hm : P.follows .mixedOrders = true) (hB : Region.lexTailB .any l.toArray n = true)
    (hdep : ((List.range n).all fun j => match dep j with | some d => Region.waitsFor .any l.toArray j d | none => true) = true) (hdn : ∀ j, n ≤ j → dep j = none)
    (hR : ∀ i v lo hi w w', R i v lo hi w → hi ≤ w.heap.size → Below w.heap.size w w' → R i v lo hi w')
    (h : wpMk P l.toArray (fun w' => ∃ e : Ext w, w' = e.w) R dep mk (fun a' m' => ∀ w', (∃ e : Ext w, w' = e.w) → MadeIn R m' w' → wpList P l.toArray Q (l.drop n) a' w') (l.take n) 0 a Made.none) : (Code.region id l.toArray true).wp P Q a w :=
  wp_region_makers n _ R dep mk hm hB hdep hdn hR ⟨⟨_, (Below.refl _ _).drew⟩, rfl⟩ h
end
end Go
namespace Go.Own
open Go.RowKit
/-- A row of its own, made between lo and hi. -/
def RowIn (w : World) (lo hi e sz : Nat) (v : Value) (n : Nat) (cs : List Value) : Prop := w.ownsRow lo e sz v n cs ∧ ∀ k, v.ownBlock = some k → k < hi
theorem RowIn.grow {w w' : World} {lo hi e sz n : Nat} {v : Value} {cs : List Value} (h : RowIn w lo hi e sz v n cs) (hb : Below w.heap.size w w') : RowIn w' lo hi e sz v n cs := ⟨owns_below h.1 hb, h.2⟩
theorem RowIn.here {w : World} {lo e sz n : Nat} {v : Value} {cs : List Value} (h : w.ownsRow lo e sz v n cs) : RowIn w lo w.heap.size e sz v n cs := ⟨h, fun k hk => (World.ownsRow.lt h k hk).2⟩
theorem RowIn.apart {w : World} {lo hi lo' hi' e sz n e' sz' n' : Nat} {v u : Value} {cs cs' : List Value} (h : RowIn w lo hi e sz v n cs) (g : RowIn w lo' hi' e' sz' u n' cs') (hd : hi ≤ lo' ∨ hi' ≤ lo) : (v.ownBlock = none ∨ v.ownBlock ≠ u.ownBlock) ∧ (u.ownBlock = none ∨ u.ownBlock ≠ v.ownBlock) := by
  cases hv : v.ownBlock with
  | none => exact ⟨.inl rfl, by cases u.ownBlock <;> simp⟩
  | some k =>
    cases hu : u.ownBlock with
    | none => exact ⟨by simp, .inl rfl⟩
    | some k' =>
      have h1 := (World.ownsRow.lt h.1 k hv).1; have h2 := h.2 k hv
      have g1 := (World.ownsRow.lt g.1 k' hu).1; have g2 := g.2 k' hu
      exact ⟨.inr (by simp; omega), .inr (by simp; omega)⟩
end Go.Own
