/- Small laws on slices that are read, rows that a call makes and fills, and what a mark writes: of any program. -/
import Derived.WalkKit
import Derived.WalkSmall
import Derived.Deep.QuietTactic
import Derived.BigQuiet
import Derived.StillTailTactics
import Derived.Laws.AppendOwnNone
import Derived.Laws.CopyOwn
namespace Go.Own
open Go.RowKit

theorem hid {p : Prop} (h : p) : Hid p := h
theorem bool_cases (b : Bool) : Hid (b = true) ∨ Hid (b = false) := by cases b; exact .inr rfl; exact .inl rfl
theorem ret_bool {a b : Bool} (h : a = b) : Ending.returned (.bool a) = .returned (.bool b) := by rw [h]
theorem ret_int {a b : Int} (h : a = b) : Ending.returned (.int .i64 a) = .returned (.int .i64 b) := by rw [h]
/-- What a loop's rest answers is what the whole does: an equation that the walk does not open. -/
def Same {α : Type} (a b : α) : Prop := a = b
theorem Same.out {α : Type} {a b : α} (h : Same a b) : a = b := h
theorem Same.rfl {α : Type} {a : α} : Same a a := Eq.refl a
theorem Same.mk {α : Type} {a b : α} (h : a = b) : Same a b := h

theorem bcell {W w1 : World} (hb : Below W.heap.size W w1) : (∀ b o, b < W.heap.size → w1.cell? ⟨b, o, none⟩ = W.cell? ⟨b, o, none⟩) ∧ (∀ b o, b < W.heap.size → w1.frozen? ⟨b, o, none⟩ = W.frozen? ⟨b, o, none⟩) :=
  ⟨fun b o h => hb.cell (p := ⟨b, o, none⟩) h, fun b o h => hb.frozen (p := ⟨b, o, none⟩) h⟩
theorem grownBy_trans {w w1 w2 : World} {r : Option Nat} (h : w.grownBy w1 r) (g : w1.grownBy w2 r) : w.grownBy w2 r :=
  ⟨g.os.trans h.os, g.tape.trans h.tape, g.output.trans h.output, Nat.le_trans h.size g.size, fun k hk hr => (g.block k (Nat.lt_of_lt_of_le hk h.size) hr).trans (h.block k hk hr)⟩
theorem grownBy_of_below {w w1 : World} (r : Option Nat) (h : Below w.heap.size w w1) : w.grownBy w1 r := ⟨h.os, h.tape, h.output, h.size, fun k hk _ => h.block k hk⟩
theorem grownBy_drewN {w w1 : World} {r : Option Nat} (h : w.grownBy w1 r) (n : Nat) : w.grownBy (w1.drewN n) r := ⟨h.os, h.tape, h.output, h.size, h.block⟩
theorem below_of_drewN (w : World) (n : Nat) : Below w.heap.size w (w.drewN n) := below_drewN (Below.refl _ _) n

/-- A slice value reads, in this world, as these cells: n elements of sz cells each; its block lies below N. -/
def FlatB (N : Nat) (w : World) (v : Value) (n sz : Nat) (cs : List Value) : Prop :=
  cs.length = n * sz ∧ ∃ a cap, v = .slice a n cap ∧ n ≤ cap ∧ cap ≤ 9223372036854775807 ∧ (a = none → cap = 0) ∧
    (n = 0 ∨ ∃ b off, a = some ⟨b, off, none⟩ ∧ b < N ∧ ∀ j, (h : j < cs.length) → w.cell? ⟨b, off + j, none⟩ = some cs[j])
def Flat (w : World) (v : Value) (n sz : Nat) (cs : List Value) : Prop := FlatB w.heap.size w v n sz cs

theorem FlatB.below {N : Nat} {w w' : World} {v : Value} {n sz : Nat} {cs : List Value} (h : FlatB N w v n sz cs) (hb : Below N w w') : FlatB N w' v n sz cs := by
  obtain ⟨hl, a, cap, e, h1, h2, h0, h3⟩ := h
  refine ⟨hl, a, cap, e, h1, h2, h0, ?_⟩
  rcases h3 with h3 | ⟨b, off, ha, hs, hc⟩
  · exact .inl h3
  · exact .inr ⟨b, off, ha, hs, fun j hj => by rw [hb.cell (p := ⟨b, off + j, none⟩) hs]; exact hc j hj⟩
theorem FlatB.mono {N M : Nat} {w : World} {v : Value} {n sz : Nat} {cs : List Value} (h : FlatB N w v n sz cs) (hb : N ≤ M) : FlatB M w v n sz cs := by
  obtain ⟨hl, a, cap, e, h1, h2, h0, h3⟩ := h
  refine ⟨hl, a, cap, e, h1, h2, h0, ?_⟩
  rcases h3 with h3 | ⟨b, off, ha, hs, hc⟩
  · exact .inl h3
  · exact .inr ⟨b, off, ha, Nat.lt_of_lt_of_le hs hb, hc⟩
theorem Flat.below {w w' : World} {v : Value} {n sz : Nat} {cs : List Value} (h : Flat w v n sz cs) (hb : Below w.heap.size w w') : Flat w' v n sz cs :=
  (FlatB.below h hb).mono hb.size
theorem Flat.drewN {w : World} {v : Value} {n sz : Nat} {cs : List Value} (h : Flat w v n sz cs) (m : Nat) : Flat (w.drewN m) v n sz cs := h
theorem FlatB.flat {N : Nat} {w : World} {v : Value} {n sz : Nat} {cs : List Value} (h : FlatB N w v n sz cs) (hN : N ≤ w.heap.size) : Flat w v n sz cs := h.mono hN
theorem FlatB.len {N : Nat} {w : World} {v : Value} {n sz : Nat} {cs : List Value} (h : FlatB N w v n sz cs) : cs.length = n * sz := h.1
theorem Flat.len {w : World} {v : Value} {n sz : Nat} {cs : List Value} (h : Flat w v n sz cs) : cs.length = n * sz := h.1
theorem Flat.form {w : World} {v : Value} {n sz : Nat} {cs : List Value} (h : Flat w v n sz cs) : ∃ a cap, v = .slice a n cap ∧ n ≤ cap ∧ cap ≤ 9223372036854775807 := by
  obtain ⟨_, a, cap, e, h1, h2, _, _⟩ := h
  exact ⟨a, cap, e, h1, h2⟩

/-- What an append of a slice's elements asks of it: where its cells lie. -/
theorem Flat.src {w : World} {v : Value} {n sz : Nat} {cs : List Value} (h : Flat w v n sz cs) :
    (v = .slice none 0 0 ∧ cs = [] ∧ n = 0) ∨ ∃ ad cap, v = .slice (some ad) n cap ∧ cs.length = n * sz ∧ ∀ j u, cs[j]? = some u → w.cell? (ad.add j) = some u := by
  obtain ⟨hl, a, cap, e, h1, h2, h0, h3⟩ := h
  cases a with
  | none =>
    have hcap := h0 rfl
    subst hcap
    have : n = 0 := by omega
    subst this
    rw [Nat.zero_mul] at hl
    exact .inl ⟨e, List.eq_nil_of_length_eq_zero hl, rfl⟩
  | some ad =>
    refine .inr ⟨ad, cap, e, hl, fun j u hu => ?_⟩
    obtain ⟨hj, hu⟩ := List.getElem?_eq_some_iff.1 hu
    rcases h3 with h3 | ⟨b, off, ha, hs, hc⟩
    · subst h3; rw [Nat.zero_mul] at hl; omega
    · obtain rfl := Option.some.inj ha
      rw [Addr.add_lit, hc j hj, hu]

theorem Flat.of_owns {w : World} {base e sz n : Nat} {v : Value} {cs : List Value} (h : w.ownsRow base e sz v n cs) : Flat w v n sz cs := by
  refine ⟨h.1, ?_⟩
  have h0 := h
  rcases h.2 with ⟨rfl, rfl⟩ | ⟨g, cap, cur, rfl, hb, hg, hn, hm, hs, ht⟩
  · exact ⟨none, 0, rfl, Nat.le_refl _, by omega, fun _ => rfl, .inl rfl⟩
  · refine ⟨_, cap, rfl, hn, by unfold maxLen at hm; omega, (by intro e; cases e), .inr ⟨g, 0, rfl, (Array.getElem?_eq_some_iff.1 hg).1, fun j hj => ?_⟩⟩
    rw [Nat.zero_add, h0.cellAt j (by have := h0.1; omega)]
    exact List.getElem?_eq_getElem hj

theorem owns_below {w w' : World} {base e sz n : Nat} {v : Value} {cs : List Value} (h : w.ownsRow base e sz v n cs) (hb : Below w.heap.size w w') : w'.ownsRow base e sz v n cs := by
  refine ⟨h.1, ?_⟩
  rcases h.2 with h1 | ⟨g, cap, cur, hv, hb', hg, r⟩
  · exact .inl h1
  · exact .inr ⟨g, cap, cur, hv, hb', by rw [hb.block g (Array.getElem?_eq_some_iff.1 hg).1]; exact hg, r⟩
theorem owns_mono {w : World} {base base' e sz n : Nat} {v : Value} {cs : List Value} (h : w.ownsRow base e sz v n cs) (hb : base' ≤ base) : w.ownsRow base' e sz v n cs := by
  refine ⟨h.1, ?_⟩
  rcases h.2 with h1 | ⟨g, cap, cur, hv, hb', r⟩
  · exact .inl h1
  · exact .inr ⟨g, cap, cur, hv, Nat.le_trans hb hb', r⟩
theorem owns_form {w : World} {base e sz n : Nat} {v : Value} {cs : List Value} (h : w.ownsRow base e sz v n cs) : ∃ a cap, v = .slice a n cap ∧ n ≤ cap ∧ cap ≤ 9223372036854775807 := by
  rcases h.2 with ⟨rfl, rfl⟩ | ⟨g, cap, cur, rfl, _, _, hn, hm, _⟩
  · exact ⟨none, 0, rfl, Nat.le_refl _, by omega⟩
  · exact ⟨_, cap, rfl, hn, hm⟩
/-- A row that was there before another one was made is another one. -/
theorem apart {w1 w2 : World} {v u : Value} {b1 e1 s1 n1 e2 s2 n2 B : Nat} {c1 c2 : List Value} (hv : w1.ownsRow b1 e1 s1 v n1 c1) (hB : w1.heap.size ≤ B) (hu : w2.ownsRow B e2 s2 u n2 c2) : (v.ownBlock = none ∨ v.ownBlock ≠ u.ownBlock) ∧ (u.ownBlock = none ∨ u.ownBlock ≠ v.ownBlock) := by
  constructor
  · cases hvb : v.ownBlock with
    | none => exact .inl rfl
    | some k =>
      refine .inr fun e => ?_
      have := (hv.lt k hvb).2
      have := (hu.lt k e.symm).1
      omega
  · cases hvb : u.ownBlock with
    | none => exact .inl rfl
    | some k =>
      refine .inr fun e => ?_
      have := (hv.lt k e.symm).2
      have := (hu.lt k hvb).1
      omega
theorem apart_nil (v : Value) : (v.ownBlock = none ∨ v.ownBlock ≠ (Value.slice none 0 0).ownBlock) ∧ ((Value.slice none 0 0).ownBlock = none ∨ (Value.slice none 0 0).ownBlock ≠ v.ownBlock) :=
  ⟨by cases v.ownBlock <;> simp [Value.ownBlock], .inl rfl⟩
/-- What was there before a row was made is not touched by a write to that row. -/
theorem below_of_mark {w w' : World} {u : Value} {B e s n N : Nat} {cs : List Value} (hu : w.ownsRow B e s u n cs) (hg : w.grownBy w' u.ownBlock) (hN : N ≤ B) (hs : N ≤ w.heap.size) : Below N w w' :=
  ⟨hg.os, hg.tape, hg.output, hg.size, fun k hk => hg.block k (by omega) fun e => by have := (hu.lt k e.symm).1; omega⟩

theorem flatMap_get {α : Type} (f : α → List Value) (sz : Nat) (hsz : ∀ x, (f x).length = sz) : ∀ (xs : List α) (k : Nat) (hk : k < xs.length) (j : Nat), j < sz → (xs.flatMap f)[k * sz + j]? = (f xs[k])[j]?
  | [], k, hk, _, _ => by simp at hk
  | x :: xs, 0, _, j, hj => by
    rw [List.flatMap_cons, List.getElem?_append_left (by rw [hsz]; omega)]
    simp
  | x :: xs, k+1, hk, j, hj => by
    rw [List.flatMap_cons, List.getElem?_append_right (by rw [hsz, Nat.add_mul]; omega), hsz]
    rw [show (k + 1) * sz + j - sz = k * sz + j from by rw [Nat.add_mul]; omega]
    simpa using flatMap_get f sz hsz xs k (by simpa using hk) j hj
theorem flatMap_len {α : Type} (f : α → List Value) (sz : Nat) (hsz : ∀ x, (f x).length = sz) : ∀ (xs : List α), (xs.flatMap f).length = xs.length * sz
  | [] => by simp
  | x :: xs => by rw [List.flatMap_cons, List.length_append, hsz, flatMap_len f sz hsz xs, List.length_cons, Nat.add_mul]; omega

theorem flat_elem {α : Type} {w : World} {v : Value} {sz : Nat} {f : α → List Value} {xs : List α} (hsz : ∀ x, (f x).length = sz) (h : Flat w v xs.length sz (xs.flatMap f)) :
    ∃ a cap, v = .slice a xs.length cap ∧ xs.length ≤ cap ∧ cap ≤ 9223372036854775807 ∧
    ∀ k, (hk : k < xs.length) → ∃ b off, a = some ⟨b, off, none⟩ ∧ b < w.heap.size ∧ ∀ j, (hj : j < sz) → w.cell? ⟨b, off + (k * sz + j), none⟩ = (f xs[k])[j]? := by
  obtain ⟨hl, a, cap, e, h1, h2, h0, h3⟩ := h
  refine ⟨a, cap, e, h1, h2, fun k hk => ?_⟩
  rcases h3 with h3 | ⟨b, off, ha, hs, hc⟩
  · omega
  · refine ⟨b, off, ha, hs, fun j hj => ?_⟩
    have hlt : k * sz + j < xs.length * sz := by
      have : (k + 1) * sz ≤ xs.length * sz := Nat.mul_le_mul_right _ hk
      rw [Nat.add_mul] at this
      omega
    rw [hc _ (by omega), ← flatMap_get f sz hsz xs k hk j hj]
    exact (List.getElem?_eq_getElem (by omega)).symm
/-- The same of a row of cells, cell by cell. -/
theorem flat_cells {w : World} {v : Value} {n sz : Nat} {cs : List Value} (h : Flat w v n sz cs) :
    ∃ a cap, v = .slice a n cap ∧ n ≤ cap ∧ cap ≤ 9223372036854775807 ∧
    ∀ k, k < n → ∃ b off, a = some ⟨b, off, none⟩ ∧ b < w.heap.size ∧ ∀ j, j < sz → w.cell? ⟨b, off + (k * sz + j), none⟩ = cs[k * sz + j]? := by
  obtain ⟨hl, a, cap, e, h1, h2, h0, h3⟩ := h
  refine ⟨a, cap, e, h1, h2, fun k hk => ?_⟩
  rcases h3 with h3 | ⟨b, off, ha, hs, hc⟩
  · omega
  · refine ⟨b, off, ha, hs, fun j hj => ?_⟩
    have hlt : k * sz + j < n * sz := by
      have : (k + 1) * sz ≤ n * sz := Nat.mul_le_mul_right _ hk
      rw [Nat.add_mul] at this
      omega
    rw [hc _ (by omega)]
    exact (List.getElem?_eq_getElem (by omega)).symm

/-- What a slice of ints, of bools, reads as. -/
def encI (x : Int) : List Value := [.int .i64 x]
def encB (x : Bool) : List Value := [.bool x]
/-- 'append(s, x...)', s a row of the call's own, x whatever slice that is read: nil, empty or not. -/
theorem wpList_append_flat {P : Program} {w : World} {ops : Array Oper} {rest : List Oper} {o : Oper} {a : Act} {Q : Exit → Act → World → Prop} (hgd : o.guard = none) (s x : Operand) (t : TypeId)
    (ho : o.op = .call { callee := .builtin .append, args := #[s, x], argTypes := #[t, t] })
    (base : Nat) (e : TypeId) (i : TypeInfo) (z : Value) (size bytes : Nat) (ht : P.underlying t = some (.slice e)) (hi : P.info? e = some i) (hz : i.zero = some z)
    (hsize : i.size = size) (hby : i.bytes = bytes) (hzs : z.cells.size = size) (hsz : 0 < size)
    (v : Value) (n : Nat) (xs : List Value) (hs : a.eval s = v) (hown : w.ownsRow base e size v n xs)
    (u : Value) (m : Nat) (news : List Value) (hx : a.eval x = u) (hu : Flat w u m size news) (h1 : ∀ c ∈ news, c.oneCell' = true)
    (h63 : n + m ≤ maxLen) (hbytes : (n + m) * bytes ≤ 140737488355328) (hbase : base ≤ w.heap.size)
    (h : ∀ v' w', w'.ownsRow base e size v' (n + m) (xs ++ news) → w.grownBy w' v.ownBlock → wpList P ops Q rest (a.put o.dst v') w') : wpList P ops Q (o :: rest) a w := by
  rcases hu.src with ⟨rfl, rfl, rfl⟩ | ⟨ad, cap, rfl, hl, hc⟩
  · exact wpList_append_own_none hgd s x t ho base e i size ht hi v n xs hs hown hx (h v w (by simpa using hown) (World.grownBy.refl _ _))
  · exact wpList_append_own _ hgd s x t ho base e i z size bytes ht hi hz hsize hby hzs hsz v n xs hs hown ad m cap news hx hl hc h1 h63 hbytes hbase fun v' w' h1 h2 _ => h v' w' h1 h2

theorem oneCell_enc {α : Type} {f : α → List Value} (hf : ∀ x, ∀ c ∈ f x, c.oneCell' = true) (xs : List α) : ∀ c ∈ xs.flatMap f, c.oneCell' = true := by
  intro c hc
  obtain ⟨x, _, hx⟩ := List.mem_flatMap.1 hc
  exact hf x c hx
theorem oneCell_I (x : Int) : ∀ c ∈ encI x, c.oneCell' = true := by intro c hc; simp [encI] at hc; subst hc; rfl
theorem oneCell_B (x : Bool) : ∀ c ∈ encB x, c.oneCell' = true := by intro c hc; simp [encB] at hc; subst hc; rfl

/-- The first k of l, then the rest of z. -/
def fill (l z : List Value) (k : Nat) : List Value := l.take k ++ z.drop k
theorem fill_zero (l z : List Value) : fill l z 0 = z := by simp [fill]
theorem fill_all (l z : List Value) (k : Nat) (h : z.length = l.length) (hk : l.length ≤ k) : fill l z k = l := by
  simp [fill, List.take_of_length_le hk, List.drop_eq_nil_of_le (h ▸ hk)]
theorem fill_set (l z : List Value) (k : Nat) (h : z.length = l.length) (hk : k < l.length) : (fill l z k).set k l[k] = fill l z (k+1) := by
  have hkz : k < z.length := h ▸ hk
  have h1 : (l.take k).length = k := by simp; omega
  rw [fill, List.set_append_right _ _ (by omega), h1, Nat.sub_self, List.drop_eq_getElem_cons hkz, List.set_cons_zero, fill]
  rw [List.take_add_one, List.getElem?_eq_getElem hk, Option.toList_some, List.append_assoc]
  rfl

/-- A row of the call's own, of which the first j cells are l's. -/
def Fills (w : World) (base e sz : Nat) (v : Value) (n : Nat) (l : List Value) (j : Nat) : Prop :=
  ∃ z, z.length = l.length ∧ w.ownsRow base e sz v n (fill l z j)
theorem Fills.start {w : World} {base e sz n : Nat} {v : Value} {z l : List Value} (h : w.ownsRow base e sz v n z) (hl : l.length = n * sz) : Fills w base e sz v n l 0 :=
  ⟨z, by rw [hl]; exact h.1, by rw [fill_zero]; exact h⟩
theorem Fills.at {w : World} {base e sz n j : Nat} {a : Option Addr} {cap : Nat} {l : List Value} (h : Fills w base e sz (.slice a n cap) n l j) (hl : l.length = n * sz) (hn : 0 < l.length) :
    ∃ g, a = some ⟨g, 0, none⟩ ∧ base ≤ g ∧ g < w.heap.size ∧ (∀ i, i < l.length → (∃ u, w.cell? ⟨g, i, none⟩ = some u) ∧ w.frozen? ⟨g, i, none⟩ = false) := by
  obtain ⟨z, hz, h⟩ := h
  have h0 := h
  rcases h.2 with ⟨_, rfl⟩ | ⟨g, cap', cur, hv, hb, hg, _⟩
  · rw [Nat.zero_mul] at hl; omega
  · simp only [Value.slice.injEq, true_and] at hv
    obtain ⟨rfl, rfl⟩ := hv
    refine ⟨g, rfl, hb, (Array.getElem?_eq_some_iff.1 hg).1, fun i hi => ⟨?_, h0.frozenAt i⟩⟩
    rw [h0.cellAt i (by omega)]
    exact ⟨_, List.getElem?_eq_getElem (by have := h0.1; omega)⟩
theorem Fills.store {w : World} {base e sz n j g cap : Nat} {l : List Value} (h : Fills w base e sz (.slice (some ⟨g, 0, none⟩) n cap) n l j) (u : Value) (hu : l[j]? = some u) :
    Fills (w.setCell ⟨g, j, none⟩ u) base e sz (.slice (some ⟨g, 0, none⟩) n cap) n l (j+1) ∧ w.grownBy (w.setCell ⟨g, j, none⟩ u) (some g) := by
  obtain ⟨hj, hu⟩ := List.getElem?_eq_some_iff.1 hu
  obtain ⟨z, hz, h⟩ := h
  refine ⟨⟨z, hz, ?_⟩, (h.stored j u).2⟩
  rw [← fill_set l z j hz hj, hu]
  exact (h.stored j u).1
theorem Fills.done {w : World} {base e sz n j : Nat} {v : Value} {l : List Value} (h : Fills w base e sz v n l j) (hj : l.length ≤ j) : w.ownsRow base e sz v n l := by
  obtain ⟨z, hz, h⟩ := h
  rw [fill_all l z j hz hj] at h
  exact h
theorem Fills.kept {w w' : World} {base e sz n j : Nat} {v : Value} {l : List Value} {row : Option Nat} (h : Fills w base e sz v n l j) (hg : w.grownBy w' row) (hne : v.ownBlock = none ∨ v.ownBlock ≠ row) : Fills w' base e sz v n l j := by
  obtain ⟨z, hz, h⟩ := h
  exact ⟨z, hz, h.kept hg hne⟩
theorem Fills.below {w w' : World} {base e sz n j : Nat} {v : Value} {l : List Value} (h : Fills w base e sz v n l j) (hb : Below w.heap.size w w') : Fills w' base e sz v n l j := by
  obtain ⟨z, hz, h⟩ := h
  exact ⟨z, hz, owns_below h hb⟩

/-- What a mark writes: cell j is told of the j-th number from k on. -/
def markV (g : Nat → Int → Value) (m : Nat) (k : Int) : List Value := (List.range m).map (fun j : Nat => g j (k + (j : Int)))
theorem markV_length (g : Nat → Int → Value) (m : Nat) (k : Int) : (markV g m k).length = m := by simp [markV]
theorem markV_get (g : Nat → Int → Value) (m : Nat) (k : Int) (j : Nat) (h : j < m) : (markV g m k)[j]? = some (g j (k + j)) := by simp [markV, h]
def markI : Nat → Int → Value := fun _ x => .int .i64 x
def markB : Nat → Int → Value := fun _ x => .bool (x % 3 == 0)

def inB (x a b : Int) : Bool := decide (a ≤ x ∧ x ≤ b)
/-- All from the place k on are in a .. b. -/
def allIn (xs : List Int) (a b : Int) (k : Nat) : Bool := (xs.drop k).all (inB · a b)
theorem allIn_step (xs : List Int) (a b : Int) (k : Nat) (h : k < xs.length) : allIn xs a b k = (inB xs[k] a b && allIn xs a b (k+1)) := by
  rw [allIn, List.drop_eq_getElem_cons h, List.all_cons]; rfl
theorem allIn_end (xs : List Int) (a b : Int) (k : Nat) (h : ¬ k < xs.length) : allIn xs a b k = true := by
  simp [allIn, List.drop_eq_nil_of_le (Nat.le_of_not_lt h)]

def Ints (w : World) (v : Value) (xs : List Int) : Prop := Flat w v xs.length 1 (xs.flatMap encI)
def Bools (w : World) (v : Value) (xs : List Bool) : Prop := Flat w v xs.length 1 (xs.flatMap encB)
theorem Ints.below {w w' : World} {v : Value} {xs : List Int} (h : Ints w v xs) (hb : Below w.heap.size w w') : Ints w' v xs := Flat.below h hb
theorem Ints.open {w : World} {v : Value} {xs : List Int} (h : Ints w v xs) : ∃ a cap, v = .slice a xs.length cap ∧ xs.length ≤ cap ∧ cap ≤ 9223372036854775807 ∧
    ∀ k, (h : k < xs.length) → ∃ b off, a = some ⟨b, off, none⟩ ∧ b < w.heap.size ∧ w.cell? ⟨b, off + k, none⟩ = some (.int .i64 xs[k]) := by
  obtain ⟨a, cap, e, h1, h2, h3⟩ := flat_elem (f := encI) (sz := 1) (fun _ => rfl) h
  refine ⟨a, cap, e, h1, h2, fun k hk => ?_⟩
  obtain ⟨b, off, ha, hs, hc⟩ := h3 k hk
  have := hc 0 (by omega)
  rw [Nat.mul_one, Nat.add_zero] at this
  exact ⟨b, off, ha, hs, this⟩
theorem Bools.open {w : World} {v : Value} {xs : List Bool} (h : Bools w v xs) : ∃ a cap, v = .slice a xs.length cap ∧ xs.length ≤ cap ∧ cap ≤ 9223372036854775807 ∧
    ∀ k, (h : k < xs.length) → ∃ b off, a = some ⟨b, off, none⟩ ∧ b < w.heap.size ∧ w.cell? ⟨b, off + k, none⟩ = some (.bool xs[k]) := by
  obtain ⟨a, cap, e, h1, h2, h3⟩ := flat_elem (f := encB) (sz := 1) (fun _ => rfl) h
  refine ⟨a, cap, e, h1, h2, fun k hk => ?_⟩
  obtain ⟨b, off, ha, hs, hc⟩ := h3 k hk
  have := hc 0 (by omega)
  rw [Nat.mul_one, Nat.add_zero] at this
  exact ⟨b, off, ha, hs, this⟩

theorem encI_map (xs : List Int) : xs.flatMap encI = xs.map (Value.int .i64) := by
  induction xs with
  | nil => rfl
  | cons x xs ih => simp [encI, ih]
theorem encI_set (xs : List Int) (j : Nat) (x : Int) : (xs.flatMap encI).set j (.int .i64 x) = (xs.set j x).flatMap encI := by
  rw [encI_map, encI_map, List.map_set]
theorem encI_get (xs : List Int) (j : Nat) (h : j < xs.length) : (xs.flatMap encI)[j]? = some (.int .i64 xs[j]) := by
  rw [encI_map]; simp [h]
/-- A row of the call's own that is not empty: where it lies, what it holds, that it may be written. -/
theorem owns_at {w : World} {base e sz n : Nat} {v : Value} {cs : List Value} (h : w.ownsRow base e sz v n cs) (hn : 0 < n) :
    ∃ g cap, v = .slice (some ⟨g, 0, none⟩) n cap ∧ n ≤ cap ∧ cap ≤ 9223372036854775807 ∧ base ≤ g ∧ g < w.heap.size ∧ (∀ j, j < n * sz → w.cell? ⟨g, j, none⟩ = cs[j]?) ∧ ∀ j, w.frozen? ⟨g, j, none⟩ = false := by
  have h0 := h
  rcases h.2 with ⟨_, rfl⟩ | ⟨g, cap, cur, rfl, hb, hg, hnc, hm, _⟩
  · omega
  · exact ⟨g, cap, rfl, hnc, hm, hb, (Array.getElem?_eq_some_iff.1 hg).1, fun j hj => h0.cellAt j hj, fun j => h0.frozenAt j⟩
/-- 'copy(dst, src)', dst a row that the call made, as long as src. -/
theorem wpList_copy_full {P : Program} {w : World} {ops : Array Oper} {rest : List Oper} {o : Oper} {a : Act} {Q : Exit → Act → World → Prop} (hgd : o.guard = none) (d s : Operand) (dT sT : TypeId)
    (ho : o.op = .call { callee := .builtin .copy, args := #[d, s], argTypes := #[dT, sT] }) (elem : TypeId) (hu : P.underlying dT = some (.slice elem)) (hsz : (P.info? elem).map (·.size) = some 1)
    (g n : Nat) (hd : a.eval d = .slice (some ⟨g, 0, none⟩) n n) (u : Value) (hs : a.eval s = u) (base : Nat) (z cs : List Value) (hown : w.ownsRow base elem 1 (.slice (some ⟨g, 0, none⟩) n n) n z)
    (hsrc : Flat w u n 1 cs) (h1 : ∀ v ∈ cs, v.oneCell' = true) (B : Nat) (w0 : World) (hb : Below B w0 w) (hBg : B ≤ g)
    (h : ∀ w', w'.ownsRow base elem 1 (.slice (some ⟨g, 0, none⟩) n n) n cs → Below B w0 w' → wpList P ops Q rest (a.put o.dst (goInt cs.length)) w') : wpList P ops Q (o :: rest) a w := by
  obtain ⟨hz, hcase⟩ := hown
  rcases hcase with ⟨hv, _⟩ | ⟨g', cap, cur, hv, hbg, hg, hn, hm, hcs, ht⟩
  · cases hv
  · simp only [Value.slice.injEq, Option.some.injEq, Addr.mk.injEq, and_true, true_and] at hv
    obtain ⟨rfl, rfl⟩ := hv
    have hl : cs.length = n := by have := hsrc.len; omega
    have hform : ∃ sp sCap, u = .slice sp n sCap ∧ (0 < cs.length → ∃ ad, sp = some ad ∧ ∀ j v, cs[j]? = some v → w.cell? (ad.add j) = some v) := by
      rcases hsrc.src with ⟨rfl, rfl, rfl⟩ | ⟨ad, cap, rfl, hl2, hc⟩
      · exact ⟨none, 0, rfl, fun hh => by simp at hh⟩
      · exact ⟨_, cap, rfl, fun _ => ⟨ad, rfl, hc⟩⟩
    obtain ⟨sp, sCap, rfl, hp⟩ := hform
    refine wpList_copy_splice hgd d s dT sT ho elem hu hsz _ sp n n n sCap hd hs g 0 cur.toList elem (by simpa using hg) cs (by rw [hl]; exact (Nat.min_self n).symm) (fun hh => ⟨rfl, hp hh⟩) (by have : cur.toList.length = cur.size := Array.length_toList; omega) h1 B w0 hb hBg fun w' hw' hb' => ?_
    refine h w' ⟨by omega, .inr ⟨g, n, _, rfl, hbg, hw'.out, Nat.le_refl _, hm, ?_, ?_⟩⟩ hb'
    · simp [splice, hcs, hl]
    · simp [splice, hl]

theorem run_checkKey_int {P : Program} {w : World} {key : TypeId} {k : IntKind} (hk : P.underlying key = some (.int k)) (e : Bool) (n : Nat) (v : Value) :
    (Instr.checkKey e (n+1) key v).run P w = .ok () w := by
  unfold Instr.checkKey
  simp [run_underlying hk]

theorem run_findKey_int {P : Program} {w : World} {key : TypeId} {k : IntKind} (hk : P.underlying key = some (.int k)) (v : Value) (es : List MapEntry) (res : Option (Nat × Value)) (hf : Instr.findNow (.int k) v es 0 = some res) :
    (Instr.findKey key v es).run P w = .ok res w := by
  unfold Instr.findKey
  simp [run_underlying hk, hf]

/-- 'v, ok := m[k]', m a map that the call made, keyed by integers, whatever its elements: what stands there is told. -/
theorem run_lookup_hit {P : Program} {w : World} {t key elem : TypeId} {k : IntKind} (ht : P.underlying t = some (.map key elem)) (hk : P.underlying key = some (.int k)) {r : Nat} {es : Array MapEntry} {clock : Nat}
    (hh : w.heap[r]? = some (.map es clock)) (v : Value) (i : Nat) (x : Value) (hf : Instr.findNow (.int k) v es.toList 0 = some (some (i, x))) :
    (Instr.lookup t (.map (some r)) v true).run P w = .ok (.tuple #[x, .bool true]) w := by
  unfold Instr.lookup
  simp [run_underlying ht, getObj, Sem.run, hh, run_checkKey_int hk, run_findKey_int hk _ _ _ hf]
theorem run_lookup_miss {P : Program} {w : World} {t key elem : TypeId} {k : IntKind} {i : TypeInfo} {z : Value} (ht : P.underlying t = some (.map key elem)) (hk : P.underlying key = some (.int k)) (hi : P.info? elem = some i) (hz : i.zero = some z) {r : Nat} {es : Array MapEntry} {clock : Nat}
    (hh : w.heap[r]? = some (.map es clock)) (v : Value) (hf : Instr.findNow (.int k) v es.toList 0 = some none) :
    (Instr.lookup t (.map (some r)) v true).run P w = .ok (.tuple #[z, .bool false]) w := by
  unfold Instr.lookup
  simp [run_underlying ht, getObj, Sem.run, hh, run_checkKey_int hk, run_findKey_int hk _ _ _ hf, zeroValue, typeInfo, hi, hz]
theorem run_insert_new {P : Program} {w : World} {t key elem : TypeId} {k : IntKind} (ht : P.underlying t = some (.map key elem)) (hk : P.underlying key = some (.int k)) {r : Nat} {es : Array MapEntry} {clock : Nat}
    (hh : w.heap[r]? = some (.map es clock)) (v x : Value) (hf : Instr.findNow (.int k) v es.toList 0 = some none) :
    (Instr.mapUpdate t (.map (some r)) v x).run P w = .ok () { w with heap := w.heap.setIfInBounds r (.map (es.push { key := v, val := x, born := clock }) (clock + 1)) } := by
  unfold Instr.mapUpdate
  simp [run_underlying ht, getObj, setObj, Sem.run, hh, run_checkKey_int hk, run_findKey_int hk _ _ _ hf]
theorem alloc_setObj (w : World) (o o' : Obj) : ({ (w.alloc o) with heap := (w.alloc o).heap.setIfInBounds w.heap.size o' } : World) = w.alloc o' := by
  simp only [World.alloc]
  congr 1
  apply Array.ext_getElem?
  intro i
  rw [Array.getElem?_setIfInBounds, Array.getElem?_push, Array.getElem?_push]
  by_cases h : w.heap.size = i
  · subst h; simp
  · rw [if_neg h, if_neg (Ne.symm h), if_neg (Ne.symm h)]
theorem run_insert_made {P : Program} {w : World} {t key elem : TypeId} {k : IntKind} (ht : P.underlying t = some (.map key elem)) (hk : P.underlying key = some (.int k)) (es : Array MapEntry) (clock : Nat)
    (v x : Value) (hf : Instr.findNow (.int k) v es.toList 0 = some none) :
    (Instr.mapUpdate t (.map (some w.heap.size)) v x).run P (w.alloc (.map es clock)) = .ok () (w.alloc (.map (es.push { key := v, val := x, born := clock }) (clock + 1))) := by
  rw [run_insert_new ht hk (es := es) (clock := clock) (heap_alloc_new w _) v x hf, alloc_setObj]
end Go.Own
