import Derived.WalkKit
import Derived.WalkSmall
namespace Go.Own
open Go.RowKit

theorem hid {p : Prop} (h : p) : Hid p := h
theorem ret_bool {a b : Bool} (h : a = b) : Ending.returned (.bool a) = .returned (.bool b) := by rw [h]
theorem ret_int {a b : Int} (h : a = b) : Ending.returned (.int .i64 a) = .returned (.int .i64 b) := by rw [h]

/-- A slice value reads, in this world, as these cells: n elements of sz cells each. -/
def Flat (w : World) (v : Value) (n sz : Nat) (cs : List Value) : Prop :=
  cs.length = n * sz ∧ ∃ a cap, v = .slice a n cap ∧ n ≤ cap ∧ cap ≤ 9223372036854775807 ∧
    (n = 0 ∨ ∃ b off, a = some ⟨b, off, none⟩ ∧ b < w.heap.size ∧ ∀ j, (h : j < cs.length) → w.cell? ⟨b, off + j, none⟩ = some cs[j])

theorem Flat.below {w w' : World} {v : Value} {n sz : Nat} {cs : List Value} (h : Flat w v n sz cs) (hb : Below w.heap.size w w') : Flat w' v n sz cs := by
  obtain ⟨hl, a, cap, e, h1, h2, h3⟩ := h
  refine ⟨hl, a, cap, e, h1, h2, ?_⟩
  rcases h3 with h3 | ⟨b, off, ha, hs, hc⟩
  · exact .inl h3
  · exact .inr ⟨b, off, ha, Nat.lt_of_lt_of_le hs hb.size, fun j hj => by rw [hb.cell (p := ⟨b, off + j, none⟩) hs]; exact hc j hj⟩

theorem Flat.drew {w : World} {v : Value} {n sz : Nat} {cs : List Value} (h : Flat w v n sz cs) : Flat w.drew v n sz cs := h

theorem Flat.of_owns {w : World} {base e sz n : Nat} {v : Value} {cs : List Value} (h : w.ownsRow base e sz v n cs) : Flat w v n sz cs := by
  refine ⟨h.1, ?_⟩
  have h0 := h
  rcases h.2 with ⟨rfl, rfl⟩ | ⟨g, cap, cur, rfl, hb, hg, hn, hm, hs, ht⟩
  · exact ⟨none, 0, rfl, Nat.le_refl _, by omega, .inl rfl⟩
  · refine ⟨_, cap, rfl, hn, by unfold maxLen at hm; omega, .inr ⟨g, 0, rfl, (Array.getElem?_eq_some_iff.1 hg).1, fun j hj => ?_⟩⟩
    rw [Nat.zero_add, h0.cellAt j (by have := h0.1; omega)]
    exact List.getElem?_eq_getElem hj

theorem Flat.len {w : World} {v : Value} {n sz : Nat} {cs : List Value} (h : Flat w v n sz cs) : cs.length = n * sz := h.1

theorem owns_below {w w' : World} {base e sz n : Nat} {v : Value} {cs : List Value} (h : w.ownsRow base e sz v n cs) (hb : Below w.heap.size w w') : w'.ownsRow base e sz v n cs := by
  refine ⟨h.1, ?_⟩
  rcases h.2 with h1 | ⟨g, cap, cur, hv, hb', hg, r⟩
  · exact .inl h1
  · exact .inr ⟨g, cap, cur, hv, hb', by rw [hb.block g (Array.getElem?_eq_some_iff.1 hg).1]; exact hg, r⟩

theorem owns_mono {w : World} {base base' e sz n : Nat} {v : Value} {cs : List Value} (h : w.ownsRow base e sz v n cs) (hb : base' ≤ base) : w.ownsRow base' e sz v n cs := by
  refine ⟨h.1, ?_⟩
  rcases h.2 with h1 | ⟨g, cap, cur, hv, hb', r⟩
  · exact .inl h1
  · exact .inr ⟨g, cap, cur, hv, Nat.le_trans hb hb', r⟩

theorem bcell {W w1 : World} (hb : Below W.heap.size W w1) : (∀ b o, b < W.heap.size → w1.cell? ⟨b, o, none⟩ = W.cell? ⟨b, o, none⟩) ∧ (∀ b o, b < W.heap.size → w1.frozen? ⟨b, o, none⟩ = W.frozen? ⟨b, o, none⟩) :=
  ⟨fun b o h => hb.cell (p := ⟨b, o, none⟩) h, fun b o h => hb.frozen (p := ⟨b, o, none⟩) h⟩

def Ints (w : World) (v : Value) (xs : List Int) : Prop := Flat w v xs.length 1 (xs.map (Value.int .i64))
theorem Ints.below {w w' : World} {v : Value} {xs : List Int} (h : Ints w v xs) (hb : Below w.heap.size w w') : Ints w' v xs := Flat.below h hb
/-- What a walk over a slice of ints is told. -/
theorem Ints.open {w : World} {v : Value} {xs : List Int} (h : Ints w v xs) : ∃ a cap, v = .slice a xs.length cap ∧ xs.length ≤ cap ∧ cap ≤ 9223372036854775807 ∧
    ∀ k, (h : k < xs.length) → ∃ b off, a = some ⟨b, off, none⟩ ∧ b < w.heap.size ∧ w.cell? ⟨b, off + k, none⟩ = some (.int .i64 xs[k]) := by
  obtain ⟨hl, a, cap, e, h1, h2, h3⟩ := h
  refine ⟨a, cap, e, h1, h2, fun k hk => ?_⟩
  rcases h3 with h3 | ⟨b, off, ha, hs, hc⟩
  · omega
  · exact ⟨b, off, ha, hs, by rw [hc k (by simpa using hk)]; simp⟩

/-- The first k of l, then the rest of z. -/
def fill (l z : List Value) (k : Nat) : List Value := l.take k ++ z.drop k
theorem fill_zero (l z : List Value) : fill l z 0 = z := by simp [fill]
theorem fill_all (l z : List Value) (k : Nat) (h : z.length = l.length) (hk : l.length ≤ k) : fill l z k = l := by
  simp [fill, List.take_of_length_le hk, List.drop_eq_nil_of_le (h ▸ hk)]
theorem fill_set (l z : List Value) (k : Nat) (h : z.length = l.length) (hk : k < l.length) : (fill l z k).set k l[k] = fill l z (k+1) := by
  have hkz : k < z.length := h ▸ hk
  have h1 : (l.take k).length = k := by simp; omega
  rw [fill, List.set_append_right _ _ (by omega), h1, Nat.sub_self, List.drop_eq_getElem_cons hkz, List.set_cons_zero, fill]
  rw [List.take_add_one, List.getElem?_eq_getElem hk, Option.toList_some, List.append_assoc]
  rfl

/-- Row B, made by the call, of which the first j cells are l's. -/
def Filling (w : World) (B e sz n : Nat) (l : List Value) (j : Nat) : Prop :=
  ∃ z, z.length = l.length ∧ w.ownsRow B e sz (.slice (some ⟨B, 0, none⟩) n n) n (fill l z j)
theorem Filling.start {w : World} {B e sz n : Nat} {z l : List Value} (h : w.ownsRow B e sz (.slice (some ⟨B, 0, none⟩) n n) n z) (hl : l.length = n * sz) : Filling w B e sz n l 0 :=
  ⟨z, by rw [hl]; exact h.1, by rw [fill_zero]; exact h⟩
theorem Filling.cell {w : World} {B e sz n j : Nat} {l : List Value} (h : Filling w B e sz n l j) (hl : l.length = n * sz) (i : Nat) (hi : i < l.length) : (∃ u, w.cell? ⟨B, i, none⟩ = some u) ∧ w.frozen? ⟨B, i, none⟩ = false := by
  obtain ⟨z, hz, h⟩ := h
  refine ⟨?_, h.frozenAt i⟩
  rw [h.cellAt i (by omega)]
  exact ⟨_, List.getElem?_eq_getElem (by have := h.1; omega)⟩
theorem Filling.store {w : World} {B e sz n j : Nat} {l : List Value} (h : Filling w B e sz n l j) (u : Value) (hj : j < l.length) (hu : l[j] = u) : Filling (w.setCell ⟨B, j, none⟩ u) B e sz n l (j+1) := by
  obtain ⟨z, hz, h⟩ := h
  refine ⟨z, hz, ?_⟩
  rw [← fill_set l z j hz hj, hu]
  exact (h.stored j u).1
theorem Filling.done {w : World} {B e sz n j : Nat} {l : List Value} (h : Filling w B e sz n l j) (hj : l.length ≤ j) : w.ownsRow B e sz (.slice (some ⟨B, 0, none⟩) n n) n l := by
  obtain ⟨z, hz, h⟩ := h
  rw [fill_all l z j hz hj] at h
  exact h

def inB (x a b : Int) : Bool := decide (a ≤ x ∧ x ≤ b)
/-- All from the place k on are in a .. b. -/
def allIn (xs : List Int) (a b : Int) (k : Nat) : Bool := (xs.drop k).all (inB · a b)
theorem allIn_step (xs : List Int) (a b : Int) (k : Nat) (h : k < xs.length) : allIn xs a b k = (inB xs[k] a b && allIn xs a b (k+1)) := by
  rw [allIn, List.drop_eq_getElem_cons h, List.all_cons]; rfl
theorem allIn_end (xs : List Int) (a b : Int) (k : Nat) (h : ¬ k < xs.length) : allIn xs a b k = true := by
  simp [allIn, List.drop_eq_nil_of_le (Nat.le_of_not_lt h)]
/-- What a loop's rest answers is what the whole does: an equation that the walk does not open. -/
def Same {α : Type} (a b : α) : Prop := a = b
theorem Same.out {α : Type} {a b : α} (h : Same a b) : a = b := h
theorem Same.rfl {α : Type} {a : α} : Same a a := Eq.refl a

/-- Two lists agree from the place k on (they are as long). -/
def eqFrom {α : Type} [DecidableEq α] (xs ys : List α) (k : Nat) : Bool := decide (xs.drop k = ys.drop k)
theorem eqFrom_step {α : Type} [DecidableEq α] (xs ys : List α) (k : Nat) (h : k < xs.length) (h' : k < ys.length) : eqFrom xs ys k = (decide (xs[k] = ys[k]) && eqFrom xs ys (k+1)) := by
  have e : (xs.drop k = ys.drop k) ↔ (xs[k] = ys[k] ∧ xs.drop (k+1) = ys.drop (k+1)) := by rw [List.drop_eq_getElem_cons h, List.drop_eq_getElem_cons h', List.cons.injEq]
  simp only [eqFrom, e, Bool.decide_and]
theorem eqFrom_end {α : Type} [DecidableEq α] (xs ys : List α) (k : Nat) (h : ¬ k < xs.length) (h' : ¬ k < ys.length) : eqFrom xs ys k = true := by
  simp [eqFrom, List.drop_eq_nil_of_le (Nat.le_of_not_lt h), List.drop_eq_nil_of_le (Nat.le_of_not_lt h')]

/-- k, k+1, .. : what a mark writes. -/
def marks (n : Nat) (k : Int) : List Int := (List.range n).map (fun i : Nat => k + (i : Int))
theorem marks_length (n : Nat) (k : Int) : (marks n k).length = n := by simp [marks]
theorem marks_get (n : Nat) (k : Int) (i : Nat) (h : i < (marks n k).length) : (marks n k)[i] = k + i := by simp [marks]
end Go.Own
