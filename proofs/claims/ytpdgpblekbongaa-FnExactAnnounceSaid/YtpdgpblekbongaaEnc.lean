/- Data that lie in memory, read and owned, whatever they are made of: a class; numbers, flags, texts, pairs, lists of what is of the class. Of any program. -/
import Derived.Test.YtpdgpblekbongaaBase2
import Derived.Test.YtpdgpblekbongaaBx
namespace Go.Own
set_option maxRecDepth 100000
open Go.RowKit
/-- Blocks outside a set are as they were. -/
structure ChgS (S : Nat → Prop) (w w' : World) : Prop where
  os : w'.os = w.os
  tape : w'.tape = w.tape
  output : w'.output = w.output
  size : w.heap.size ≤ w'.heap.size
  block : ∀ k, k < w.heap.size → ¬ S k → w'.heap[k]? = w.heap[k]?
theorem ChgS.refl (S : Nat → Prop) (w : World) : ChgS S w w := ⟨rfl, rfl, rfl, Nat.le_refl _, fun _ _ _ => rfl⟩
theorem ChgS.trans {S : Nat → Prop} {a b c : World} (h : ChgS S a b) (g : ChgS S b c) : ChgS S a c :=
  ⟨g.os.trans h.os, g.tape.trans h.tape, g.output.trans h.output, Nat.le_trans h.size g.size, fun k hk hs => (g.block k (Nat.lt_of_lt_of_le hk h.size) hs).trans (h.block k hk hs)⟩
theorem ChgS.mono {S T : Nat → Prop} {a b : World} (h : ChgS S a b) (hst : ∀ k, S k → T k) : ChgS T a b :=
  ⟨h.os, h.tape, h.output, h.size, fun k hk hs => h.block k hk fun e => hs (hst k e)⟩
theorem ChgS.of_below {w w' : World} (h : Below w.heap.size w w') (S : Nat → Prop) : ChgS S w w' := ⟨h.os, h.tape, h.output, h.size, fun k hk _ => h.block k hk⟩
theorem ChgS.of_grown {w w' : World} {r : Option Nat} {S : Nat → Prop} (h : w.grownBy w' r) (hr : ∀ k, r = some k → S k) : ChgS S w w' :=
  ⟨h.os, h.tape, h.output, h.size, fun k hk hs => h.block k hk fun e => hs (hr k e.symm)⟩
theorem ChgS.below {S : Nat → Prop} {w w' : World} {N : Nat} (h : ChgS S w w') (hN : N ≤ w.heap.size) (hs : ∀ k, S k → N ≤ k) : Below N w w' :=
  ⟨h.os, h.tape, h.output, h.size, fun k hk => h.block k (Nat.lt_of_lt_of_le hk hN) fun e => by have := hs k e; omega⟩
theorem below_chg {N : Nat} {a b c : World} {S : Nat → Prop} (h : Below N a b) (g : ChgS S b c) (hN : N ≤ b.heap.size) (hs : ∀ k, S k → N ≤ k) : Below N a c := h.trans (g.below hN hs)
/-- The blocks from lo on, below hi. -/
def Rg (lo hi : Nat) : Nat → Prop := fun k => lo ≤ k ∧ k < hi
/-- A slice's own block. -/
def Blk (v : Value) : Nat → Prop := fun k => v.ownBlock = some k
theorem owns_same {w w' : World} {base e sz n : Nat} {v : Value} {cs : List Value} (h : w.ownsRow base e sz v n cs) (hs : ∀ k, v.ownBlock = some k → w'.heap[k]? = w.heap[k]?) : w'.ownsRow base e sz v n cs := by
  refine ⟨h.1, ?_⟩
  rcases h.2 with h1 | ⟨g, cap, cur, hv, hb', hg, r⟩
  · exact .inl h1
  · exact .inr ⟨g, cap, cur, hv, hb', by rw [hs g (by subst hv; rfl)]; exact hg, r⟩
theorem owns_base {w : World} {b b' e sz n : Nat} {v : Value} {cs : List Value} (h : w.ownsRow b e sz v n cs) (hb : ∀ k, v.ownBlock = some k → b' ≤ k) : w.ownsRow b' e sz v n cs := by
  refine ⟨h.1, ?_⟩
  rcases h.2 with h1 | ⟨g, cap, cur, hv, hb', hg, r⟩
  · exact .inl h1
  · exact .inr ⟨g, cap, cur, hv, hb g (by subst hv; rfl), hg, r⟩
theorem owns_in {w : World} {base e sz n : Nat} {v : Value} {cs : List Value} (h : w.ownsRow base e sz v n cs) : ∀ k, Blk v k → Rg base w.heap.size k := fun k hk => World.ownsRow.lt h k hk
/-- What lies in memory as some cells: how many they are, of which type; what it is to read as a datum, and to be the call's own, in a set of blocks. -/
class Enc (α : Type) where
  sz : Nat
  ty : Nat
  rds : World → List Value → α → Prop
  own : (Nat → Prop) → World → List Value → α → Prop
  rds_len : ∀ {w cs x}, rds w cs x → cs.length = sz
  rds_below : ∀ {w w' cs x}, rds w cs x → Below w.heap.size w w' → rds w' cs x
  own_keep : ∀ {S w w' cs x}, own S w cs x → (∀ k, S k → w'.heap[k]? = w.heap[k]?) → own S w' cs x
  own_mono : ∀ {S T w cs x}, own S w cs x → (∀ k, S k → T k) → own T w cs x
  own_rds : ∀ {S w cs x}, own S w cs x → rds w cs x
/-- A number, a flag, a text. -/
abbrev scalarEnc {α : Type} (f : α → Value) (t : Nat) : Enc α where
  sz := 1
  ty := t
  rds _ cs x := cs = [f x]
  own _ _ cs x := cs = [f x]
  rds_len h := by subst h; rfl
  rds_below h _ := h
  own_keep h _ := h
  own_mono h _ := h
  own_rds h := h
/-- Two data side by side: their blocks apart. -/
abbrev pairEnc {α β γ : Type} [A : Enc α] [B : Enc β] (f : γ → α) (g : γ → β) (t : Nat) : Enc γ where
  sz := A.sz + B.sz
  ty := t
  rds w cs x := ∃ c d, cs = c ++ d ∧ A.rds w c (f x) ∧ B.rds w d (g x)
  own S w cs x := ∃ c d S1 S2, cs = c ++ d ∧ A.own S1 w c (f x) ∧ B.own S2 w d (g x) ∧ (∀ k, S1 k → S k) ∧ (∀ k, S2 k → S k) ∧ ∀ k, S1 k → ¬ S2 k
  rds_len := by rintro w cs x ⟨c, d, rfl, h1, h2⟩; rw [List.length_append, A.rds_len h1, B.rds_len h2]
  rds_below := by rintro w w' cs x ⟨c, d, rfl, h1, h2⟩ hb; exact ⟨c, d, rfl, A.rds_below h1 hb, B.rds_below h2 hb⟩
  own_keep := by
    rintro S w w' cs x ⟨c, d, S1, S2, rfl, h1, h2, h3, h4, h5⟩ hk
    exact ⟨c, d, S1, S2, rfl, A.own_keep h1 fun k h => hk k (h3 k h), B.own_keep h2 fun k h => hk k (h4 k h), h3, h4, h5⟩
  own_mono := by
    rintro S T w cs x ⟨c, d, S1, S2, rfl, h1, h2, h3, h4, h5⟩ hk
    exact ⟨c, d, S1, S2, rfl, h1, h2, fun k h => hk k (h3 k h), fun k h => hk k (h4 k h), h5⟩
  own_rds := by rintro S w cs x ⟨c, d, S1, S2, rfl, h1, h2, _⟩; exact ⟨c, d, rfl, A.own_rds h1, B.own_rds h2⟩
/-- A list: a slice whose elements lie one behind the other, each as a datum. -/
instance listEnc {α : Type} [A : Enc α] : Enc (List α) where
  sz := 1
  ty := 0
  rds w cs xs := ∃ (v : Value) (css : List (List Value)), cs = [v] ∧ css.length = xs.length ∧ Flat w v xs.length A.sz css.flatten ∧ ∀ i (h : i < css.length) (h2 : i < xs.length), A.rds w css[i] xs[i]
  own S w cs xs := ∃ (v : Value) (css : List (List Value)) (R : Nat → Nat → Prop), cs = [v] ∧ css.length = xs.length ∧ w.ownsRow 0 A.ty A.sz v xs.length css.flatten ∧ (∀ k, Blk v k → S k) ∧ (∀ i k, R i k → S k ∧ ¬ Blk v k) ∧ (∀ i j k, i ≠ j → R i k → ¬ R j k) ∧
    ∀ i (h : i < css.length) (h2 : i < xs.length), A.own (R i) w css[i] xs[i]
  rds_len := by rintro w cs xs ⟨v, css, rfl, _⟩; rfl
  rds_below := by
    rintro w w' cs xs ⟨v, css, rfl, h1, h2, h3⟩ hb
    exact ⟨v, css, rfl, h1, Flat.below h2 hb, fun i h h' => A.rds_below (h3 i h h') hb⟩
  own_keep := by
    rintro S w w' cs xs ⟨v, css, R, rfl, h1, h2, h3, h4, h5, h6⟩ hk
    exact ⟨v, css, R, rfl, h1, owns_same h2 fun k h => hk k (h3 k h), h3, h4, h5, fun i h h' => A.own_keep (h6 i h h') fun k hr => hk k (h4 i k hr).1⟩
  own_mono := by
    rintro S T w cs xs ⟨v, css, R, rfl, h1, h2, h3, h4, h5, h6⟩ hk
    exact ⟨v, css, R, rfl, h1, h2, fun k h => hk k (h3 k h), fun i k h => ⟨hk k (h4 i k h).1, (h4 i k h).2⟩, h5, h6⟩
  own_rds := by
    rintro S w cs xs ⟨v, css, R, rfl, h1, h2, h3, h4, h5, h6⟩
    exact ⟨v, css, rfl, h1, Flat.of_owns h2, fun i h h' => A.own_rds (h6 i h h')⟩
/-- A datum that is nothing but its cells. -/
class FlatEnc (α : Type) extends Enc α where
  enc : α → List Value
  rds_iff : ∀ {w cs x}, rds w cs x ↔ cs = enc x
  own_iff : ∀ {S w cs x}, own S w cs x ↔ cs = enc x
  enc_len : ∀ x, (enc x).length = sz
/-- A struct of numbers and flags. -/
abbrev flatEnc {α : Type} (f : α → List Value) (n t : Nat) (h : ∀ x, (f x).length = n) : FlatEnc α where
  sz := n
  ty := t
  rds _ cs x := cs = f x
  own _ _ cs x := cs = f x
  rds_len e := by subst e; exact h _
  rds_below e _ := e
  own_keep e _ := e
  own_mono e _ := e
  own_rds e := e
  enc := f
  rds_iff := Iff.rfl
  own_iff := Iff.rfl
  enc_len := h
theorem flatten_enc {α : Type} (f : α → List Value) : ∀ (css : List (List Value)) (xs : List α), css.length = xs.length → (∀ i (h : i < css.length) (h2 : i < xs.length), css[i] = f xs[i]) → css.flatten = xs.flatMap f
  | [], [], _, _ => rfl
  | [], _ :: _, h, _ => by simp at h
  | _ :: _, [], h, _ => by simp at h
  | c :: css, x :: xs, h, he => by
    have h0 := he 0 (by simp) (by simp)
    simp only [List.getElem_cons_zero] at h0
    rw [List.flatten_cons, List.flatMap_cons, h0, flatten_enc f css xs (by simpa using h) (fun i hi hi2 => he (i+1) (by simpa using hi) (by simpa using hi2))]
/-- A list of flat data, read: the one that chapters 1 to 6 speak of. -/
theorem rds_flat {α : Type} [A : FlatEnc α] {w : World} {v : Value} {xs : List α} : Enc.rds w [v] xs ↔ Flat w v xs.length A.sz (xs.flatMap A.enc) := by
  constructor
  · rintro ⟨v', css, e, h1, h2, h3⟩
    obtain rfl : v = v' := by simpa using e
    rw [flatten_enc A.enc css xs h1 (fun i h h' => A.rds_iff.1 (h3 i h h'))] at h2
    exact h2
  · intro h
    refine ⟨v, xs.map A.enc, rfl, by simp, ?_, fun i h1 h2 => ?_⟩
    · rw [← List.flatMap_def]; exact h
    · exact A.rds_iff.2 (by simp)
theorem own_flat {α : Type} [A : FlatEnc α] {S : Nat → Prop} {w : World} {v : Value} {xs : List α} : Enc.own S w [v] xs ↔ w.ownsRow 0 A.ty A.sz v xs.length (xs.flatMap A.enc) ∧ ∀ k, Blk v k → S k := by
  constructor
  · rintro ⟨v', css, R, e, h1, h2, h3, h4, h5, h6⟩
    obtain rfl : v = v' := by simpa using e
    rw [flatten_enc A.enc css xs h1 (fun i h h' => A.own_iff.1 (h6 i h h'))] at h2
    exact ⟨h2, h3⟩
  · rintro ⟨h, hS⟩
    refine ⟨v, xs.map A.enc, fun _ _ => False, rfl, by simp, ?_, hS, fun i k h => h.elim, fun i j k _ h => h.elim, fun i h1 h2 => ?_⟩
    · rw [← List.flatMap_def]; exact h
    · exact A.own_iff.2 (by simp)
/-- A struct's value. -/
def rdsV {α : Type} [A : Enc α] (w : World) (v : Value) (x : α) : Prop := ∃ cs : List Value, v = .agg cs.toArray ∧ A.rds w cs x
def ownV {α : Type} [A : Enc α] (S : Nat → Prop) (w : World) (v : Value) (x : α) : Prop := ∃ cs : List Value, v = .agg cs.toArray ∧ A.own S w cs x
theorem rdsV.below {α : Type} [A : Enc α] {w w' : World} {v : Value} {x : α} (h : rdsV w v x) (hb : Below w.heap.size w w') : rdsV w' v x := by
  obtain ⟨cs, e, h⟩ := h; exact ⟨cs, e, A.rds_below h hb⟩
theorem ownV.rds {α : Type} [A : Enc α] {S : Nat → Prop} {w : World} {v : Value} {x : α} (h : ownV S w v x) : rdsV w v x := by
  obtain ⟨cs, e, h⟩ := h; exact ⟨cs, e, A.own_rds h⟩
theorem ownV.keep {α : Type} [A : Enc α] {S : Nat → Prop} {w w' : World} {v : Value} {x : α} (h : ownV S w v x) (hk : ∀ k, S k → w'.heap[k]? = w.heap[k]?) : ownV S w' v x := by
  obtain ⟨cs, e, h⟩ := h; exact ⟨cs, e, A.own_keep h hk⟩
theorem ownV.mono {α : Type} [A : Enc α] {S T : Nat → Prop} {w : World} {v : Value} {x : α} (h : ownV S w v x) (hk : ∀ k, S k → T k) : ownV T w v x := by
  obtain ⟨cs, e, h⟩ := h; exact ⟨cs, e, A.own_mono h hk⟩
/-- A list's value. -/
def rdsL {α : Type} [A : Enc α] (w : World) (v : Value) (xs : List α) : Prop := (listEnc (A := A)).rds w [v] xs
def ownL {α : Type} [A : Enc α] (S : Nat → Prop) (w : World) (v : Value) (xs : List α) : Prop := (listEnc (A := A)).own S w [v] xs
end Go.Own
