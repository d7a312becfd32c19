/- Lists of data in memory: opened, filled, marked. Of any program. -/
import Derived.Test.YtdgmbcmgjadoiaaBase2
import Derived.Test.YtdgmbcmgjadoiaaBx
/- Data that lie in memory, read and owned, whatever they are made of: a class; numbers, flags, texts, pairs, lists of what is of the class. Of any program. -/
namespace Go.Own
open Go.RowKit
/-- Blocks outside a set are as they were. -/
structure ChgS (S : Nat → Prop) (w w' : World) : Prop where
  os : w'.os = w.os
  tape : w'.tape = w.tape
  output : w'.output = w.output
  size : w.heap.size ≤ w'.heap.size
  block : ∀ k, k < w.heap.size → ¬ S k → w'.heap[k]? = w.heap[k]?
theorem ChgS.refl (S : Nat → Prop) (w : World) : ChgS S w w := ⟨rfl, rfl, rfl, Nat.le_refl _, fun _ _ _ => rfl⟩
theorem ChgS.trans {S : Nat → Prop} {a b c : World} (h : ChgS S a b) (g : ChgS S b c) : ChgS S a c :=
  ⟨g.os.trans h.os, g.tape.trans h.tape, g.output.trans h.output, Nat.le_trans h.size g.size, fun k hk hs => (g.block k (Nat.lt_of_lt_of_le hk h.size) hs).trans (h.block k hk hs)⟩
theorem ChgS.mono {S T : Nat → Prop} {a b : World} (h : ChgS S a b) (hst : ∀ k, S k → T k) : ChgS T a b :=
  ⟨h.os, h.tape, h.output, h.size, fun k hk hs => h.block k hk fun e => hs (hst k e)⟩
theorem ChgS.of_below {w w' : World} (h : Below w.heap.size w w') (S : Nat → Prop) : ChgS S w w' := ⟨h.os, h.tape, h.output, h.size, fun k hk _ => h.block k hk⟩
theorem ChgS.of_grown {w w' : World} {r : Option Nat} {S : Nat → Prop} (h : w.grownBy w' r) (hr : ∀ k, r = some k → S k) : ChgS S w w' :=
  ⟨h.os, h.tape, h.output, h.size, fun k hk hs => h.block k hk fun e => hs (hr k e.symm)⟩
theorem ChgS.below {S : Nat → Prop} {w w' : World} {N : Nat} (h : ChgS S w w') (hN : N ≤ w.heap.size) (hs : ∀ k, S k → N ≤ k) : Below N w w' :=
  ⟨h.os, h.tape, h.output, h.size, fun k hk => h.block k (Nat.lt_of_lt_of_le hk hN) fun e => by have := hs k e; omega⟩
theorem below_chg {N : Nat} {a b c : World} {S : Nat → Prop} (h : Below N a b) (g : ChgS S b c) (hN : N ≤ b.heap.size) (hs : ∀ k, S k → N ≤ k) : Below N a c := h.trans (g.below hN hs)
/-- The blocks from lo on, below hi. -/
def Rg (lo hi : Nat) : Nat → Prop := fun k => lo ≤ k ∧ k < hi
/-- A slice's own block. -/
def Blk (v : Value) : Nat → Prop := fun k => v.ownBlock = some k
theorem owns_same {w w' : World} {base e sz n : Nat} {v : Value} {cs : List Value} (h : w.ownsRow base e sz v n cs) (hs : ∀ k, v.ownBlock = some k → w'.heap[k]? = w.heap[k]?) : w'.ownsRow base e sz v n cs := by
  refine ⟨h.1, ?_⟩
  rcases h.2 with h1 | ⟨g, cap, cur, hv, hb', hg, r⟩
  · exact .inl h1
  · exact .inr ⟨g, cap, cur, hv, hb', by rw [hs g (by subst hv; rfl)]; exact hg, r⟩
theorem owns_base {w : World} {b b' e sz n : Nat} {v : Value} {cs : List Value} (h : w.ownsRow b e sz v n cs) (hb : ∀ k, v.ownBlock = some k → b' ≤ k) : w.ownsRow b' e sz v n cs := by
  refine ⟨h.1, ?_⟩
  rcases h.2 with h1 | ⟨g, cap, cur, hv, hb', hg, r⟩
  · exact .inl h1
  · exact .inr ⟨g, cap, cur, hv, hb g (by subst hv; rfl), hg, r⟩
theorem owns_in {w : World} {base e sz n : Nat} {v : Value} {cs : List Value} (h : w.ownsRow base e sz v n cs) : ∀ k, Blk v k → Rg base w.heap.size k := fun k hk => World.ownsRow.lt h k hk
/-- What lies in memory as some cells: how many they are, of which type; what it is to read as a datum, and to be the call's own, in a set of blocks. -/
class Enc (α : Type) where
  sz : Nat
  ty : Nat
  rds : World → List Value → α → Prop
  own : (Nat → Prop) → World → List Value → α → Prop
  rds_len : ∀ {w cs x}, rds w cs x → cs.length = sz
  rds_below : ∀ {w w' cs x}, rds w cs x → Below w.heap.size w w' → rds w' cs x
  own_keep : ∀ {S w w' cs x}, own S w cs x → (∀ k, S k → w'.heap[k]? = w.heap[k]?) → own S w' cs x
  own_mono : ∀ {S T w cs x}, own S w cs x → (∀ k, S k → T k) → own T w cs x
  own_rds : ∀ {S w cs x}, own S w cs x → rds w cs x
/-- A number, a flag, a text. -/
abbrev scalarEnc {α : Type} (f : α → Value) (t : Nat) : Enc α where
  sz := 1
  ty := t
  rds _ cs x := cs = [f x]
  own _ _ cs x := cs = [f x]
  rds_len h := by subst h; rfl
  rds_below h _ := h
  own_keep h _ := h
  own_mono h _ := h
  own_rds h := h
/-- Two data side by side: their blocks apart. -/
abbrev pairEnc {α β γ : Type} [A : Enc α] [B : Enc β] (f : γ → α) (g : γ → β) (t : Nat) : Enc γ where
  sz := A.sz + B.sz
  ty := t
  rds w cs x := ∃ c d, cs = c ++ d ∧ A.rds w c (f x) ∧ B.rds w d (g x)
  own S w cs x := ∃ c d S1 S2, cs = c ++ d ∧ A.own S1 w c (f x) ∧ B.own S2 w d (g x) ∧ (∀ k, S1 k → S k) ∧ (∀ k, S2 k → S k) ∧ ∀ k, S1 k → ¬ S2 k
  rds_len := by rintro w cs x ⟨c, d, rfl, h1, h2⟩; rw [List.length_append, A.rds_len h1, B.rds_len h2]
  rds_below := by rintro w w' cs x ⟨c, d, rfl, h1, h2⟩ hb; exact ⟨c, d, rfl, A.rds_below h1 hb, B.rds_below h2 hb⟩
  own_keep := by
    rintro S w w' cs x ⟨c, d, S1, S2, rfl, h1, h2, h3, h4, h5⟩ hk
    exact ⟨c, d, S1, S2, rfl, A.own_keep h1 fun k h => hk k (h3 k h), B.own_keep h2 fun k h => hk k (h4 k h), h3, h4, h5⟩
  own_mono := by
    rintro S T w cs x ⟨c, d, S1, S2, rfl, h1, h2, h3, h4, h5⟩ hk
    exact ⟨c, d, S1, S2, rfl, h1, h2, fun k h => hk k (h3 k h), fun k h => hk k (h4 k h), h5⟩
  own_rds := by rintro S w cs x ⟨c, d, S1, S2, rfl, h1, h2, _⟩; exact ⟨c, d, rfl, A.own_rds h1, B.own_rds h2⟩
/-- A list: a slice whose elements lie one behind the other, each as a datum. -/
instance listEnc {α : Type} [A : Enc α] : Enc (List α) where
  sz := 1
  ty := 0
  rds w cs xs := ∃ (v : Value) (css : List (List Value)), cs = [v] ∧ css.length = xs.length ∧ Flat w v xs.length A.sz css.flatten ∧ ∀ i (h : i < css.length) (h2 : i < xs.length), A.rds w css[i] xs[i]
  own S w cs xs := ∃ (v : Value) (css : List (List Value)) (R : Nat → Nat → Prop), cs = [v] ∧ css.length = xs.length ∧ w.ownsRow 0 A.ty A.sz v xs.length css.flatten ∧ (∀ k, Blk v k → S k) ∧ (∀ i k, R i k → S k ∧ ¬ Blk v k) ∧ (∀ i j k, i ≠ j → R i k → ¬ R j k) ∧
    ∀ i (h : i < css.length) (h2 : i < xs.length), A.own (R i) w css[i] xs[i]
  rds_len := by rintro w cs xs ⟨v, css, rfl, _⟩; rfl
  rds_below := by
    rintro w w' cs xs ⟨v, css, rfl, h1, h2, h3⟩ hb
    exact ⟨v, css, rfl, h1, Flat.below h2 hb, fun i h h' => A.rds_below (h3 i h h') hb⟩
  own_keep := by
    rintro S w w' cs xs ⟨v, css, R, rfl, h1, h2, h3, h4, h5, h6⟩ hk
    exact ⟨v, css, R, rfl, h1, owns_same h2 fun k h => hk k (h3 k h), h3, h4, h5, fun i h h' => A.own_keep (h6 i h h') fun k hr => hk k (h4 i k hr).1⟩
  own_mono := by
    rintro S T w cs xs ⟨v, css, R, rfl, h1, h2, h3, h4, h5, h6⟩ hk
    exact ⟨v, css, R, rfl, h1, h2, fun k h => hk k (h3 k h), fun i k h => ⟨hk k (h4 i k h).1, (h4 i k h).2⟩, h5, h6⟩
  own_rds := by
    rintro S w cs xs ⟨v, css, R, rfl, h1, h2, h3, h4, h5, h6⟩
    exact ⟨v, css, rfl, h1, Flat.of_owns h2, fun i h h' => A.own_rds (h6 i h h')⟩
/-- A datum that is nothing but its cells. -/
class FlatEnc (α : Type) extends Enc α where
  enc : α → List Value
  rds_iff : ∀ {w cs x}, rds w cs x ↔ cs = enc x
  own_iff : ∀ {S w cs x}, own S w cs x ↔ cs = enc x
  enc_len : ∀ x, (enc x).length = sz
/-- A struct of numbers and flags. -/
abbrev flatEnc {α : Type} (f : α → List Value) (n t : Nat) (h : ∀ x, (f x).length = n) : FlatEnc α where
  sz := n
  ty := t
  rds _ cs x := cs = f x
  own _ _ cs x := cs = f x
  rds_len e := by subst e; exact h _
  rds_below e _ := e
  own_keep e _ := e
  own_mono e _ := e
  own_rds e := e
  enc := f
  rds_iff := Iff.rfl
  own_iff := Iff.rfl
  enc_len := h
theorem flatten_enc {α : Type} (f : α → List Value) : ∀ (css : List (List Value)) (xs : List α), css.length = xs.length → (∀ i (h : i < css.length) (h2 : i < xs.length), css[i] = f xs[i]) → css.flatten = xs.flatMap f
  | [], [], _, _ => rfl
  | [], _ :: _, h, _ => by simp at h
  | _ :: _, [], h, _ => by simp at h
  | c :: css, x :: xs, h, he => by
    have h0 := he 0 (by simp) (by simp)
    simp only [List.getElem_cons_zero] at h0
    rw [List.flatten_cons, List.flatMap_cons, h0, flatten_enc f css xs (by simpa using h) (fun i hi hi2 => he (i+1) (by simpa using hi) (by simpa using hi2))]
/-- A list of flat data, read: the one that chapters 1 to 6 speak of. -/
theorem rds_flat {α : Type} [A : FlatEnc α] {w : World} {v : Value} {xs : List α} : Enc.rds w [v] xs ↔ Flat w v xs.length A.sz (xs.flatMap A.enc) := by
  constructor
  · rintro ⟨v', css, e, h1, h2, h3⟩
    obtain rfl : v = v' := by simpa using e
    rw [flatten_enc A.enc css xs h1 (fun i h h' => A.rds_iff.1 (h3 i h h'))] at h2
    exact h2
  · intro h
    refine ⟨v, xs.map A.enc, rfl, by simp, ?_, fun i h1 h2 => ?_⟩
    · rw [← List.flatMap_def]; exact h
    · exact A.rds_iff.2 (by simp)
theorem own_flat {α : Type} [A : FlatEnc α] {S : Nat → Prop} {w : World} {v : Value} {xs : List α} : Enc.own S w [v] xs ↔ w.ownsRow 0 A.ty A.sz v xs.length (xs.flatMap A.enc) ∧ ∀ k, Blk v k → S k := by
  constructor
  · rintro ⟨v', css, R, e, h1, h2, h3, h4, h5, h6⟩
    obtain rfl : v = v' := by simpa using e
    rw [flatten_enc A.enc css xs h1 (fun i h h' => A.own_iff.1 (h6 i h h'))] at h2
    exact ⟨h2, h3⟩
  · rintro ⟨h, hS⟩
    refine ⟨v, xs.map A.enc, fun _ _ => False, rfl, by simp, ?_, hS, fun i k h => h.elim, fun i j k _ h => h.elim, fun i h1 h2 => ?_⟩
    · rw [← List.flatMap_def]; exact h
    · exact A.own_iff.2 (by simp)
/-- A struct's value. -/
def rdsV {α : Type} [A : Enc α] (w : World) (v : Value) (x : α) : Prop := ∃ cs : List Value, v = .agg cs.toArray ∧ A.rds w cs x
def ownV {α : Type} [A : Enc α] (S : Nat → Prop) (w : World) (v : Value) (x : α) : Prop := ∃ cs : List Value, v = .agg cs.toArray ∧ A.own S w cs x
theorem rdsV.below {α : Type} [A : Enc α] {w w' : World} {v : Value} {x : α} (h : rdsV w v x) (hb : Below w.heap.size w w') : rdsV w' v x := by
  obtain ⟨cs, e, h⟩ := h; exact ⟨cs, e, A.rds_below h hb⟩
theorem ownV.rds {α : Type} [A : Enc α] {S : Nat → Prop} {w : World} {v : Value} {x : α} (h : ownV S w v x) : rdsV w v x := by
  obtain ⟨cs, e, h⟩ := h; exact ⟨cs, e, A.own_rds h⟩
theorem ownV.keep {α : Type} [A : Enc α] {S : Nat → Prop} {w w' : World} {v : Value} {x : α} (h : ownV S w v x) (hk : ∀ k, S k → w'.heap[k]? = w.heap[k]?) : ownV S w' v x := by
  obtain ⟨cs, e, h⟩ := h; exact ⟨cs, e, A.own_keep h hk⟩
theorem ownV.mono {α : Type} [A : Enc α] {S T : Nat → Prop} {w : World} {v : Value} {x : α} (h : ownV S w v x) (hk : ∀ k, S k → T k) : ownV T w v x := by
  obtain ⟨cs, e, h⟩ := h; exact ⟨cs, e, A.own_mono h hk⟩
/-- A list's value. -/
def rdsL {α : Type} [A : Enc α] (w : World) (v : Value) (xs : List α) : Prop := (listEnc (A := A)).rds w [v] xs
def ownL {α : Type} [A : Enc α] (S : Nat → Prop) (w : World) (v : Value) (xs : List α) : Prop := (listEnc (A := A)).own S w [v] xs
end Go.Own
namespace Go.Own
open Go.RowKit
set_option linter.unusedVariables false
theorem flatten_len (sz : Nat) : ∀ (css : List (List Value)), (∀ c ∈ css, c.length = sz) → css.flatten.length = css.length * sz
  | [], _ => by simp
  | c :: css, h => by
    rw [List.flatten_cons, List.length_append, h c (by simp), flatten_len sz css (fun d hd => h d (by simp [hd])), List.length_cons, Nat.add_mul]; omega
theorem flatten_get (sz : Nat) : ∀ (css : List (List Value)), (∀ c ∈ css, c.length = sz) → ∀ (i : Nat) (h : i < css.length) (j : Nat), j < sz → css.flatten[i * sz + j]? = css[i][j]?
  | [], _, i, h, _, _ => by simp at h
  | c :: css, hc, 0, _, j, hj => by
    rw [List.flatten_cons, List.getElem?_append_left (by rw [hc c (by simp)]; omega)]
    simp
  | c :: css, hc, i+1, h, j, hj => by
    have e : (i + 1) * sz + j = c.length + (i * sz + j) := by rw [hc c (by simp), Nat.add_mul]; omega
    rw [List.flatten_cons, e, List.getElem?_append_right (by omega), show c.length + (i * sz + j) - c.length = i * sz + j by omega]
    exact flatten_get sz css (fun d hd => hc d (by simp [hd])) i (by simpa using h) j hj
theorem flatten_set (sz : Nat) : ∀ (css : List (List Value)), (∀ c ∈ css, c.length = sz) → ∀ (i : Nat) (h : i < css.length) (j : Nat) (u : Value), j < sz → css.flatten.set (i * sz + j) u = (css.set i (css[i].set j u)).flatten
  | [], _, i, h, _, _, _ => by simp at h
  | c :: css, hc, 0, _, j, u, hj => by
    have : c.length = sz := hc c (by simp)
    rw [List.flatten_cons, List.set_append_left _ _ (by omega)]
    simp
  | c :: css, hc, i+1, h, j, u, hj => by
    have e : (i + 1) * sz + j = c.length + (i * sz + j) := by rw [hc c (by simp), Nat.add_mul]; omega
    rw [List.flatten_cons, e, List.set_append_right _ _ (by omega), show c.length + (i * sz + j) - c.length = i * sz + j by omega]
    rw [flatten_set sz css (fun d hd => hc d (by simp [hd])) i (by simpa using h) j u hj]
    rfl
theorem set_lens {sz : Nat} {css : List (List Value)} (hc : ∀ c ∈ css, c.length = sz) (i : Nat) (d : List Value) (hd : d.length = sz) : ∀ c ∈ css.set i d, c.length = sz := by
  intro c h
  rcases List.mem_or_eq_of_mem_set h with h | rfl
  · exact hc c h
  · exact hd
/-- A list that is read, opened: where each element's cells lie. -/
theorem rdsL_open {α : Type} [A : Enc α] {w : World} {v : Value} {xs : List α} (h : rdsL w v xs) : ∃ a cap, v = .slice a xs.length cap ∧ xs.length ≤ cap ∧ cap ≤ 9223372036854775807 ∧
    ∀ i, (hi : i < xs.length) → ∃ b off cs, a = some ⟨b, off, none⟩ ∧ b < w.heap.size ∧ A.rds w cs xs[i] ∧ ∀ j, j < A.sz → w.cell? ⟨b, off + (i * A.sz + j), none⟩ = cs[j]? := by
  obtain ⟨v', css, e, hl, hf, he⟩ := h
  obtain rfl : v = v' := by simpa using e
  have hlen : ∀ c ∈ css, c.length = A.sz := fun c hc => by
    obtain ⟨i, hi, rfl⟩ := List.getElem_of_mem hc
    exact A.rds_len (he i hi (by omega))
  obtain ⟨a, cap, e2, h1, h2, h3⟩ := flat_cells hf
  refine ⟨a, cap, e2, h1, h2, fun i hi => ?_⟩
  obtain ⟨b, off, ha, hs, hc⟩ := h3 i hi
  refine ⟨b, off, css[i]'(by omega), ha, hs, he i (by omega) hi, fun j hj => ?_⟩
  rw [hc j hj, flatten_get A.sz css hlen i (by omega) j hj]
theorem rdsL.below {α : Type} [A : Enc α] {w w' : World} {v : Value} {xs : List α} (h : rdsL w v xs) (hb : Below w.heap.size w w') : rdsL w' v xs := (listEnc (A := A)).rds_below h hb
theorem ownL.rds {α : Type} [A : Enc α] {S : Nat → Prop} {w : World} {v : Value} {xs : List α} (h : ownL S w v xs) : rdsL w v xs := (listEnc (A := A)).own_rds h
theorem ownL.keep {α : Type} [A : Enc α] {S : Nat → Prop} {w w' : World} {v : Value} {xs : List α} (h : ownL S w v xs) (hk : ∀ k, S k → w'.heap[k]? = w.heap[k]?) : ownL S w' v xs := (listEnc (A := A)).own_keep h hk
theorem ownL.mono {α : Type} [A : Enc α] {S T : Nat → Prop} {w : World} {v : Value} {xs : List α} (h : ownL S w v xs) (hk : ∀ k, S k → T k) : ownL T w v xs := (listEnc (A := A)).own_mono h hk
/-- What lies below a step's bound stays. -/
theorem keep_rg {lo hi : Nat} {w w' : World} (hb : Below w.heap.size w w') (h : hi ≤ w.heap.size) : ∀ k, Rg lo hi k → w'.heap[k]? = w.heap[k]? := fun k hk => hb.block k (Nat.lt_of_lt_of_le hk.2 h)
theorem keep_chg {lo hi : Nat} {S : Nat → Prop} {w w' : World} (hb : ChgS S w w') (h : hi ≤ w.heap.size) (hs : ∀ k, Rg lo hi k → ¬ S k) : ∀ k, Rg lo hi k → w'.heap[k]? = w.heap[k]? := fun k hk => hb.block k (Nat.lt_of_lt_of_le hk.2 h) (hs k hk)
/-- A row under way: its cells element by element, those from k on not yet filled; each filled one a datum of the call's own, in blocks of its own from lo on, below mid. -/
def FillL {α : Type} [A : Enc α] (base lo mid : Nat) (w : World) (v : Value) (xs : List α) (css : List (List Value)) (k : Nat) : Prop :=
  css.length = xs.length ∧ (∀ c ∈ css, c.length = A.sz) ∧ w.ownsRow base A.ty A.sz v xs.length css.flatten ∧ (∀ b, Blk v b → b < lo) ∧ mid ≤ w.heap.size ∧
    ∃ R : Nat → Nat → Prop, (∀ i b, R i b → Rg lo mid b) ∧ (∀ i j b, i ≠ j → R i b → ¬ R j b) ∧ (∀ i, k ≤ i → ∀ b, ¬ R i b) ∧ ∀ i (h : i < css.length) (h2 : i < xs.length), i < k → A.own (R i) w css[i] xs[i]
theorem FillL.start {α : Type} [A : Enc α] {base lo mid : Nat} {w : World} {v : Value} {xs : List α} {z : List Value} (hz : z.length = A.sz) (h : w.ownsRow base A.ty A.sz v xs.length (List.replicate xs.length z).flatten) (hb : ∀ b, Blk v b → b < lo) (hm : mid ≤ w.heap.size) : FillL base lo mid w v xs (List.replicate xs.length z) 0 :=
  ⟨by simp, fun c hc => by rw [List.eq_of_mem_replicate hc]; exact hz, h, hb, hm, fun _ _ => False, fun _ _ h => h.elim, fun _ _ _ _ h => h.elim, fun _ _ _ h => h, fun i h h2 hk => by omega⟩
theorem FillL.below {α : Type} [A : Enc α] {base lo mid : Nat} {w w' : World} {v : Value} {xs : List α} {css : List (List Value)} {k : Nat} (h : FillL base lo mid w v xs css k) (hb : Below w.heap.size w w') : FillL base lo mid w' v xs css k := by
  obtain ⟨h1, h2, h3, h4, hm, R, h5, h6, h7, h8⟩ := h
  exact ⟨h1, h2, owns_below h3 hb, h4, Nat.le_trans hm hb.size, R, h5, h6, h7, fun i hi hi2 hk => A.own_keep (h8 i hi hi2 hk) fun b hr => hb.block b (Nat.lt_of_lt_of_le (h5 i b hr).2 hm)⟩
theorem chunks (sz : Nat) : ∀ (n : Nat) (L : List Value), L.length = n * sz → ∃ css : List (List Value), css.length = n ∧ (∀ c ∈ css, c.length = sz) ∧ css.flatten = L
  | 0, L, h => ⟨[], rfl, fun c hc => by simp at hc, by rw [Nat.zero_mul] at h; rw [List.eq_nil_of_length_eq_zero h]; rfl⟩
  | n+1, L, h => by
    rw [Nat.add_mul, Nat.one_mul] at h
    obtain ⟨css, h1, h2, h3⟩ := chunks sz n (L.drop sz) (by rw [List.length_drop]; omega)
    refine ⟨L.take sz :: css, by simp [h1], fun c hc => ?_, by rw [List.flatten_cons, h3, List.take_append_drop]⟩
    rcases List.mem_cons.1 hc with rfl | hc
    · rw [List.length_take]; omega
    · exact h2 c hc
theorem FillL.begin {α : Type} [A : Enc α] {base lo mid : Nat} {w : World} {v : Value} {xs : List α} {L : List Value} (h : w.ownsRow base A.ty A.sz v xs.length L) (hb : ∀ b, Blk v b → b < lo) (hm : mid ≤ w.heap.size) : ∃ css, FillL base lo mid w v xs css 0 := by
  obtain ⟨css, h1, h2, h3⟩ := chunks A.sz xs.length L h.1
  exact ⟨css, h1, h2, by rw [h3]; exact h, hb, hm, fun _ _ => False, fun _ _ h => h.elim, fun _ _ _ _ h => h.elim, fun _ _ _ h => h, fun i h h2 hk => by omega⟩
/-- The cells of a row under way are there, none frozen. -/
theorem FillL.cell {α : Type} [A : Enc α] {base lo mid g c n : Nat} {w : World} {xs : List α} {css : List (List Value)} {k : Nat} (h : FillL base lo mid w (.slice (some ⟨g, 0, none⟩) n c) xs css k) (i j : Nat) (hi : i < xs.length) (hj : j < A.sz) : (∃ u, w.cell? ⟨g, i * A.sz + j, none⟩ = some u) ∧ w.frozen? ⟨g, i * A.sz + j, none⟩ = false := by
  obtain ⟨h1, h2, h3, h4, hm, R, h5, h6, h7, h8⟩ := h
  obtain rfl : n = xs.length := by
    rcases h3.2 with ⟨e, _⟩ | ⟨g', c', cur, e, _⟩
    · cases e
    · simp only [Value.slice.injEq] at e; exact e.2.1
  have hlt : i * A.sz + j < xs.length * A.sz := by
    have : (i + 1) * A.sz ≤ xs.length * A.sz := Nat.mul_le_mul_right _ hi
    rw [Nat.add_mul] at this; omega
  have hl := h3.1
  refine ⟨?_, h3.frozenAt _⟩
  rw [h3.cellAt _ (by omega), List.getElem?_eq_getElem (by omega)]
  exact ⟨_, rfl⟩
/-- One cell of the element that is being filled. -/
theorem FillL.put {α : Type} [A : Enc α] {base lo mid g c : Nat} {w : World} {xs : List α} {css : List (List Value)} {k n : Nat} (h : FillL base lo mid w (.slice (some ⟨g, 0, none⟩) n c) xs css k) (i j : Nat) (hi : i < css.length) (hk : k ≤ i) (hj : j < A.sz) (u : Value) :
    FillL base lo mid (w.setCell ⟨g, i * A.sz + j, none⟩ u) (.slice (some ⟨g, 0, none⟩) n c) xs (css.set i (css[i].set j u)) k := by
  obtain ⟨h1, h2, h3, h4, hm, R, h5, h6, h7, h8⟩ := h
  have hg : g < lo := h4 g rfl
  obtain rfl : n = xs.length := by
    rcases h3.2 with ⟨e, _⟩ | ⟨g', c', cur, e, _⟩
    · cases e
    · simp only [Value.slice.injEq] at e; exact e.2.1
  refine ⟨by simpa using h1, set_lens h2 i _ (by rw [List.length_set]; exact h2 _ (List.getElem_mem hi)), ?_, h4, by simpa [World.setCell] using hm, R, h5, h6, h7, fun q hq hq2 hqk => ?_⟩
  · rw [← flatten_set A.sz css h2 i hi j u hj]
    exact owns_put h3 _ _
  · have hne : i ≠ q := by omega
    rw [List.getElem_set_ne hne]
    refine A.own_keep (h8 q (by simpa using hq) hq2 hqk) fun b hr => ?_
    exact heap_setCell_other w _ b u (fun e => by have := (h5 q b hr).1; have e2 : b = g := e; omega)
theorem set_set_same {α : Type} (l : List α) (i : Nat) (a b : α) : (l.set i a).set i b = l.set i b := by simp
/-- All the element's cells, one after the other. -/
theorem FillL.puts {α : Type} [A : Enc α] {base lo mid g c n k : Nat} {xs : List α} (i : Nat) (hk : k ≤ i) : ∀ (vs : List Value) (w : World) (css : List (List Value)) (j : Nat) (pre : List Value), FillL base lo mid w (.slice (some ⟨g, 0, none⟩) n c) xs css k → (hi : i < css.length) → pre.length = j → j + vs.length = A.sz → css[i].take j = pre →
    FillL base lo mid (w.setCells g (i * A.sz + j) vs) (.slice (some ⟨g, 0, none⟩) n c) xs (css.set i (pre ++ vs)) k
  | [], w, css, j, pre, h, hi, hp, hj, ht => by
    have hl : css[i].length = A.sz := h.2.1 _ (List.getElem_mem hi)
    have e : css[i] = pre := by rw [← ht, List.take_of_length_le (by simp at hj; omega)]
    rw [List.append_nil, ← e, List.set_getElem_self]
    exact h
  | v :: vs, w, css, j, pre, h, hi, hp, hj, ht => by
    have hl : css[i].length = A.sz := h.2.1 _ (List.getElem_mem hi)
    have hjs : j < A.sz := by simp at hj; omega
    have h1 := h.put i j hi hk hjs v
    have h2 := FillL.puts i hk vs _ _ (j+1) (pre ++ [v]) h1 (by simpa using hi) (by simp [hp]) (by simp at hj; omega) (by
      rw [List.getElem_set_self, List.take_add_one, List.getElem?_set_self (by omega), Option.toList_some, List.take_set_of_le (Nat.le_refl j), ht])
    rw [set_set_same, List.append_assoc, List.singleton_append] at h2
    exact h2
theorem FillL.putAll {α : Type} [A : Enc α] {base lo mid g c n k : Nat} {xs : List α} {w : World} {css : List (List Value)} (h : FillL base lo mid w (.slice (some ⟨g, 0, none⟩) n c) xs css k) (i : Nat) (hk : k ≤ i) (hi : i < xs.length) (vs : List Value) (hv : vs.length = A.sz) :
    FillL base lo mid (w.setCells g (i * A.sz) vs) (.slice (some ⟨g, 0, none⟩) n c) xs (css.set i vs) k := by
  have := FillL.puts i hk vs w css 0 [] h (by have := h.1; omega) rfl (by omega) rfl
  simpa using this
theorem FillL.len {α : Type} [A : Enc α] {base lo mid : Nat} {w : World} {v : Value} {xs : List α} {css : List (List Value)} {k : Nat} (h : FillL base lo mid w v xs css k) : css.length = xs.length := h.1
/-- The element is full. -/
theorem FillL.next {α : Type} [A : Enc α] {base lo mid : Nat} {w : World} {v : Value} {xs : List α} {css : List (List Value)} {k a b : Nat} (h : FillL base lo mid w v xs css k) (hk : k < css.length) (hk2 : k < xs.length) (ha : mid ≤ a) (ha2 : lo ≤ a) (hab : a ≤ b) (hb : b ≤ w.heap.size) (hR : A.own (Rg a b) w css[k] xs[k]) : FillL base lo b w v xs css (k+1) := by
  obtain ⟨h1, h2, h3, h4, hm, R, h5, h6, h7, h8⟩ := h
  refine ⟨h1, h2, h3, h4, hb, fun i => if i = k then Rg a b else R i, fun i q hr => ?_, fun i j q hij hr hr2 => ?_, fun i hi q hr => ?_, fun i hi hi2 hik => ?_⟩
  · dsimp only at hr
    split at hr
    · exact ⟨Nat.le_trans ha2 hr.1, hr.2⟩
    · exact ⟨(h5 i q hr).1, by have := (h5 i q hr).2; omega⟩
  · dsimp only at hr hr2
    split at hr
    · split at hr2
      · omega
      · have := (h5 j q hr2).2; have := hr.1; omega
    · split at hr2
      · have := (h5 i q hr).2; have := hr2.1; omega
      · exact h6 i j q hij hr hr2
  · dsimp only at hr
    split at hr
    · omega
    · exact h7 i (by omega) q hr
  · dsimp only
    split
    · rename_i e; subst e; exact hR
    · exact h8 i hi hi2 (by omega)
/-- All are full: a list of the call's own. -/
theorem FillL.done {α : Type} [A : Enc α] {base lo mid : Nat} {w : World} {v : Value} {xs : List α} {css : List (List Value)} (h : FillL base lo mid w v xs css xs.length) (hbl : base ≤ lo) : ownL (Rg base w.heap.size) w v xs := by
  obtain ⟨h1, h2, h3, h4, hm, R, h5, h6, h7, h8⟩ := h
  refine ⟨v, css, R, rfl, h1, owns_base h3 (fun _ _ => Nat.zero_le _), fun k hk => owns_in h3 k hk, fun i k hr => ⟨⟨by have := (h5 i k hr).1; omega, by have := (h5 i k hr).2; omega⟩, fun e => ?_⟩, h6, fun i hi hi2 => h8 i hi hi2 (by omega)⟩
  have := h4 k e
  have := (h5 i k hr).1
  omega
/-- One cell of one element of a row. -/
theorem owns_cell {w : World} {base e sz n g c : Nat} {css : List (List Value)} (h : w.ownsRow base e sz (.slice (some ⟨g, 0, none⟩) n c) n css.flatten) (hc : ∀ d ∈ css, d.length = sz) (i j : Nat) (hi : i < css.length) (hj : j < sz) (u : Value) :
    (w.setCell ⟨g, i * sz + j, none⟩ u).ownsRow base e sz (.slice (some ⟨g, 0, none⟩) n c) n (css.set i (css[i].set j u)).flatten := by
  rw [← flatten_set sz css hc i hi j u hj]
  exact owns_put h _ _
/-- An owned list at one of its elements: its cells, its blocks, and what comes of it when the element is written. -/
theorem ownL_at {α : Type} [A : Enc α] {S : Nat → Prop} {w : World} {v : Value} {xs : List α} (h : ownL S w v xs) (i : Nat) (hi : i < xs.length) : ∃ (g cap : Nat) (css : List (List Value)) (Ri : Nat → Prop) (hic : i < css.length), v = .slice (some ⟨g, 0, none⟩) xs.length cap ∧ css.length = xs.length ∧ (∀ c ∈ css, c.length = A.sz) ∧ w.ownsRow 0 A.ty A.sz v xs.length css.flatten ∧ S g ∧ (∀ b, Ri b → S b ∧ b ≠ g) ∧ A.own Ri w css[i] xs[i] ∧
    ∀ (w' : World) (c' : List Value) (x' : α), w'.ownsRow 0 A.ty A.sz v xs.length (css.set i c').flatten → (∀ b, S b → b ≠ g → ¬ Ri b → w'.heap[b]? = w.heap[b]?) → A.own Ri w' c' x' → ownL S w' v (xs.set i x') := by
  obtain ⟨v', css, R, e, h1, h2, h3, h4, h5, h6⟩ := h
  obtain rfl : v = v' := by simpa using e
  obtain ⟨g, cap, rfl⟩ : ∃ g cap, v = .slice (some ⟨g, 0, none⟩) xs.length cap := by
    rcases h2.2 with ⟨_, e2⟩ | ⟨g, c2, cur, e1, _⟩
    · omega
    · exact ⟨g, c2, e1⟩
  refine ⟨g, cap, css, R i, by omega, rfl, h1, fun c hc => ?_, h2, h3 g rfl, fun b hb => ⟨(h4 i b hb).1, fun e => (h4 i b hb).2 (by subst e; rfl)⟩, h6 i (by omega) hi, fun w' c' x' r1 r2 r3 => ?_⟩
  · obtain ⟨q, hq, rfl⟩ := List.getElem_of_mem hc
    exact A.rds_len (A.own_rds (h6 q hq (by omega)))
  · refine ⟨_, css.set i c', R, rfl, by simp [h1], by rw [List.length_set]; exact r1, h3, h4, h5, fun q hq hq2 => ?_⟩
    by_cases e : i = q
    · subst e; rw [List.getElem_set_self, List.getElem_set_self]; exact r3
    · rw [List.getElem_set_ne e, List.getElem_set_ne e]
      refine A.own_keep (h6 q (by simpa using hq) (by simpa using hq2)) fun b hb => r2 b (h4 q b hb).1 (fun eg => (h4 q b hb).2 (by subst eg; rfl)) fun hb2 => h5 i q b e hb2 hb
theorem ownL_len {α : Type} [A : Enc α] {S : Nat → Prop} {w : World} {v : Value} {xs : List α} (h : ownL S w v xs) : ∃ a cap, v = .slice a xs.length cap ∧ xs.length ≤ cap ∧ cap ≤ 9223372036854775807 := by
  obtain ⟨a, cap, e, h1, h2, _⟩ := rdsL_open h.rds; exact ⟨a, cap, e, h1, h2⟩
end Go.Own
