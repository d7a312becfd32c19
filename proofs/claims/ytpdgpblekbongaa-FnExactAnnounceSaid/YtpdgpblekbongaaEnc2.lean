/- Lists of data in memory: opened, filled, marked. Of any program. -/
import Derived.Test.YtpdgpblekbongaaEnc
namespace Go.Own
set_option maxRecDepth 100000
open Go.RowKit
set_option linter.unusedVariables false
theorem flatten_len (sz : Nat) : ∀ (css : List (List Value)), (∀ c ∈ css, c.length = sz) → css.flatten.length = css.length * sz
  | [], _ => by simp
  | c :: css, h => by
    rw [List.flatten_cons, List.length_append, h c (by simp), flatten_len sz css (fun d hd => h d (by simp [hd])), List.length_cons, Nat.add_mul]; omega
theorem flatten_get (sz : Nat) : ∀ (css : List (List Value)), (∀ c ∈ css, c.length = sz) → ∀ (i : Nat) (h : i < css.length) (j : Nat), j < sz → css.flatten[i * sz + j]? = css[i][j]?
  | [], _, i, h, _, _ => by simp at h
  | c :: css, hc, 0, _, j, hj => by
    rw [List.flatten_cons, List.getElem?_append_left (by rw [hc c (by simp)]; omega)]
    simp
  | c :: css, hc, i+1, h, j, hj => by
    have e : (i + 1) * sz + j = c.length + (i * sz + j) := by rw [hc c (by simp), Nat.add_mul]; omega
    rw [List.flatten_cons, e, List.getElem?_append_right (by omega), show c.length + (i * sz + j) - c.length = i * sz + j by omega]
    exact flatten_get sz css (fun d hd => hc d (by simp [hd])) i (by simpa using h) j hj
theorem flatten_set (sz : Nat) : ∀ (css : List (List Value)), (∀ c ∈ css, c.length = sz) → ∀ (i : Nat) (h : i < css.length) (j : Nat) (u : Value), j < sz → css.flatten.set (i * sz + j) u = (css.set i (css[i].set j u)).flatten
  | [], _, i, h, _, _, _ => by simp at h
  | c :: css, hc, 0, _, j, u, hj => by
    have : c.length = sz := hc c (by simp)
    rw [List.flatten_cons, List.set_append_left _ _ (by omega)]
    simp
  | c :: css, hc, i+1, h, j, u, hj => by
    have e : (i + 1) * sz + j = c.length + (i * sz + j) := by rw [hc c (by simp), Nat.add_mul]; omega
    rw [List.flatten_cons, e, List.set_append_right _ _ (by omega), show c.length + (i * sz + j) - c.length = i * sz + j by omega]
    rw [flatten_set sz css (fun d hd => hc d (by simp [hd])) i (by simpa using h) j u hj]
    rfl
theorem set_lens {sz : Nat} {css : List (List Value)} (hc : ∀ c ∈ css, c.length = sz) (i : Nat) (d : List Value) (hd : d.length = sz) : ∀ c ∈ css.set i d, c.length = sz := by
  intro c h
  rcases List.mem_or_eq_of_mem_set h with h | rfl
  · exact hc c h
  · exact hd
/-- A list that is read, opened: where each element's cells lie. -/
theorem rdsL_open {α : Type} [A : Enc α] {w : World} {v : Value} {xs : List α} (h : rdsL w v xs) : ∃ a cap, v = .slice a xs.length cap ∧ xs.length ≤ cap ∧ cap ≤ 9223372036854775807 ∧
    ∀ i, (hi : i < xs.length) → ∃ b off cs, a = some ⟨b, off, none⟩ ∧ b < w.heap.size ∧ A.rds w cs xs[i] ∧ ∀ j, j < A.sz → w.cell? ⟨b, off + (i * A.sz + j), none⟩ = cs[j]? := by
  obtain ⟨v', css, e, hl, hf, he⟩ := h
  obtain rfl : v = v' := by simpa using e
  have hlen : ∀ c ∈ css, c.length = A.sz := fun c hc => by
    obtain ⟨i, hi, rfl⟩ := List.getElem_of_mem hc
    exact A.rds_len (he i hi (by omega))
  obtain ⟨a, cap, e2, h1, h2, h3⟩ := flat_cells hf
  refine ⟨a, cap, e2, h1, h2, fun i hi => ?_⟩
  obtain ⟨b, off, ha, hs, hc⟩ := h3 i hi
  refine ⟨b, off, css[i]'(by omega), ha, hs, he i (by omega) hi, fun j hj => ?_⟩
  rw [hc j hj, flatten_get A.sz css hlen i (by omega) j hj]
theorem rdsL.below {α : Type} [A : Enc α] {w w' : World} {v : Value} {xs : List α} (h : rdsL w v xs) (hb : Below w.heap.size w w') : rdsL w' v xs := (listEnc (A := A)).rds_below h hb
theorem ownL.rds {α : Type} [A : Enc α] {S : Nat → Prop} {w : World} {v : Value} {xs : List α} (h : ownL S w v xs) : rdsL w v xs := (listEnc (A := A)).own_rds h
theorem ownL.keep {α : Type} [A : Enc α] {S : Nat → Prop} {w w' : World} {v : Value} {xs : List α} (h : ownL S w v xs) (hk : ∀ k, S k → w'.heap[k]? = w.heap[k]?) : ownL S w' v xs := (listEnc (A := A)).own_keep h hk
theorem ownL.mono {α : Type} [A : Enc α] {S T : Nat → Prop} {w : World} {v : Value} {xs : List α} (h : ownL S w v xs) (hk : ∀ k, S k → T k) : ownL T w v xs := (listEnc (A := A)).own_mono h hk
/-- What lies below a step's bound stays. -/
theorem keep_rg {lo hi : Nat} {w w' : World} (hb : Below w.heap.size w w') (h : hi ≤ w.heap.size) : ∀ k, Rg lo hi k → w'.heap[k]? = w.heap[k]? := fun k hk => hb.block k (Nat.lt_of_lt_of_le hk.2 h)
theorem keep_chg {lo hi : Nat} {S : Nat → Prop} {w w' : World} (hb : ChgS S w w') (h : hi ≤ w.heap.size) (hs : ∀ k, Rg lo hi k → ¬ S k) : ∀ k, Rg lo hi k → w'.heap[k]? = w.heap[k]? := fun k hk => hb.block k (Nat.lt_of_lt_of_le hk.2 h) (hs k hk)
/-- A row under way: its cells element by element, those from k on not yet filled; each filled one a datum of the call's own, in blocks of its own from lo on, below mid. -/
def FillL {α : Type} [A : Enc α] (base lo mid : Nat) (w : World) (v : Value) (xs : List α) (css : List (List Value)) (k : Nat) : Prop :=
  css.length = xs.length ∧ (∀ c ∈ css, c.length = A.sz) ∧ w.ownsRow base A.ty A.sz v xs.length css.flatten ∧ (∀ b, Blk v b → b < lo) ∧ mid ≤ w.heap.size ∧
    ∃ R : Nat → Nat → Prop, (∀ i b, R i b → Rg lo mid b) ∧ (∀ i j b, i ≠ j → R i b → ¬ R j b) ∧ (∀ i, k ≤ i → ∀ b, ¬ R i b) ∧ ∀ i (h : i < css.length) (h2 : i < xs.length), i < k → A.own (R i) w css[i] xs[i]
theorem FillL.start {α : Type} [A : Enc α] {base lo mid : Nat} {w : World} {v : Value} {xs : List α} {z : List Value} (hz : z.length = A.sz) (h : w.ownsRow base A.ty A.sz v xs.length (List.replicate xs.length z).flatten) (hb : ∀ b, Blk v b → b < lo) (hm : mid ≤ w.heap.size) : FillL base lo mid w v xs (List.replicate xs.length z) 0 :=
  ⟨by simp, fun c hc => by rw [List.eq_of_mem_replicate hc]; exact hz, h, hb, hm, fun _ _ => False, fun _ _ h => h.elim, fun _ _ _ _ h => h.elim, fun _ _ _ h => h, fun i h h2 hk => by omega⟩
theorem FillL.below {α : Type} [A : Enc α] {base lo mid : Nat} {w w' : World} {v : Value} {xs : List α} {css : List (List Value)} {k : Nat} (h : FillL base lo mid w v xs css k) (hb : Below w.heap.size w w') : FillL base lo mid w' v xs css k := by
  obtain ⟨h1, h2, h3, h4, hm, R, h5, h6, h7, h8⟩ := h
  exact ⟨h1, h2, owns_below h3 hb, h4, Nat.le_trans hm hb.size, R, h5, h6, h7, fun i hi hi2 hk => A.own_keep (h8 i hi hi2 hk) fun b hr => hb.block b (Nat.lt_of_lt_of_le (h5 i b hr).2 hm)⟩
theorem chunks (sz : Nat) : ∀ (n : Nat) (L : List Value), L.length = n * sz → ∃ css : List (List Value), css.length = n ∧ (∀ c ∈ css, c.length = sz) ∧ css.flatten = L
  | 0, L, h => ⟨[], rfl, fun c hc => by simp at hc, by rw [Nat.zero_mul] at h; rw [List.eq_nil_of_length_eq_zero h]; rfl⟩
  | n+1, L, h => by
    rw [Nat.add_mul, Nat.one_mul] at h
    obtain ⟨css, h1, h2, h3⟩ := chunks sz n (L.drop sz) (by rw [List.length_drop]; omega)
    refine ⟨L.take sz :: css, by simp [h1], fun c hc => ?_, by rw [List.flatten_cons, h3, List.take_append_drop]⟩
    rcases List.mem_cons.1 hc with rfl | hc
    · rw [List.length_take]; omega
    · exact h2 c hc
theorem FillL.begin {α : Type} [A : Enc α] {base lo mid : Nat} {w : World} {v : Value} {xs : List α} {L : List Value} (h : w.ownsRow base A.ty A.sz v xs.length L) (hb : ∀ b, Blk v b → b < lo) (hm : mid ≤ w.heap.size) : ∃ css, FillL base lo mid w v xs css 0 := by
  obtain ⟨css, h1, h2, h3⟩ := chunks A.sz xs.length L h.1
  exact ⟨css, h1, h2, by rw [h3]; exact h, hb, hm, fun _ _ => False, fun _ _ h => h.elim, fun _ _ _ _ h => h.elim, fun _ _ _ h => h, fun i h h2 hk => by omega⟩
/-- The cells of a row under way are there, none frozen. -/
theorem FillL.cell {α : Type} [A : Enc α] {base lo mid g c n : Nat} {w : World} {xs : List α} {css : List (List Value)} {k : Nat} (h : FillL base lo mid w (.slice (some ⟨g, 0, none⟩) n c) xs css k) (i j : Nat) (hi : i < xs.length) (hj : j < A.sz) : (∃ u, w.cell? ⟨g, i * A.sz + j, none⟩ = some u) ∧ w.frozen? ⟨g, i * A.sz + j, none⟩ = false := by
  obtain ⟨h1, h2, h3, h4, hm, R, h5, h6, h7, h8⟩ := h
  obtain rfl : n = xs.length := by
    rcases h3.2 with ⟨e, _⟩ | ⟨g', c', cur, e, _⟩
    · cases e
    · simp only [Value.slice.injEq] at e; exact e.2.1
  have hlt : i * A.sz + j < xs.length * A.sz := by
    have : (i + 1) * A.sz ≤ xs.length * A.sz := Nat.mul_le_mul_right _ hi
    rw [Nat.add_mul] at this; omega
  have hl := h3.1
  refine ⟨?_, h3.frozenAt _⟩
  rw [h3.cellAt _ (by omega), List.getElem?_eq_getElem (by omega)]
  exact ⟨_, rfl⟩
/-- One cell of the element that is being filled. -/
theorem FillL.put {α : Type} [A : Enc α] {base lo mid g c : Nat} {w : World} {xs : List α} {css : List (List Value)} {k n : Nat} (h : FillL base lo mid w (.slice (some ⟨g, 0, none⟩) n c) xs css k) (i j : Nat) (hi : i < css.length) (hk : k ≤ i) (hj : j < A.sz) (u : Value) :
    FillL base lo mid (w.setCell ⟨g, i * A.sz + j, none⟩ u) (.slice (some ⟨g, 0, none⟩) n c) xs (css.set i (css[i].set j u)) k := by
  obtain ⟨h1, h2, h3, h4, hm, R, h5, h6, h7, h8⟩ := h
  have hg : g < lo := h4 g rfl
  obtain rfl : n = xs.length := by
    rcases h3.2 with ⟨e, _⟩ | ⟨g', c', cur, e, _⟩
    · cases e
    · simp only [Value.slice.injEq] at e; exact e.2.1
  refine ⟨by simpa using h1, set_lens h2 i _ (by rw [List.length_set]; exact h2 _ (List.getElem_mem hi)), ?_, h4, by simpa [World.setCell] using hm, R, h5, h6, h7, fun q hq hq2 hqk => ?_⟩
  · rw [← flatten_set A.sz css h2 i hi j u hj]
    exact owns_put h3 _ _
  · have hne : i ≠ q := by omega
    rw [List.getElem_set_ne hne]
    refine A.own_keep (h8 q (by simpa using hq) hq2 hqk) fun b hr => ?_
    exact heap_setCell_other w _ b u (fun e => by have := (h5 q b hr).1; have e2 : b = g := e; omega)
theorem set_set_same {α : Type} (l : List α) (i : Nat) (a b : α) : (l.set i a).set i b = l.set i b := by simp
/-- All the element's cells, one after the other. -/
theorem FillL.puts {α : Type} [A : Enc α] {base lo mid g c n k : Nat} {xs : List α} (i : Nat) (hk : k ≤ i) : ∀ (vs : List Value) (w : World) (css : List (List Value)) (j : Nat) (pre : List Value), FillL base lo mid w (.slice (some ⟨g, 0, none⟩) n c) xs css k → (hi : i < css.length) → pre.length = j → j + vs.length = A.sz → css[i].take j = pre →
    FillL base lo mid (w.setCells g (i * A.sz + j) vs) (.slice (some ⟨g, 0, none⟩) n c) xs (css.set i (pre ++ vs)) k
  | [], w, css, j, pre, h, hi, hp, hj, ht => by
    have hl : css[i].length = A.sz := h.2.1 _ (List.getElem_mem hi)
    have e : css[i] = pre := by rw [← ht, List.take_of_length_le (by simp at hj; omega)]
    rw [List.append_nil, ← e, List.set_getElem_self]
    exact h
  | v :: vs, w, css, j, pre, h, hi, hp, hj, ht => by
    have hl : css[i].length = A.sz := h.2.1 _ (List.getElem_mem hi)
    have hjs : j < A.sz := by simp at hj; omega
    have h1 := h.put i j hi hk hjs v
    have h2 := FillL.puts i hk vs _ _ (j+1) (pre ++ [v]) h1 (by simpa using hi) (by simp [hp]) (by simp at hj; omega) (by
      rw [List.getElem_set_self, List.take_add_one, List.getElem?_set_self (by omega), Option.toList_some, List.take_set_of_le (Nat.le_refl j), ht])
    rw [set_set_same, List.append_assoc, List.singleton_append] at h2
    exact h2
theorem FillL.putAll {α : Type} [A : Enc α] {base lo mid g c n k : Nat} {xs : List α} {w : World} {css : List (List Value)} (h : FillL base lo mid w (.slice (some ⟨g, 0, none⟩) n c) xs css k) (i : Nat) (hk : k ≤ i) (hi : i < xs.length) (vs : List Value) (hv : vs.length = A.sz) :
    FillL base lo mid (w.setCells g (i * A.sz) vs) (.slice (some ⟨g, 0, none⟩) n c) xs (css.set i vs) k := by
  have := FillL.puts i hk vs w css 0 [] h (by have := h.1; omega) rfl (by omega) rfl
  simpa using this
theorem FillL.len {α : Type} [A : Enc α] {base lo mid : Nat} {w : World} {v : Value} {xs : List α} {css : List (List Value)} {k : Nat} (h : FillL base lo mid w v xs css k) : css.length = xs.length := h.1
/-- The element is full. -/
theorem FillL.next {α : Type} [A : Enc α] {base lo mid : Nat} {w : World} {v : Value} {xs : List α} {css : List (List Value)} {k a b : Nat} (h : FillL base lo mid w v xs css k) (hk : k < css.length) (hk2 : k < xs.length) (ha : mid ≤ a) (ha2 : lo ≤ a) (hab : a ≤ b) (hb : b ≤ w.heap.size) (hR : A.own (Rg a b) w css[k] xs[k]) : FillL base lo b w v xs css (k+1) := by
  obtain ⟨h1, h2, h3, h4, hm, R, h5, h6, h7, h8⟩ := h
  refine ⟨h1, h2, h3, h4, hb, fun i => if i = k then Rg a b else R i, fun i q hr => ?_, fun i j q hij hr hr2 => ?_, fun i hi q hr => ?_, fun i hi hi2 hik => ?_⟩
  · dsimp only at hr
    split at hr
    · exact ⟨Nat.le_trans ha2 hr.1, hr.2⟩
    · exact ⟨(h5 i q hr).1, by have := (h5 i q hr).2; omega⟩
  · dsimp only at hr hr2
    split at hr
    · split at hr2
      · omega
      · have := (h5 j q hr2).2; have := hr.1; omega
    · split at hr2
      · have := (h5 i q hr).2; have := hr2.1; omega
      · exact h6 i j q hij hr hr2
  · dsimp only at hr
    split at hr
    · omega
    · exact h7 i (by omega) q hr
  · dsimp only
    split
    · rename_i e; subst e; exact hR
    · exact h8 i hi hi2 (by omega)
/-- All are full: a list of the call's own. -/
theorem FillL.done {α : Type} [A : Enc α] {base lo mid : Nat} {w : World} {v : Value} {xs : List α} {css : List (List Value)} (h : FillL base lo mid w v xs css xs.length) (hbl : base ≤ lo) : ownL (Rg base w.heap.size) w v xs := by
  obtain ⟨h1, h2, h3, h4, hm, R, h5, h6, h7, h8⟩ := h
  refine ⟨v, css, R, rfl, h1, owns_base h3 (fun _ _ => Nat.zero_le _), fun k hk => owns_in h3 k hk, fun i k hr => ⟨⟨by have := (h5 i k hr).1; omega, by have := (h5 i k hr).2; omega⟩, fun e => ?_⟩, h6, fun i hi hi2 => h8 i hi hi2 (by omega)⟩
  have := h4 k e
  have := (h5 i k hr).1
  omega
/-- One cell of one element of a row. -/
theorem owns_cell {w : World} {base e sz n g c : Nat} {css : List (List Value)} (h : w.ownsRow base e sz (.slice (some ⟨g, 0, none⟩) n c) n css.flatten) (hc : ∀ d ∈ css, d.length = sz) (i j : Nat) (hi : i < css.length) (hj : j < sz) (u : Value) :
    (w.setCell ⟨g, i * sz + j, none⟩ u).ownsRow base e sz (.slice (some ⟨g, 0, none⟩) n c) n (css.set i (css[i].set j u)).flatten := by
  rw [← flatten_set sz css hc i hi j u hj]
  exact owns_put h _ _
/-- An owned list at one of its elements: its cells, its blocks, and what comes of it when the element is written. -/
theorem ownL_at {α : Type} [A : Enc α] {S : Nat → Prop} {w : World} {v : Value} {xs : List α} (h : ownL S w v xs) (i : Nat) (hi : i < xs.length) : ∃ (g cap : Nat) (css : List (List Value)) (Ri : Nat → Prop) (hic : i < css.length), v = .slice (some ⟨g, 0, none⟩) xs.length cap ∧ css.length = xs.length ∧ (∀ c ∈ css, c.length = A.sz) ∧ w.ownsRow 0 A.ty A.sz v xs.length css.flatten ∧ S g ∧ (∀ b, Ri b → S b ∧ b ≠ g) ∧ A.own Ri w css[i] xs[i] ∧
    ∀ (w' : World) (c' : List Value) (x' : α), w'.ownsRow 0 A.ty A.sz v xs.length (css.set i c').flatten → (∀ b, S b → b ≠ g → ¬ Ri b → w'.heap[b]? = w.heap[b]?) → A.own Ri w' c' x' → ownL S w' v (xs.set i x') := by
  obtain ⟨v', css, R, e, h1, h2, h3, h4, h5, h6⟩ := h
  obtain rfl : v = v' := by simpa using e
  obtain ⟨g, cap, rfl⟩ : ∃ g cap, v = .slice (some ⟨g, 0, none⟩) xs.length cap := by
    rcases h2.2 with ⟨_, e2⟩ | ⟨g, c2, cur, e1, _⟩
    · omega
    · exact ⟨g, c2, e1⟩
  refine ⟨g, cap, css, R i, by omega, rfl, h1, fun c hc => ?_, h2, h3 g rfl, fun b hb => ⟨(h4 i b hb).1, fun e => (h4 i b hb).2 (by subst e; rfl)⟩, h6 i (by omega) hi, fun w' c' x' r1 r2 r3 => ?_⟩
  · obtain ⟨q, hq, rfl⟩ := List.getElem_of_mem hc
    exact A.rds_len (A.own_rds (h6 q hq (by omega)))
  · refine ⟨_, css.set i c', R, rfl, by simp [h1], by rw [List.length_set]; exact r1, h3, h4, h5, fun q hq hq2 => ?_⟩
    by_cases e : i = q
    · subst e; rw [List.getElem_set_self, List.getElem_set_self]; exact r3
    · rw [List.getElem_set_ne e, List.getElem_set_ne e]
      refine A.own_keep (h6 q (by simpa using hq) (by simpa using hq2)) fun b hb => r2 b (h4 q b hb).1 (fun eg => (h4 q b hb).2 (by subst eg; rfl)) fun hb2 => h5 i q b e hb2 hb
theorem ownL_len {α : Type} [A : Enc α] {S : Nat → Prop} {w : World} {v : Value} {xs : List α} (h : ownL S w v xs) : ∃ a cap, v = .slice a xs.length cap ∧ xs.length ≤ cap ∧ cap ≤ 9223372036854775807 := by
  obtain ⟨a, cap, e, h1, h2, _⟩ := rdsL_open h.rds; exact ⟨a, cap, e, h1, h2⟩
end Go.Own
