/- Chapter 16: a set of the call's own: one bucket changed, one bucket more. -/
import Derived.Test.YtdgmbcmgjadoiaaN16
import Derived.Test.YtdgmbcmgjadoiaaEnc5
namespace Go.Proofs.Ytdgmbcmgjadoiaa
set_option maxRecDepth 100000
open Go.RowKit Go.Proofs Go.Own
set_option linter.unusedVariables false
set_option linter.unusedSimpArgs false
/-- A set of the call's own at one of its buckets, and what comes of it when the bucket is changed, or another one laid in its place. -/
theorem rows_at {S : Nat → Prop} {w : World} {v : Value} {s : List RowD} (h : ownL S w v s) (hS : ∀ b, S b → b < w.heap.size) (i : Nat) (hi : i < s.length) : ∃ (g cap : Nat) (u : Value) (Ri : Nat → Prop) (ys : List Int), s[i].xs_ = ys ∧ v = .slice (some ⟨g, 0, none⟩) s.length cap ∧ S g ∧ w.cell? ⟨g, i, none⟩ = some u ∧ w.frozen? ⟨g, i, none⟩ = false ∧ ownL Ri w u ys ∧ (∀ b, Ri b → S b ∧ b ≠ g) ∧
    (∀ w2, ChgS Ri w w2 → (∃ y, w2.cell? ⟨g, i, none⟩ = some y) ∧ w2.frozen? ⟨g, i, none⟩ = false) ∧
    ∀ (w2 : World) (u' : Value) (x : RowD) (T : Nat → Prop), ChgS Ri w w2 → ownL T w2 u' x.xs_ → (∀ b, T b → Ri b ∨ w.heap.size ≤ b) → ownL (fun b => S b ∨ T b) (w2.setCell ⟨g, i, none⟩ u') v (s.set i x) := by
  obtain ⟨v', css, R, e, h1, h2, h3, h4, h5, h6⟩ := h
  obtain rfl : v = v' := by simpa using e
  obtain ⟨g, cap, rfl⟩ : ∃ g cap, v = .slice (some ⟨g, 0, none⟩) s.length cap := by
    rcases h2.2 with ⟨_, e2⟩ | ⟨g, c2, cur, e1, _⟩
    · omega
    · exact ⟨g, c2, e1⟩
  have hcs : ∀ c ∈ css, c.length = 1 := fun c hc => by
    obtain ⟨q, hq, rfl⟩ := List.getElem_of_mem hc
    exact encRow.rds_len (encRow.own_rds (h6 q hq (by omega)))
  have hic : i < css.length := by omega
  obtain ⟨u, hu, hE⟩ := h6 i hic hi
  have hSg : S g := h3 g rfl
  have hgl := hS g hSg
  have hc0 : w.cell? ⟨g, i, none⟩ = some u := by
    have z := h2.cellAt i (by show i < s.length * 1; omega)
    rw [z]
    have y := flatten_get 1 css hcs i hic 0 (by omega)
    rw [show i * 1 + 0 = i by omega, hu] at y
    exact y
  have hgk : ∀ w2, ChgS (R i) w w2 → w2.heap[g]? = w.heap[g]? := fun w2 C => C.block g hgl (fun hr => (h4 i g hr).2 rfl)
  refine ⟨g, cap, u, R i, s[i].xs_, rfl, rfl, hSg, hc0, h2.frozenAt _, hE, fun b hb => ⟨(h4 i b hb).1, fun e => (h4 i b hb).2 (by subst e; rfl)⟩, fun w2 C => ⟨⟨u, by rw [cell_same (hgk w2 C)]; exact hc0⟩, by rw [frozen_same (hgk w2 C)]; exact h2.frozenAt _⟩, fun w2 u' x T C oT hT => ?_⟩
  have h2' := owns_same h2 (fun k hk => by obtain rfl : g = k := Option.some.inj hk; exact hgk w2 C)
  have hrow := owns_cell (css := css) h2' hcs i 0 hic (by show 0 < 1; omega) u'
  rw [show i * encRow.sz + 0 = i by show i * 1 + 0 = i; omega, hu] at hrow
  have hTg : ∀ b, T b → b ≠ g := fun b hb e => by
    subst e
    rcases hT b hb with h9 | h9
    · exact (h4 i b h9).2 rfl
    · omega
  refine ⟨_, css.set i [u'], fun j b => if j = i then T b else R j b, rfl, by simp [h1], by rw [List.length_set]; exact hrow, fun k hk => .inl (h3 k hk), ?_, ?_, ?_⟩
  · intro j b hb
    split at hb
    · exact ⟨.inr hb, fun e => hTg b hb (by obtain rfl : g = b := Option.some.inj e; rfl)⟩
    · exact ⟨.inl (h4 j b hb).1, (h4 j b hb).2⟩
  · intro j l b hne hj hl
    split at hj
    · rename_i ej
      rw [if_neg (by omega)] at hl
      rcases hT b hj with h9 | h9
      · exact h5 i l b (by omega) h9 hl
      · have := hS b (h4 l b hl).1; omega
    · split at hl
      · rename_i el
        rcases hT b hl with h9 | h9
        · exact h5 i j b (by omega) h9 hj
        · have := hS b (h4 j b hj).1; omega
      · exact h5 j l b hne hj hl
  · intro q hq hq2
    dsimp only
    by_cases e : i = q
    · subst e
      simp only [List.getElem_set_self, if_true]
      exact ⟨u', rfl, oT.keep fun b hb => heap_setCell_other _ _ b _ (hTg b hb)⟩
    · simp only [List.getElem_set_ne e, if_neg (show ¬ q = i from fun e2 => e e2.symm)]
      refine encRow.own_keep (h6 q (by simpa using hq) (by simpa using hq2)) fun b hb => ?_
      have hbg : b ≠ g := fun e9 => (h4 q b hb).2 (by subst e9; rfl)
      rw [heap_setCell_other _ _ b _ hbg]
      exact C.block b (hS b (h4 q b hb).1) fun hr => h5 i q b e hr hb
/-- A list of the call's own, appended to by one datum that lies as a literal. -/
theorem append_row {α : Type} [A : Enc α] {lo : Nat} {T5 : Nat → Prop} {V w5 : World} {v : Value} {xs : List α} {x : α} {c : List Value}
    (OD : ownL (Rg lo V.heap.size) V v xs) (hlo : lo ≤ V.heap.size) (b5 : Below V.heap.size V w5) (o5 : A.own T5 w5 c x) (hT : ∀ b, T5 b → V.heap.size ≤ b ∧ b < w5.heap.size) :
    ∃ css : List (List Value), (w5.alloc (.cells c.toArray A.ty)).ownsRow 0 A.ty A.sz v xs.length css.flatten ∧ Flat (w5.alloc (.cells c.toArray A.ty)) (.slice (some ⟨w5.heap.size, 0, none⟩) 1 1) 1 A.sz c ∧
    ∀ v8 w8, w8.ownsRow 0 A.ty A.sz v8 (xs.length + 1) (css.flatten ++ c) → (w5.alloc (.cells c.toArray A.ty)).grownBy w8 v.ownBlock → (∀ k, v8.ownBlock = some k → v.ownBlock = some k ∨ k = (w5.alloc (.cells c.toArray A.ty)).heap.size) →
    ∃ ya yc, v8 = .slice ya (xs.length + 1) yc ∧ ownL (Rg lo w8.heap.size) w8 v8 (xs ++ [x]) ∧ Below lo V w8 ∧ V.heap.size ≤ w8.heap.size := by
  have hs5 := b5.size
  obtain ⟨L5, hL5⟩ : ∃ X, w5.alloc (.cells c.toArray A.ty) = X := ⟨_, rfl⟩
  have b5L : Below w5.heap.size w5 L5 := by rw [← hL5]; exact (Below.refl _ _).alloc (Nat.le_refl _) _
  have hsL : L5.heap.size = w5.heap.size + 1 := by rw [← hL5]; simp
  have bVL : Below V.heap.size V L5 := b5.trans (b5L.mono hs5)
  obtain ⟨css, hown, hblk, hsn⟩ := ownL_snoc (OD.keep fun b hb => bVL.block b hb.2)
  have hcl : c.length = A.sz := A.rds_len (A.own_rds o5)
  rw [hL5]
  refine ⟨css, hown, ?_, fun v8 w8 o8 g8 p8 => ?_⟩
  · rw [← hL5]
    have := Flat.of_owns (owns_litN w5 A.ty A.sz 1 c.toArray 0 (Nat.zero_le _) (by simpa using hcl) (by decide))
    simpa using this
  obtain ⟨ya, yc, rfl, _, _⟩ := owns_form o8
  have hs8 := g8.size
  have cV8 : ChgS (Rg lo V.heap.size) V w8 := (ChgS.of_below bVL _).trans (ChgS.of_grown g8 fun b e => hblk b e)
  have OT8 : A.own T5 w8 c x := A.own_keep o5 fun b hb => by
    have h1 := hT b hb
    rw [g8.block b (by omega) (fun e => by have := (hblk b e.symm).2; omega), b5L.block b h1.2]
  have P8 : ∀ b, Blk (Value.slice ya (xs.length + 1) yc) b → Rg lo V.heap.size b ∨ b = w5.heap.size + 1 := fun b hb => (p8 b hb).imp (hblk b) (fun e => by omega)
  have O8 := hsn w8 (Value.slice ya (xs.length + 1) yc) c x T5 o8 (fun b hb => (p8 b hb).imp id fun e h => by have := h.2; omega) (fun b hb hn => g8.block b (by have := hb.2; omega) (fun e => hn e.symm)) OT8
    (fun b hb => ⟨fun h => by have := h.2; have := (hT b hb).1; omega, fun h => (P8 b h).elim (fun h9 => by have := h9.2; have := (hT b hb).1; omega) (fun h9 => by have := (hT b hb).2; omega)⟩)
  refine ⟨ya, yc, rfl, O8.mono fun b hb => ?_, cV8.below hlo fun k hk => hk.1, by omega⟩
  rcases hb with h | h | h
  · exact ⟨h.1, by have := h.2; omega⟩
  · have h1 := hT b h
    exact ⟨by omega, by omega⟩
  · have hlt := (owns_in o8 b h).2
    rcases P8 b h with h9 | h9
    · exact ⟨h9.1, hlt⟩
    · exact ⟨by omega, hlt⟩
/-- No element: a literal. -/
theorem ownL_none {α : Type} [A : Enc α] (w : World) : ownL (α := α) (Rg w.heap.size (w.alloc (.cells #[] A.ty)).heap.size) (w.alloc (.cells #[] A.ty)) (.slice (some ⟨w.heap.size, 0, none⟩) 0 0) [] :=
  ⟨_, [], fun _ _ => False, rfl, rfl, by have h1 := owns_litN w A.ty A.sz 0 #[] 0 (Nat.zero_le _) (by simp) (Nat.zero_le _); exact h1, fun k hk => by obtain rfl : w.heap.size = k := Option.some.inj hk; exact ⟨Nat.le_refl _, by simp⟩, fun _ _ h => h.elim, fun _ _ _ _ h => h.elim, fun i hi => by simp at hi⟩
/-- Buckets as they are made. -/
theorem rows_zero {w : World} {base n cap : Nat} {a : Option Addr} (h : w.ownsRow base 22 1 (.slice a n cap) n (List.replicate n (.slice none 0 0))) : ownL (Rg base w.heap.size) w (.slice a n cap) (emptyS n) := by
  have hl : (emptyS n).length = n := by simp [emptyS]
  refine ⟨_, List.replicate n [.slice none 0 0], fun _ _ => False, rfl, by simp [hl], ?_, fun k hk => owns_in h k hk, fun _ _ h => h.elim, fun _ _ _ _ h => h.elim, fun i h1 h2 => ?_⟩
  · rw [hl]
    have e : (List.replicate n [Value.slice none 0 0]).flatten = List.replicate n (Value.slice none 0 0) := by
      clear h hl
      induction n with
      | zero => rfl
      | succ n ih => rw [List.replicate_succ, List.flatten_cons, ih, List.replicate_succ]; rfl
    rw [e]
    exact owns_base h (fun _ _ => Nat.zero_le _)
  · have e1 : (emptyS n)[i] = ⟨[]⟩ := by simp [emptyS]
    have e2 : (List.replicate n [Value.slice none 0 0])[i] = [Value.slice none 0 0] := by simp
    rw [e1, e2]
    exact ⟨_, rfl, ownL_nil _ _⟩
theorem allL_len (s : List RowD) : (allL s).length = pSum s := by
  unfold allL pSum
  rw [List.length_flatMap]
theorem bkt_len_le (s : List RowD) (i : Nat) (hi : i < s.length) : s[i].xs_.length ≤ (allL s).length := by
  rw [allL_len]; exact pSum_at s i hi
theorem fold_bkt_le {m : Nat} (hm : 0 < m) (pre : List Int) (p : Nat) (hp : p < (foldPut (emptyS m) pre).length) : (foldPut (emptyS m) pre)[p].xs_.length ≤ pre.length := by
  have h1 := bkt_len_le _ p hp
  have h2 := (foldPut_perm pre (emptyS m) (by simp [emptyS]; exact hm)).length_eq
  rw [emptyS_all, List.append_nil] at h2
  omega
theorem allL_take (s : List RowD) (k : Nat) (h : k < s.length) : allL (s.take (k+1)) = allL (s.take k) ++ s[k].xs_ := by
  unfold allL
  rw [List.take_succ_eq_append_getElem h, List.flatMap_append]; simp
theorem allL_take_len (s : List RowD) (k i : Nat) (h : k < s.length) (hi : i ≤ s[k].xs_.length) : (allL (s.take k) ++ s[k].xs_.take i).length ≤ (allL s).length := by
  have e := pSum_take s k h
  have e2 := pSum_take_le s (k+1)
  rw [List.length_append, allL_len, allL_len, List.length_take]; omega
theorem putAt_set (s : List RowD) (x : Int) (p : Nat) (hp : p < s.length) (e : plc x s.length = p) : putAt s x = s.set p ⟨putL s[p].xs_ x⟩ := by
  subst e
  unfold putAt
  apply List.ext_getElem?
  intro j
  rw [List.getElem?_modify, List.getElem?_set]
  by_cases e : plc x s.length = j
  · subst e; simp [hp]
  · simp [e]
theorem take_snocR {α : Type} (xs : List α) (k : Nat) (h : k < xs.length) : xs.take k ++ [xs[k]] = xs.take (k+1) := by rw [List.take_append_getElem h]
end Go.Proofs.Ytdgmbcmgjadoiaa
