/- A store of the call's own, written: a head's cell, a descriptor's status. -/
import Derived.Test.YtbbdchlabdilcaaGreatM7
import Derived.Test.YtbbdchlabdilcaaGreatM13
import Derived.Test.YtbbdchlabdilcaaGreatI12
import Derived.StillTailTactics
namespace Go.Proofs.YtbbdchlabdilcaaGreat
set_option maxRecDepth 100000
open Go.RowKit Go.Proofs Go.Own
set_option linter.unusedVariables false
theorem flat_set {α : Type} (f : α → List Value) (sz : Nat) (hsz : ∀ x, (f x).length = sz) : ∀ (xs : List α) (i : Nat) (h : i < xs.length) (j : Nat) (u : Value) (x' : α), j < sz → f x' = (f xs[i]).set j u → (xs.flatMap f).set (i * sz + j) u = (xs.set i x').flatMap f
  | [], i, h, _, _, _, _, _ => by simp at h
  | x :: xs, 0, h, j, u, x', hj, he => by
    simp only [List.getElem_cons_zero] at he
    rw [List.set_cons_zero, List.flatMap_cons, List.flatMap_cons, he, Nat.zero_mul, Nat.zero_add, List.set_append_left _ _ (by rw [hsz]; exact hj)]
  | x :: xs, i+1, h, j, u, x', hj, he => by
    simp only [List.getElem_cons_succ] at he
    have e : (i + 1) * sz + j = (f x).length + (i * sz + j) := by rw [hsz, Nat.add_mul]; omega
    rw [List.set_cons_succ, List.flatMap_cons, List.flatMap_cons, e, List.set_append_right _ _ (by omega), show (f x).length + (i * sz + j) - (f x).length = i * sz + j by omega]
    rw [flat_set f sz hsz xs i (by simpa using h) j u x' hj he]
theorem own_head {S : Nat → Prop} {w : World} {v : Value} {hs : List Head} (h : ownL S w v hs) (i : Nat) (hi : i < hs.length) : ∃ g cap, v = .slice (some ⟨g, 0, none⟩) hs.length cap ∧ S g ∧ g < w.heap.size ∧
    w.cell? ⟨g, i * 3, none⟩ = some (.int .i64 hs[i].value_) ∧ w.cell? ⟨g, i * 3 + 1, none⟩ = some (.int .i64 hs[i].version_) ∧ w.cell? ⟨g, i * 3 + 2, none⟩ = some (.int .i64 hs[i].desc_) ∧ (∀ j, w.frozen? ⟨g, j, none⟩ = false) := by
  obtain ⟨o, hb⟩ := ownHeads.1 h
  obtain ⟨g, cap, rfl⟩ : ∃ g cap, v = .slice (some ⟨g, 0, none⟩) hs.length cap := by
    rcases o.2 with ⟨_, e2⟩ | ⟨g, c2, cur, e1, _⟩
    · omega
    · exact ⟨g, c2, e1⟩
  have c : ∀ j, j < 3 → w.cell? ⟨g, i * 3 + j, none⟩ = (Head.enc hs[i])[j]? := fun j hj => by
    rw [o.cellAt (i * 3 + j) (by omega), flatMap_get Head.enc 3 (fun _ => rfl) hs i hi j hj]
  exact ⟨g, cap, rfl, hb g rfl, (owns_lt o).2, c 0 (by omega), c 1 (by omega), c 2 (by omega), fun j => World.ownsRow.frozenAt o j⟩
theorem own_head_set {S : Nat → Prop} {w : World} {g cap n : Nat} {hs : List Head} (h : ownL S w (.slice (some ⟨g, 0, none⟩) n cap) hs) (i : Nat) (hi : i < hs.length) (j : Nat) (hj : j < 3) (u : Value) (h' : Head) (he : Head.enc h' = (Head.enc hs[i]).set j u) : ownL S (w.setCell ⟨g, i * 3 + j, none⟩ u) (.slice (some ⟨g, 0, none⟩) n cap) (hs.set i h') := by
  obtain ⟨o, hb⟩ := ownHeads.1 h
  have hn : n = hs.length := by
    obtain ⟨a, c, e, _, _⟩ := ownL_len h
    have h9 := congrArg (fun v => match v with | Value.slice _ n _ => n | _ => 0) e
    simpa using h9
  subst hn
  refine ownHeads.2 ⟨?_, hb⟩
  rw [List.length_set, ← flat_set Head.enc 3 (fun _ => rfl) hs i hi j u h' hj he]
  exact owns_put o _ _
theorem own_desc {S : Nat → Prop} {w : World} {v : Value} {ds : List DescD} (h : ownL S w v ds) (k : Nat) (hk : k < ds.length) : ∃ g cap v2, v = .slice (some ⟨g, 0, none⟩) ds.length cap ∧ S g ∧ g < w.heap.size ∧
    w.cell? ⟨g, k * 3, none⟩ = some (.int .i64 ds[k].owner_) ∧ w.cell? ⟨g, k * 3 + 1, none⟩ = some (.int .i64 ds[k].status_) ∧ w.cell? ⟨g, k * 3 + 2, none⟩ = some v2 ∧ rdsL w v2 ds[k].entries_ ∧ (∀ j, w.frozen? ⟨g, j, none⟩ = false) ∧
    ∀ st : Int, ownL S (w.setCell ⟨g, k * 3 + 1, none⟩ (.int .i64 st)) v (ds.set k ⟨ds[k].owner_, st, ds[k].entries_⟩) := by
  obtain ⟨g, cap, css, Ri, hic, rfl, h1, h2, h3, h4, h5, ⟨v2, h6, h6b⟩, h7⟩ := ownL_at h k hk
  have c : ∀ j, j < 3 → w.cell? ⟨g, k * 3 + j, none⟩ = css[k][j]? := fun j hj => by
    have hl := flatten_len 3 css h2
    have e9 : k * 3 + j < css.flatten.length := by rw [hl]; omega
    have o9 : w.ownsRow 0 54 3 (.slice (some ⟨g, 0, none⟩) ds.length cap) ds.length css.flatten := h3
    rw [o9.cellAt (k * 3 + j) (by omega), flatten_get 3 css h2 k hic j hj]
  rw [h6] at c
  refine ⟨g, cap, v2, rfl, h4, (owns_lt h3).2, c 0 (by omega), c 1 (by omega), c 2 (by omega), ownL.rds h6b, fun j => World.ownsRow.frozenAt h3 j, fun st => ?_⟩
  refine h7 _ (css[k].set 1 (.int .i64 st)) _ (owns_cell h3 h2 k 1 hic (show 1 < 3 by omega) _) (fun b _ hb _ => heap_setCell_other _ _ b _ (by show b ≠ g; exact hb)) ⟨v2, by rw [h6]; rfl, h6b.keep fun b hb => heap_setCell_other _ _ b _ (by show b ≠ g; exact (h5 b hb).2)⟩
theorem own_desc_set {S : Nat → Prop} {w : World} {g cap n : Nat} {ds : List DescD} (h : ownL S w (.slice (some ⟨g, 0, none⟩) n cap) ds) (k : Nat) (hk : k < ds.length) (st : Int) (x : DescD) (hx : x = ⟨ds[k].owner_, st, ds[k].entries_⟩) : ownL S (w.setCell ⟨g, k * 3 + 1, none⟩ (.int .i64 st)) (.slice (some ⟨g, 0, none⟩) n cap) (ds.set k x) := by
  obtain ⟨g', cap', v2, e, -, -, -, -, -, -, -, hs⟩ := own_desc h k hk
  have e1 : g = g' := by simp only [Value.slice.injEq, Option.some.injEq, Addr.mk.injEq, and_true, true_and] at e; exact e.1
  subst e1 hx
  exact hs st
end Go.Proofs.YtbbdchlabdilcaaGreat
/- Chapter 12's program: what a thread has opened, in memory. -/
namespace Go.Proofs.YtbbdchlabdilcaaGreat
set_option maxRecDepth 100000
open Go.RowKit Go.Proofs Go.Own Go.Ord
open Go Go.BigFrame
set_option linter.unusedVariables false
set_option linter.unusedSimpArgs false
theorem flat_chg {S : Nat → Prop} {w w' : World} {v : Value} {n sz : Nat} {cs : List Value} (h : Flat w v n sz cs) (C : ChgS S w w') (hS : ∀ b, v.ownBlock = some b → ¬ S b) : Flat w' v n sz cs := by
  obtain ⟨hl, a, cap, rfl, h1, h2, h0, h3⟩ := h
  refine ⟨hl, a, cap, rfl, h1, h2, h0, ?_⟩
  rcases h3 with h3 | ⟨b, off, rfl, hs, hc⟩
  · exact .inl h3
  · exact .inr ⟨b, off, rfl, Nat.lt_of_lt_of_le hs C.size, fun j hj => (cell_chg C hs (hS b rfl)).trans (hc j hj)⟩
/-- A block of 17 cells. -/
structure B17 where
  val : List Value
  len : val.length = 17
def B17.put (b : B17) (k : Nat) (v : Value) : B17 := ⟨b.1.set k v, by rw [List.length_set]; exact b.2⟩
theorem b17_set (L : List B17) (j : Nat) (hj : j < L.length) (k : Nat) (hk : k < 17) (v : Value) : (L.flatMap B17.val).set (j * 17 + k) v = (L.set j (L[j].put k v)).flatMap B17.val :=
  flat_set B17.val 17 (fun x => x.2) L j hj k v (L[j].put k v) hk rfl
theorem b17_get (L : List B17) (j : Nat) (hj : j < L.length) (k : Nat) (hk : k < 17) : (L.flatMap B17.val)[j * 17 + k]? = L[j].1[k]? := flatMap_get B17.val 17 (fun x => x.2) L j hj k hk
theorem b17_len (L : List B17) : (L.flatMap B17.val).length = L.length * 17 := flatMap_len B17.val 17 (fun x => x.2) L
/-- A write into block j of a row, by itself. -/
theorem b17_put {w : World} {base e T g c : Nat} {L : List B17} (hT : L.length = T) (h : w.ownsRow base e 17 (.slice (some ⟨g, 0, none⟩) T c) T (L.flatMap B17.val)) (j : Nat) (hj : j < L.length) (k : Nat) (hk : k < 17) (v : Value) :
    (w.setCell ⟨g, j * 17 + k, none⟩ v).ownsRow base e 17 (.slice (some ⟨g, 0, none⟩) T c) T ((L.set j (L[j].put k v)).flatMap B17.val) := by
  have z := owns_put h (j * 17 + k) v
  rw [b17_set L j hj k hk v] at z
  exact z
theorem b17_puts {w : World} {base e T g c : Nat} {L : List B17} (hT : L.length = T) (j : Nat) (hj : j < L.length) (b : B17) (h : w.ownsRow base e 17 (.slice (some ⟨g, 0, none⟩) T c) T ((L.set j b).flatMap B17.val)) (k : Nat) (hk : k < 17) (v : Value) :
    (w.setCell ⟨g, j * 17 + k, none⟩ v).ownsRow base e 17 (.slice (some ⟨g, 0, none⟩) T c) T ((L.set j (b.put k v)).flatMap B17.val) := by
  have z := b17_put (by rw [List.length_set]; exact hT) h j (by rw [List.length_set]; exact hj) k hk v
  rw [List.set_set, List.getElem_set_self] at z
  exact z
theorem b17_cell {w : World} {base e T g c : Nat} {L : List B17} (hT : L.length = T) (h : w.ownsRow base e 17 (.slice (some ⟨g, 0, none⟩) T c) T (L.flatMap B17.val)) (j : Nat) (hj : j < L.length) (k : Nat) (hk : k < 17) (v : Value) (hv : L[j].1[k]? = some v) : w.cell? ⟨g, j * 17 + k, none⟩ = some v := by
  have hx : j * 17 + k < T * 17 := by omega
  rw [h.cellAt (j * 17 + k) hx, b17_get L j hj k hk, hv]
def encA (a : AttD) (u : Value) : List Value := [.bool (a.op.getD 0 false), .bool (a.op.getD 1 false), .bool (a.op.getD 2 false), .bool (a.op.getD 3 false), .bool (a.op.getD 4 false), .bool (a.op.getD 5 false), .bool (a.op.getD 6 false), .bool (a.op.getD 7 false), .int .i64 (a.to.getD 0 0), .int .i64 (a.to.getD 1 0), .int .i64 (a.to.getD 2 0), .int .i64 (a.to.getD 3 0), .int .i64 (a.to.getD 4 0), .int .i64 (a.to.getD 5 0), .int .i64 (a.to.getD 6 0), .int .i64 (a.to.getD 7 0), u]
theorem encA_op (a : AttD) (u : Value) (o : Nat) (ho : o < 8) : (encA a u)[o]? = some (.bool (a.op.getD o false)) := by
  have : o = 0 ∨ o = 1 ∨ o = 2 ∨ o = 3 ∨ o = 4 ∨ o = 5 ∨ o = 6 ∨ o = 7 := by omega
  rcases this with rfl | rfl | rfl | rfl | rfl | rfl | rfl | rfl <;> rfl
theorem encA_to (a : AttD) (u : Value) (o : Nat) (ho : o < 8) : (encA a u)[8 + o]? = some (.int .i64 (a.to.getD o 0)) := by
  have : o = 0 ∨ o = 1 ∨ o = 2 ∨ o = 3 ∨ o = 4 ∨ o = 5 ∨ o = 6 ∨ o = 7 := by omega
  rcases this with rfl | rfl | rfl | rfl | rfl | rfl | rfl | rfl <;> rfl
theorem eight {α : Type} {l : List α} (h : l.length = 8) : ∃ a b c d e f g i, l = [a, b, c, d, e, f, g, i] := by
  match l, h with
  | [a, b, c, d, e, f, g, i], _ => exact ⟨a, b, c, d, e, f, g, i, rfl⟩
theorem encA_open (a : AttD) (u u' : Value) (o : Nat) (v : Int) (st : List Int) (h1 : a.op.length = 8) (h2 : a.to.length = 8) (ho : o < 8) : (((encA a u).set o (.bool true)).set (8 + o) (.int .i64 v)).set 16 u' = encA (attO a o v st) u' := by
  obtain ⟨op, to, th⟩ := a
  obtain ⟨a0, a1, a2, a3, a4, a5, a6, a7, rfl⟩ := eight h1
  obtain ⟨b0, b1, b2, b3, b4, b5, b6, b7, rfl⟩ := eight h2
  have : o = 0 ∨ o = 1 ∨ o = 2 ∨ o = 3 ∨ o = 4 ∨ o = 5 ∨ o = 6 ∨ o = 7 := by omega
  rcases this with rfl | rfl | rfl | rfl | rfl | rfl | rfl | rfl <;> rfl
theorem att_lens {fs : List Int} {ds : List DescD} {lg : List Event} {th : Int} : ∀ p, (attN fs ds lg th p).op.length = 8 ∧ (attN fs ds lg th p).to.length = 8
  | 0 => ⟨rfl, rfl⟩
  | p+1 => by
    have ih := att_lens (fs := fs) (ds := ds) (lg := lg) (th := th) p
    unfold attN
    split
    · split
      · unfold attE
        split
        · unfold attO; simpa using ih
        · split
          · exact ⟨rfl, rfl⟩
          · exact ih
      · exact ih
    · exact ih
set_option maxHeartbeats 8000000 in
theorem impl_open0 (L : List B17) (T j base ga cap : Nat) (hT : L.length = T) (hj : j < T) (kd th va : Int) (o : Nat) (ho : o < 8) (vs : List Int) (v : Value) (w : World)
    (hrow : w.ownsRow base 111 17 (.slice (some ⟨ga, 0, none⟩) T cap) T (L.flatMap B17.val)) (r : Ints w v vs) (hvl : vs.length ≤ 8) (hvb : ∀ b, v.ownBlock = some b → ¬ b = ga)
    (c0 : ∃ b, L[j].1[o]? = some (.bool b)) (c1 : ∃ x, L[j].1[8 + o]? = some (.int .i64 x)) (c2 : ∃ x : Value, L[j].1[16]? = some x) :
    Calls Tryz.prog 65 #[.pointer (some ⟨ga, j * 17, none⟩), .agg #[.int .i64 kd, .int .i64 th, .int .i64 (o : Int), .int .i64 va], v] w fun e w' => ∃ u, e = .returned (.tuple #[]) ∧ w'.ownsRow base 111 17 (.slice (some ⟨ga, 0, none⟩) T cap) T ((L.set j (((L[j].put o (.bool true)).put (8 + o) (.int .i64 va)).put 16 u)).flatMap B17.val) ∧ w'.ownsRow w.heap.size 3 1 u vs.length (vs.flatMap encI) ∧ ChgS (fun b => b = ga) w w' := by
  obtain ⟨x0, c0⟩ := c0
  obtain ⟨x1, c1⟩ := c1
  obtain ⟨x2, c2⟩ := c2
  have hga := (World.ownsRow.lt hrow _ rfl).2
  obtain ⟨W1, hW1⟩ : ∃ X, w.alloc (.cells #[.int .i64 kd, .int .i64 th, .int .i64 (o : Int), .int .i64 va] 106) = X := ⟨_, rfl⟩
  have hB1 : Below w.heap.size w W1 := by rw [← hW1]; exact (Below.refl _ _).alloc (Nat.le_refl _) _
  have bd : Box W1 w.heap.size [.int .i64 kd, .int .i64 th, .int .i64 (o : Int), .int .i64 va] := by rw [← hW1]; exact Box.alloc _ _ _
  have HO := hid (owns_below hrow hB1)
  have HW1 := hid hW1
  have k2 : W1.cell? ⟨w.heap.size, 2, none⟩ = some (.int .i64 (o : Int)) := bd.2 2 (by simp)
  have k3 : W1.cell? ⟨w.heap.size, 3, none⟩ = some (.int .i64 va) := bd.2 3 (by simp)
  have d0 : W1.cell? ⟨ga, j * 17 + o, none⟩ = some (.bool x0) := b17_cell hT HO.out j (by omega) o (by omega) _ c0
  have d1 : W1.cell? ⟨ga, j * 17 + 8 + o, none⟩ = some (.int .i64 x1) := by rw [Nat.add_assoc]; exact b17_cell hT HO.out j (by omega) (8 + o) (by omega) _ c1
  have f0 : W1.frozen? ⟨ga, j * 17 + o, none⟩ = false := HO.out.frozenAt _
  have f1 : W1.frozen? ⟨ga, j * 17 + 8 + o, none⟩ = false := HO.out.frozenAt _
  have ho0 : (0 : Int) ≤ (o : Int) := by omega
  have ho8 : (o : Int) < 8 := by omega
  have R := hid (Flat.below r hB1)
  clear hrow hW1 bd
  go_enter Tryz.func65, Tryz.ntmps65
  go_wp2_with fail
  rw [HW1.out]
  go_region
  have hj2 : j < L.length := by omega
  have r0 : W1.ownsRow base 111 17 (.slice (some ⟨ga, 0, none⟩) T cap) T ((L.set j L[j]).flatMap B17.val) := by rw [List.set_getElem_self]; exact HO.out
  have r1 := b17_puts hT j hj2 _ r0 o (by omega) (.bool true)
  have r2 := b17_puts hT j hj2 _ r1 (8 + o) (by omega) (.int .i64 va)
  rw [← Nat.add_assoc] at r2
  have C2 : ChgS (fun b => b = ga) W1 ((W1.setCell ⟨ga, j * 17 + o, none⟩ (.bool true)).setCell ⟨ga, j * 17 + 8 + o, none⟩ (.int .i64 va)).drew := (((ChgS.refl (fun b => b = ga) W1).set ⟨ga, j * 17 + o, none⟩ _ rfl).set ⟨ga, j * 17 + 8 + o, none⟩ _ rfl).trans (ChgS.of_below (Below.refl _ _).drew (fun b => b = ga))
  have r3 := owns_below r2 (Below.refl _ _).drew
  clear r0 r1 r2 d0 d1 f0 f1 k2 k3
  obtain ⟨X, hX⟩ : ∃ X, ((W1.setCell ⟨ga, j * 17 + o, none⟩ (.bool true)).setCell ⟨ga, j * 17 + 8 + o, none⟩ (.int .i64 va)).drew = X := ⟨_, rfl⟩
  rw [hX] at C2 r3 ⊢
  have R3 := hid r3
  have CX := hid ((ChgS.of_below hB1 (fun b => b = ga)).trans C2)
  have RX := hid (flat_chg R.out C2 hvb)
  have hXs := CX.out.size
  clear r3 C2 hX R HO HW1 hB1
  clear W1
  go_wp2_with fail
  refine (impl_stateOf vs v _ RX.out (by omega)).mono ?_
  rintro e w3 ⟨u, rfl, o3, b3⟩
  obtain ⟨ua, uc, rfl, -, -⟩ := owns_form o3
  have hs3 := b3.size
  have r4 := owns_below R3.out b3
  have hgX := (World.ownsRow.lt R3.out _ rfl).2
  have d2 : w3.cell? ⟨ga, j * 17 + 16, none⟩ = some x2 := b17_cell (by rw [List.length_set]; exact hT) r4 j (by rw [List.length_set]; omega) 16 (by omega) x2 (by
    rw [List.getElem_set_self]
    show ((L[j].1.set o _).set (8 + o) _)[16]? = _
    rw [List.getElem?_set_ne (by omega), List.getElem?_set_ne (by omega)]
    exact c2)
  have f2 : w3.frozen? ⟨ga, j * 17 + 16, none⟩ = false := r4.frozenAt _
  have r5 := hid (b17_puts hT j hj2 _ r4 16 (by omega) (.slice ua vs.length uc))
  have O5 := hid (show (w3.setCell ⟨ga, j * 17 + 16, none⟩ (.slice ua vs.length uc)).ownsRow w.heap.size 3 1 (.slice ua vs.length uc) vs.length (vs.flatMap encI) from owns_same (owns_mono o3 hXs) fun b hb => heap_setCell_other _ _ b _ (by have z := (World.ownsRow.lt o3 b hb).1; show ¬ b = ga; omega))
  have C5 := hid ((CX.out.trans (ChgS.of_below b3 (fun b => b = ga))).set ⟨ga, j * 17 + 16, none⟩ (.slice ua vs.length uc) rfl)
  clear r4 o3 b3 R3 RX CX
  go_wp2
  refine bodyPost_end (results_none rfl _ _ _) rfl ⟨_, rfl, r5.out, O5.out, C5.out⟩
set_option maxHeartbeats 8000000 in
theorem impl_was0 (L : List B17) (T j base ga cap : Nat) (hT : L.length = T) (hj : j < T) (a : AttD) (u : Value) (w : World)
    (hrow : w.ownsRow base 111 17 (.slice (some ⟨ga, 0, none⟩) T cap) T (L.flatMap B17.val)) (hb : L[j].1 = encA a u) (r : Ints w u a.th) (hl : a.th.length ≤ 8) :
    Calls Tryz.prog 66 #[.pointer (some ⟨ga, j * 17, none⟩)] w fun e w' => e = .returned (.bool (wasC a)) ∧ w = w' := by
  obtain ⟨au, cu, rfl, hcu1, hcu2, hcu⟩ := r.open
  have HCU := hid hcu
  have k16 : w.cell? ⟨ga, j * 17 + 16, none⟩ = some (.slice au a.th.length cu) := b17_cell hT hrow j (by omega) 16 (by omega) _ (by rw [hb]; rfl)
  have HOP := hid (fun (o : Nat) (ho : o < 8) => show w.cell? ⟨ga, j * 17 + o, none⟩ = some (.bool (a.op.getD o false)) from b17_cell hT hrow j (by omega) o (by omega) _ (by rw [hb]; exact encA_op a _ o ho))
  have HTO := hid (fun (o : Nat) (ho : o < 8) => show w.cell? ⟨ga, j * 17 + 8 + o, none⟩ = some (.int .i64 (a.to.getD o 0)) by rw [Nat.add_assoc]; exact b17_cell hT hrow j (by omega) (8 + o) (by omega) _ (by rw [hb]; exact encA_to a _ o ho))
  have hW := hid (show wasC a = ((List.range a.th.length).all (fun o => !(a.op.getD o false && !(a.to.getD o 0 == a.th.getD o 0))) && decide (0 < a.th.length)) from rfl)
  have hnl : a.th.length ≤ 9223372036854775807 := by omega
  generalize wasC a = R at *
  clear hcu hrow r
  go_enter Tryz.func66, Tryz.ntmps66
  go_wp2
  go_loop [10] (fun i => ∃ k : Nat, k ≤ a.th.length ∧ i = .int .i64 k ∧ Same (((List.range a.th.length).drop k).all (fun o => !(a.op.getD o false && !(a.to.getD o 0 == a.th.getD o 0)))) ((List.range a.th.length).all (fun o => !(a.op.getD o false && !(a.to.getD o 0 == a.th.getD o 0))))) (fun i => a.th.length - (intOf i).toNat)
  case atStart => exact ⟨0, by omega, rfl, .rfl⟩
  case round =>
    obtain ⟨k, hk, rfl, hS⟩ := hrel
    by_cases hlt : k < a.th.length
    · obtain ⟨bb, off, rfl, hbs, hcell⟩ := HCU.out k hlt
      have hst := hid (all_step (fun o => !(a.op.getD o false && !(a.to.getD o 0 == a.th.getD o 0))) (List.range a.th.length) k (by rw [List.length_range]; exact hlt))
      have e0 := HOP.out k (by omega)
      have e1 := HTO.out k (by omega)
      have hg : a.th.getD k 0 = a.th[k] := by rw [List.getD_eq_getElem?_getD, List.getElem?_eq_getElem hlt]; rfl
      have hst := hid (show ((List.range a.th.length).drop k).all (fun o => !(a.op.getD o false && !(a.to.getD o 0 == a.th.getD o 0))) = (!(a.op.getD k false && !(a.to.getD k 0 == a.th[k])) && ((List.range a.th.length).drop (k+1)).all (fun o => !(a.op.getD o false && !(a.to.getD o 0 == a.th.getD o 0)))) by rw [hst.out, List.getElem_range, hg])
      have hk0 : (0 : Int) ≤ (k : Int) := by omega
      have hk8 : (k : Int) < 8 := by omega
      have hkn : (k : Int) < (a.th.length : Int) := by omega
      have Hall := hid (fun (h : ((List.range a.th.length).drop k).all (fun o => !(a.op.getD o false && !(a.to.getD o 0 == a.th.getD o 0))) = false) => show R = false by rw [hW.out, ← hS.out, h]; rfl)
      have Hnext := hid (fun (h : ((List.range a.th.length).drop k).all (fun o => !(a.op.getD o false && !(a.to.getD o 0 == a.th.getD o 0))) = ((List.range a.th.length).drop (k+1)).all (fun o => !(a.op.getD o false && !(a.to.getD o 0 == a.th.getD o 0)))) => show Same (((List.range a.th.length).drop (k+1)).all (fun o => !(a.op.getD o false && !(a.to.getD o 0 == a.th.getD o 0)))) ((List.range a.th.length).all (fun o => !(a.op.getD o false && !(a.to.getD o 0 == a.th.getD o 0)))) from .mk (by rw [← hS.out, h]))
      rw [hst.out] at Hall Hnext
      generalize a.op.getD k false = B at *
      generalize a.to.getD k 0 = x at *
      generalize a.th[k] = y at *
      clear HOP HTO HCU hg hst hS
      cases B with
      | false =>
        have Hn := hid (Hnext.out rfl)
        clear Hall Hnext
        go_wp2
        go_round
        case rel => exact ⟨k+1, by omega, by go_num, Hn.out⟩
        case measure => simp [intOf]; omega
      | true =>
        by_cases hxy : x = y
        · subst hxy
          have Hn := hid (Hnext.out (by simp))
          clear Hall Hnext
          go_wp2
          go_round
          case rel => exact ⟨k+1, by omega, by go_num, Hn.out⟩
          case measure => simp [intOf]; omega
        · have Hn := hid (Hall.out (by simp [hxy]))
          have hbn : (x != y) = true := by simpa using hxy
          clear Hall Hnext
          go_wp2
          go_ret
          exact ⟨ret_bool Hn.out.symm, rfl⟩
    · obtain rfl : k = a.th.length := by omega
      have hu := hid (show R = decide (0 < a.th.length) by rw [hW.out, ← hS.out, List.drop_of_length_le (by rw [List.length_range]; exact Nat.le_refl _)]; rfl)
      go_wp2
      go_ret
      exact ⟨ret_bool (by rw [hu.out]), rfl⟩
end Go.Proofs.YtbbdchlabdilcaaGreat
