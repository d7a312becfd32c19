/- A store of the call's own, written: a head's cell, a descriptor's status. -/
import Derived.Test.YtcafdihekamnkaaGreatM3
import Derived.Test.YtcafdihekamnkaaGreatM5
import Derived.Test.YtcafdihekamnkaaGreatF8
import Derived.Test.YtcafdihekamnkaaGreatN8o
namespace Go.Proofs.YtcafdihekamnkaaGreat
set_option maxRecDepth 100000
open Go.RowKit Go.Proofs Go.Own
set_option linter.unusedVariables false
theorem flat_set {α : Type} (f : α → List Value) (sz : Nat) (hsz : ∀ x, (f x).length = sz) : ∀ (xs : List α) (i : Nat) (h : i < xs.length) (j : Nat) (u : Value) (x' : α), j < sz → f x' = (f xs[i]).set j u → (xs.flatMap f).set (i * sz + j) u = (xs.set i x').flatMap f
  | [], i, h, _, _, _, _, _ => by simp at h
  | x :: xs, 0, h, j, u, x', hj, he => by
    simp only [List.getElem_cons_zero] at he
    rw [List.set_cons_zero, List.flatMap_cons, List.flatMap_cons, he, Nat.zero_mul, Nat.zero_add, List.set_append_left _ _ (by rw [hsz]; exact hj)]
  | x :: xs, i+1, h, j, u, x', hj, he => by
    simp only [List.getElem_cons_succ] at he
    have e : (i + 1) * sz + j = (f x).length + (i * sz + j) := by rw [hsz, Nat.add_mul]; omega
    rw [List.set_cons_succ, List.flatMap_cons, List.flatMap_cons, e, List.set_append_right _ _ (by omega), show (f x).length + (i * sz + j) - (f x).length = i * sz + j by omega]
    rw [flat_set f sz hsz xs i (by simpa using h) j u x' hj he]
theorem own_head {S : Nat → Prop} {w : World} {v : Value} {hs : List Head} (h : ownL S w v hs) (i : Nat) (hi : i < hs.length) : ∃ g cap, v = .slice (some ⟨g, 0, none⟩) hs.length cap ∧ S g ∧ g < w.heap.size ∧
    w.cell? ⟨g, i * 3, none⟩ = some (.int .i64 hs[i].value_) ∧ w.cell? ⟨g, i * 3 + 1, none⟩ = some (.int .i64 hs[i].version_) ∧ w.cell? ⟨g, i * 3 + 2, none⟩ = some (.int .i64 hs[i].desc_) ∧ (∀ j, w.frozen? ⟨g, j, none⟩ = false) := by
  obtain ⟨o, hb⟩ := ownHeads.1 h
  obtain ⟨g, cap, rfl⟩ : ∃ g cap, v = .slice (some ⟨g, 0, none⟩) hs.length cap := by
    rcases o.2 with ⟨_, e2⟩ | ⟨g, c2, cur, e1, _⟩
    · omega
    · exact ⟨g, c2, e1⟩
  have c : ∀ j, j < 3 → w.cell? ⟨g, i * 3 + j, none⟩ = (Head.enc hs[i])[j]? := fun j hj => by
    rw [o.cellAt (i * 3 + j) (by omega), flatMap_get Head.enc 3 (fun _ => rfl) hs i hi j hj]
  exact ⟨g, cap, rfl, hb g rfl, (owns_lt o).2, c 0 (by omega), c 1 (by omega), c 2 (by omega), fun j => World.ownsRow.frozenAt o j⟩
theorem own_head_set {S : Nat → Prop} {w : World} {g cap n : Nat} {hs : List Head} (h : ownL S w (.slice (some ⟨g, 0, none⟩) n cap) hs) (i : Nat) (hi : i < hs.length) (j : Nat) (hj : j < 3) (u : Value) (h' : Head) (he : Head.enc h' = (Head.enc hs[i]).set j u) : ownL S (w.setCell ⟨g, i * 3 + j, none⟩ u) (.slice (some ⟨g, 0, none⟩) n cap) (hs.set i h') := by
  obtain ⟨o, hb⟩ := ownHeads.1 h
  have hn : n = hs.length := by
    obtain ⟨a, c, e, _, _⟩ := ownL_len h
    have h9 := congrArg (fun v => match v with | Value.slice _ n _ => n | _ => 0) e
    simpa using h9
  subst hn
  refine ownHeads.2 ⟨?_, hb⟩
  rw [List.length_set, ← flat_set Head.enc 3 (fun _ => rfl) hs i hi j u h' hj he]
  exact owns_put o _ _
theorem own_desc {S : Nat → Prop} {w : World} {v : Value} {ds : List DescD} (h : ownL S w v ds) (k : Nat) (hk : k < ds.length) : ∃ g cap v2, v = .slice (some ⟨g, 0, none⟩) ds.length cap ∧ S g ∧ g < w.heap.size ∧
    w.cell? ⟨g, k * 3, none⟩ = some (.int .i64 ds[k].owner_) ∧ w.cell? ⟨g, k * 3 + 1, none⟩ = some (.int .i64 ds[k].status_) ∧ w.cell? ⟨g, k * 3 + 2, none⟩ = some v2 ∧ rdsL w v2 ds[k].entries_ ∧ (∀ j, w.frozen? ⟨g, j, none⟩ = false) ∧
    ∀ st : Int, ownL S (w.setCell ⟨g, k * 3 + 1, none⟩ (.int .i64 st)) v (ds.set k ⟨ds[k].owner_, st, ds[k].entries_⟩) := by
  obtain ⟨g, cap, css, Ri, hic, rfl, h1, h2, h3, h4, h5, ⟨v2, h6, h6b⟩, h7⟩ := ownL_at h k hk
  have c : ∀ j, j < 3 → w.cell? ⟨g, k * 3 + j, none⟩ = css[k][j]? := fun j hj => by
    have hl := flatten_len 3 css h2
    have e9 : k * 3 + j < css.flatten.length := by rw [hl]; omega
    have o9 : w.ownsRow 0 138 3 (.slice (some ⟨g, 0, none⟩) ds.length cap) ds.length css.flatten := h3
    rw [o9.cellAt (k * 3 + j) (by omega), flatten_get 3 css h2 k hic j hj]
  rw [h6] at c
  refine ⟨g, cap, v2, rfl, h4, (owns_lt h3).2, c 0 (by omega), c 1 (by omega), c 2 (by omega), ownL.rds h6b, fun j => World.ownsRow.frozenAt h3 j, fun st => ?_⟩
  refine h7 _ (css[k].set 1 (.int .i64 st)) _ (owns_cell h3 h2 k 1 hic (show 1 < 3 by omega) _) (fun b _ hb _ => heap_setCell_other _ _ b _ (by show b ≠ g; exact hb)) ⟨v2, by rw [h6]; rfl, h6b.keep fun b hb => heap_setCell_other _ _ b _ (by show b ≠ g; exact (h5 b hb).2)⟩
theorem own_desc_set {S : Nat → Prop} {w : World} {g cap n : Nat} {ds : List DescD} (h : ownL S w (.slice (some ⟨g, 0, none⟩) n cap) ds) (k : Nat) (hk : k < ds.length) (st : Int) (x : DescD) (hx : x = ⟨ds[k].owner_, st, ds[k].entries_⟩) : ownL S (w.setCell ⟨g, k * 3 + 1, none⟩ (.int .i64 st)) (.slice (some ⟨g, 0, none⟩) n cap) (ds.set k x) := by
  obtain ⟨g', cap', v2, e, -, -, -, -, -, -, -, hs⟩ := own_desc h k hk
  have e1 : g = g' := by simp only [Value.slice.injEq, Option.some.injEq, Addr.mk.injEq, and_true, true_and] at e; exact e.1
  subst e1 hx
  exact hs st
end Go.Proofs.YtcafdihekamnkaaGreat
/- A stack of the call's own: an element read, the last one laid anew, cut. -/
namespace Go.Own
open Go.RowKit
theorem take_flatMap {α : Type} (f : α → List Value) (sz : Nat) (hsz : ∀ x, (f x).length = sz) : ∀ (xs : List α) (i : Nat), (xs.flatMap f).take (i * sz) = (xs.take i).flatMap f
  | [], i => by simp
  | x :: xs, 0 => by simp
  | x :: xs, i+1 => by
    have e : (i + 1) * sz = (f x).length + i * sz := by rw [hsz, Nat.add_mul]; omega
    rw [List.take_succ_cons, List.flatMap_cons, List.flatMap_cons, e, List.take_length_add_append, take_flatMap f sz hsz xs i]
/-- A row of the call's own, cut at an end. -/
theorem owns_cut {w : World} {base e sz n m cap g : Nat} {cs : List Value} (h : w.ownsRow base e sz (.slice (some ⟨g, 0, none⟩) n cap) n cs) (hm : m ≤ n) : w.ownsRow base e sz (.slice (some ⟨g, 0, none⟩) m cap) m (cs.take (m * sz)) := by
  have hms : m * sz ≤ n * sz := Nat.mul_le_mul_right _ hm
  refine ⟨by rw [List.length_take, h.1]; omega, ?_⟩
  rcases h.2 with ⟨h1, _⟩ | ⟨g', cap', cur, hv, hb, hg, hnc, hcm, hcs, ht⟩
  · cases h1
  · simp only [Value.slice.injEq, Option.some.injEq, Addr.mk.injEq, and_true, true_and] at hv
    obtain ⟨rfl, rfl⟩ := hv
    refine .inr ⟨g, cap, cur, rfl, hb, hg, by omega, hcm, hcs, ?_⟩
    rw [← ht, List.take_take, Nat.min_eq_left hms]
theorem set_last {α : Type} (xs : List α) (x : α) (h : ¬ xs.length = 0) : xs.set (xs.length - 1) x = xs.take (xs.length - 1) ++ [x] := by
  have hl : xs.length - 1 < xs.length := by omega
  rw [List.set_eq_take_append_cons_drop, if_pos hl, List.drop_eq_nil_of_le (by omega)]
end Go.Own
namespace Go.Proofs.YtcafdihekamnkaaGreat
set_option maxRecDepth 100000
open Go.RowKit Go.Proofs Go.Own
set_option linter.unusedVariables false
theorem own_frame {S : Nat → Prop} {w : World} {v : Value} {st : List Frame} (h : ownL S w v st) (i : Nat) (hi : i < st.length) : ∃ g cap, v = .slice (some ⟨g, 0, none⟩) st.length cap ∧ S g ∧ g < w.heap.size ∧
    w.cell? ⟨g, i * 3, none⟩ = some (.int .i64 st[i].desc_) ∧ w.cell? ⟨g, i * 3 + 1, none⟩ = some (.int .i64 st[i].phase_) ∧ w.cell? ⟨g, i * 3 + 2, none⟩ = some (.int .i64 st[i].at_) ∧ (∀ j, w.frozen? ⟨g, j, none⟩ = false) := by
  obtain ⟨o, hb⟩ := ownFrames.1 h
  obtain ⟨g, cap, rfl⟩ : ∃ g cap, v = .slice (some ⟨g, 0, none⟩) st.length cap := by
    rcases o.2 with ⟨_, e2⟩ | ⟨g, c2, cur, e1, _⟩
    · omega
    · exact ⟨g, c2, e1⟩
  have c : ∀ j, j < 3 → w.cell? ⟨g, i * 3 + j, none⟩ = (Frame.enc st[i])[j]? := fun j hj => by
    rw [o.cellAt (i * 3 + j) (by omega), flatMap_get Frame.enc 3 (fun _ => rfl) st i hi j hj]
  exact ⟨g, cap, rfl, hb g rfl, (owns_lt o).2, c 0 (by omega), c 1 (by omega), c 2 (by omega), fun j => World.ownsRow.frozenAt o j⟩
theorem own_frame_set {S : Nat → Prop} {w : World} {g cap n : Nat} {st : List Frame} (h : ownL S w (.slice (some ⟨g, 0, none⟩) n cap) st) (i : Nat) (hi : i < st.length) (a b c : Int) : ownL S (((w.setCell ⟨g, i * 3, none⟩ (.int .i64 a)).setCell ⟨g, i * 3 + 1, none⟩ (.int .i64 b)).setCell ⟨g, i * 3 + 2, none⟩ (.int .i64 c)) (.slice (some ⟨g, 0, none⟩) n cap) (st.set i ⟨a, b, c⟩) := by
  obtain ⟨o, hb⟩ := ownFrames.1 h
  have hn : n = st.length := by
    obtain ⟨a, c, e, _, _⟩ := ownL_len h
    have h9 := congrArg (fun v => match v with | Value.slice _ n _ => n | _ => 0) e
    simpa using h9
  subst hn
  refine ownFrames.2 ⟨?_, hb⟩
  have e1 := flat_set Frame.enc 3 (fun _ => rfl) st i hi 0 (.int .i64 a) ⟨a, st[i].phase_, st[i].at_⟩ (by omega) rfl
  have e2 := flat_set Frame.enc 3 (fun _ => rfl) (st.set i ⟨a, st[i].phase_, st[i].at_⟩) i (by rw [List.length_set]; exact hi) 1 (.int .i64 b) ⟨a, b, st[i].at_⟩ (by omega) (by rw [List.getElem_set_self]; rfl)
  have e3 := flat_set Frame.enc 3 (fun _ => rfl) ((st.set i ⟨a, st[i].phase_, st[i].at_⟩).set i ⟨a, b, st[i].at_⟩) i (by rw [List.length_set, List.length_set]; exact hi) 2 (.int .i64 c) ⟨a, b, c⟩ (by omega) (by rw [List.getElem_set_self]; rfl)
  rw [List.set_set] at e2
  rw [List.set_set, List.set_set] at e3
  rw [List.length_set]
  have o3 := owns_put (owns_put (owns_put o (i * 3 + 0) (.int .i64 a)) (i * 3 + 1) (.int .i64 b)) (i * 3 + 2) (.int .i64 c)
  rw [e1, e2, e3] at o3
  exact o3
theorem own_frame_take {S : Nat → Prop} {w : World} {g cap n : Nat} {st : List Frame} (h : ownL S w (.slice (some ⟨g, 0, none⟩) n cap) st) (m : Nat) (hm : m ≤ st.length) : ownL S w (.slice (some ⟨g, 0, none⟩) m cap) (st.take m) := by
  obtain ⟨o, hb⟩ := ownFrames.1 h
  have hn : n = st.length := by
    obtain ⟨a, c, e, _, _⟩ := ownL_len h
    have h9 := congrArg (fun v => match v with | Value.slice _ n _ => n | _ => 0) e
    simpa using h9
  subst hn
  refine ownFrames.2 ⟨?_, fun k hk => hb k hk⟩
  have h9 := owns_cut o hm
  rw [take_flatMap Frame.enc 3 (fun _ => rfl)] at h9
  rw [show (st.take m).length = m by simp; omega]
  exact h9
/-- An append of one frame: a row of the call's own, in its block or in a new one. -/
theorem own_frame_snoc {S : Nat → Prop} {w w' : World} {v v' : Value} {st : List Frame} {f : Frame} (h : ownL S w v st) (hS : ∀ b, S b → b < w.heap.size) (ho : w'.ownsRow 0 197 3 v' (st.length + 1) (st.flatMap Frame.enc ++ Frame.enc f)) (hg : w.grownBy w' v.ownBlock) (hp : ∀ k, v'.ownBlock = some k → v.ownBlock = some k ∨ k = w.heap.size) :
    ownL (Blk v') w' v' (st ++ [f]) ∧ (∀ k, Blk v' k → S k ∨ (w.heap.size ≤ k ∧ k < w'.heap.size)) ∧ ChgS S w w' := by
  obtain ⟨o, hb⟩ := ownFrames.1 h
  refine ⟨ownFrames.2 ⟨?_, fun k hk => hk⟩, fun k hk => ?_, ChgS.of_grown hg hb⟩
  · rw [List.length_append, List.flatMap_append]; simpa using ho
  · have hl := (owns_in ho k hk).2
    rcases hp k hk with h9 | h9
    · exact .inl (hb k h9)
    · exact .inr ⟨by omega, hl⟩
end Go.Proofs.YtcafdihekamnkaaGreat
