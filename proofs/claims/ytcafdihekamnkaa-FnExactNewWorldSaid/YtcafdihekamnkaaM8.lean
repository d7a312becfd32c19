/- Chapter 6's program: entries in order; DescOk. -/
import Derived.Test.YtcafdihekamnkaaM7
import Derived.Test.YtcafdihekamnkaaS7e
import Derived.Test.YtcafdihekamnkaaM2
import Derived.Test.YtcafdihekamnkaaEnc5
import Derived.Test.YtcafdihekamnkaaF7d
namespace Go.Proofs.Ytcafdihekamnkaa
set_option maxRecDepth 100000
open Go.RowKit Go.Proofs Go.Own
open Go Go.BigFrame Go.Shelf
set_option linter.unusedVariables false
set_option linter.unusedSimpArgs false
def cmpC (a b : Int) : Int := if a < b then -1 else if b < a then 1 else 0
end Go.Proofs.Ytcafdihekamnkaa
/- Chapter 7's program: versions, objects, numbers of descriptors. -/
namespace Go.Proofs.Ytcafdihekamnkaa
set_option maxRecDepth 100000
open Go.RowKit Go.Proofs Go.Own
open Go Go.BigFrame Go.Shelf
set_option linter.unusedVariables false
set_option linter.unusedSimpArgs false
def isIn (n : Nat) (o : Int) : Bool := decide (0 ≤ o) && decide (o < (n : Int))
end Go.Proofs.Ytcafdihekamnkaa
/- Chapter 7's program: Look, FrameOk. -/
/- Chapter 7's program: what may lie over an object; StoreOk. -/
namespace Go.Proofs.Ytcafdihekamnkaa
set_option maxRecDepth 100000
open Go.RowKit Go.Proofs Go.Own
open Go Go.BigFrame Go.Shelf
set_option linter.unusedVariables false
set_option linter.unusedSimpArgs false
end Go.Proofs.Ytcafdihekamnkaa
namespace Go.Proofs.Ytcafdihekamnkaa
set_option maxRecDepth 100000
open Go.RowKit Go.Proofs Go.Own
open Go Go.BigFrame Go.Shelf
set_option linter.unusedVariables false
set_option linter.unusedSimpArgs false
theorem isIn_eq (n : Nat) (o : Int) : inB o 0 ((n : Int) - 1) = isIn n o := by
  unfold inB isIn
  rw [← Bool.decide_and]
  exact decide_eq_decide.2 (by omega)
theorem inB_yes {x a b : Int} (h : a ≤ x ∧ x ≤ b) : inB x a b = true := decide_eq_true h
theorem inB_no {x a b : Int} (h : ¬ (a ≤ x ∧ x ≤ b)) : inB x a b = false := decide_eq_false h
end Go.Proofs.Ytcafdihekamnkaa
/- Chapter 7's program: a store copied. -/
/- Chapter 7's program: descriptors and stores copied. -/
namespace Go.Proofs.Ytcafdihekamnkaa
set_option maxRecDepth 100000
open Go.RowKit Go.Proofs Go.Own
set_option linter.unusedVariables false
set_option linter.unusedSimpArgs false
theorem oneCells_E7 (xs : List Entry) : ∀ c ∈ xs.flatMap Entry.enc, c.oneCell' = true := oneCell_enc oneCell_E xs
end Go.Proofs.Ytcafdihekamnkaa
namespace Go.Proofs.Ytcafdihekamnkaa
set_option maxRecDepth 100000
open Go.RowKit Go.Proofs Go.Own
set_option linter.unusedVariables false
set_option linter.unusedSimpArgs false
end Go.Proofs.Ytcafdihekamnkaa
/- A store of the call's own, written: a head's cell, a descriptor's status. -/
namespace Go.Proofs.Ytcafdihekamnkaa
set_option maxRecDepth 100000
open Go.RowKit Go.Proofs Go.Own
set_option linter.unusedVariables false
theorem flat_set {α : Type} (f : α → List Value) (sz : Nat) (hsz : ∀ x, (f x).length = sz) : ∀ (xs : List α) (i : Nat) (h : i < xs.length) (j : Nat) (u : Value) (x' : α), j < sz → f x' = (f xs[i]).set j u → (xs.flatMap f).set (i * sz + j) u = (xs.set i x').flatMap f
  | [], i, h, _, _, _, _, _ => by simp at h
  | x :: xs, 0, h, j, u, x', hj, he => by
    simp only [List.getElem_cons_zero] at he
    rw [List.set_cons_zero, List.flatMap_cons, List.flatMap_cons, he, Nat.zero_mul, Nat.zero_add, List.set_append_left _ _ (by rw [hsz]; exact hj)]
  | x :: xs, i+1, h, j, u, x', hj, he => by
    simp only [List.getElem_cons_succ] at he
    have e : (i + 1) * sz + j = (f x).length + (i * sz + j) := by rw [hsz, Nat.add_mul]; omega
    rw [List.set_cons_succ, List.flatMap_cons, List.flatMap_cons, e, List.set_append_right _ _ (by omega), show (f x).length + (i * sz + j) - (f x).length = i * sz + j by omega]
    rw [flat_set f sz hsz xs i (by simpa using h) j u x' hj he]
theorem own_head {S : Nat → Prop} {w : World} {v : Value} {hs : List Head} (h : ownL S w v hs) (i : Nat) (hi : i < hs.length) : ∃ g cap, v = .slice (some ⟨g, 0, none⟩) hs.length cap ∧ S g ∧ g < w.heap.size ∧
    w.cell? ⟨g, i * 3, none⟩ = some (.int .i64 hs[i].value_) ∧ w.cell? ⟨g, i * 3 + 1, none⟩ = some (.int .i64 hs[i].version_) ∧ w.cell? ⟨g, i * 3 + 2, none⟩ = some (.int .i64 hs[i].desc_) ∧ (∀ j, w.frozen? ⟨g, j, none⟩ = false) := by
  obtain ⟨o, hb⟩ := ownHeads.1 h
  obtain ⟨g, cap, rfl⟩ : ∃ g cap, v = .slice (some ⟨g, 0, none⟩) hs.length cap := by
    rcases o.2 with ⟨_, e2⟩ | ⟨g, c2, cur, e1, _⟩
    · omega
    · exact ⟨g, c2, e1⟩
  have c : ∀ j, j < 3 → w.cell? ⟨g, i * 3 + j, none⟩ = (Head.enc hs[i])[j]? := fun j hj => by
    rw [o.cellAt (i * 3 + j) (by omega), flatMap_get Head.enc 3 (fun _ => rfl) hs i hi j hj]
  exact ⟨g, cap, rfl, hb g rfl, (owns_lt o).2, c 0 (by omega), c 1 (by omega), c 2 (by omega), fun j => World.ownsRow.frozenAt o j⟩
theorem own_head_set {S : Nat → Prop} {w : World} {g cap n : Nat} {hs : List Head} (h : ownL S w (.slice (some ⟨g, 0, none⟩) n cap) hs) (i : Nat) (hi : i < hs.length) (j : Nat) (hj : j < 3) (u : Value) (h' : Head) (he : Head.enc h' = (Head.enc hs[i]).set j u) : ownL S (w.setCell ⟨g, i * 3 + j, none⟩ u) (.slice (some ⟨g, 0, none⟩) n cap) (hs.set i h') := by
  obtain ⟨o, hb⟩ := ownHeads.1 h
  have hn : n = hs.length := by
    obtain ⟨a, c, e, _, _⟩ := ownL_len h
    have h9 := congrArg (fun v => match v with | Value.slice _ n _ => n | _ => 0) e
    simpa using h9
  subst hn
  refine ownHeads.2 ⟨?_, hb⟩
  rw [List.length_set, ← flat_set Head.enc 3 (fun _ => rfl) hs i hi j u h' hj he]
  exact owns_put o _ _
theorem own_desc {S : Nat → Prop} {w : World} {v : Value} {ds : List DescD} (h : ownL S w v ds) (k : Nat) (hk : k < ds.length) : ∃ g cap v2, v = .slice (some ⟨g, 0, none⟩) ds.length cap ∧ S g ∧ g < w.heap.size ∧
    w.cell? ⟨g, k * 3, none⟩ = some (.int .i64 ds[k].owner_) ∧ w.cell? ⟨g, k * 3 + 1, none⟩ = some (.int .i64 ds[k].status_) ∧ w.cell? ⟨g, k * 3 + 2, none⟩ = some v2 ∧ rdsL w v2 ds[k].entries_ ∧ (∀ j, w.frozen? ⟨g, j, none⟩ = false) ∧
    ∀ st : Int, ownL S (w.setCell ⟨g, k * 3 + 1, none⟩ (.int .i64 st)) v (ds.set k ⟨ds[k].owner_, st, ds[k].entries_⟩) := by
  obtain ⟨g, cap, css, Ri, hic, rfl, h1, h2, h3, h4, h5, ⟨v2, h6, h6b⟩, h7⟩ := ownL_at h k hk
  have c : ∀ j, j < 3 → w.cell? ⟨g, k * 3 + j, none⟩ = css[k][j]? := fun j hj => by
    have hl := flatten_len 3 css h2
    have e9 : k * 3 + j < css.flatten.length := by rw [hl]; omega
    have o9 : w.ownsRow 0 97 3 (.slice (some ⟨g, 0, none⟩) ds.length cap) ds.length css.flatten := h3
    rw [o9.cellAt (k * 3 + j) (by omega), flatten_get 3 css h2 k hic j hj]
  rw [h6] at c
  refine ⟨g, cap, v2, rfl, h4, (owns_lt h3).2, c 0 (by omega), c 1 (by omega), c 2 (by omega), ownL.rds h6b, fun j => World.ownsRow.frozenAt h3 j, fun st => ?_⟩
  refine h7 _ (css[k].set 1 (.int .i64 st)) _ (owns_cell h3 h2 k 1 hic (show 1 < 3 by omega) _) (fun b _ hb _ => heap_setCell_other _ _ b _ (by show b ≠ g; exact hb)) ⟨v2, by rw [h6]; rfl, h6b.keep fun b hb => heap_setCell_other _ _ b _ (by show b ≠ g; exact (h5 b hb).2)⟩
theorem own_desc_set {S : Nat → Prop} {w : World} {g cap n : Nat} {ds : List DescD} (h : ownL S w (.slice (some ⟨g, 0, none⟩) n cap) ds) (k : Nat) (hk : k < ds.length) (st : Int) (x : DescD) (hx : x = ⟨ds[k].owner_, st, ds[k].entries_⟩) : ownL S (w.setCell ⟨g, k * 3 + 1, none⟩ (.int .i64 st)) (.slice (some ⟨g, 0, none⟩) n cap) (ds.set k x) := by
  obtain ⟨g', cap', v2, e, -, -, -, -, -, -, -, hs⟩ := own_desc h k hk
  have e1 : g = g' := by simp only [Value.slice.injEq, Option.some.injEq, Addr.mk.injEq, and_true, true_and] at e; exact e.1
  subst e1 hx
  exact hs st
end Go.Proofs.Ytcafdihekamnkaa
