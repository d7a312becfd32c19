/- Chapter 7: Announce's contracts as the law's walk takes them. -/
import Derived.Test.YtpdgpblekbongaaN7o
import Derived.Test.YtpdgpblekbongaaS7f
import Derived.Test.YtpdgpblekbongaaI7j
namespace Go.Proofs.Ytpdgpblekbongaa
set_option maxRecDepth 100000
open Go.RowKit Go.Proofs Go.Own
set_option linter.unusedVariables false
def annD (s : StoreD) (d : DescD) : StoreD := ⟨s.heads_, annL s.heads_ s.descs_ d⟩
theorem annL_B {s : StoreD} {d : DescD} (h : StoreB s) : StoreB (annD s d) := by
  unfold StoreB at h ⊢
  show s.heads_.length + szD (annL s.heads_ s.descs_ d) ≤ 1048576
  cases e : annOk s.heads_ s.descs_ d with
  | false => rw [annL_no e]; exact h
  | true =>
    rw [annL_yes e]
    unfold annOk at e
    simp only [Bool.and_eq_true] at e
    obtain ⟨⟨⟨⟨e1, e2⟩, -⟩, -⟩, -⟩ := e
    obtain ⟨⟨-, h8⟩, h60, hd, -⟩ := storeOk_all e1
    have h6 := (descOk_len e2).2
    have hs : ∀ (xs : List DescD), (∀ i, (hi : i < xs.length) → xs[i].entries_.length ≤ 6) → eSum xs ≤ 6 * xs.length := by
      intro xs
      induction xs with
      | nil => intro _; simp [eSum]
      | cons x xs ih =>
        intro hx
        have h0 := hx 0 (by simp)
        have h1 := ih fun i hi => by have := hx (i+1) (by simpa using hi); simpa using this
        unfold eSum at h1 ⊢
        simp only [List.map_cons, List.sum_cons, List.length_cons, List.getElem_cons_zero] at h0 ⊢
        omega
    have h2 := hs (s.descs_ ++ [d]) fun i hi => by
      by_cases hl : i < s.descs_.length
      · rw [List.getElem_append_left hl]
        have h9 := hd i hl
        rw [descIn_is] at h9
        simp only [Bool.and_eq_true] at h9
        exact (descOk_len h9.1).2
      · have e9 : i = s.descs_.length := by simp at hi; omega
        subst e9
        rw [List.getElem_append_right (by omega)]
        simpa using h6
    unfold szD
    rw [List.length_append] at h2 ⊢
    simp only [List.length_singleton] at h2 ⊢
    omega
theorem spec_AnnounceW (s : StoreD) (v0 v1 : Value) (d : DescD) (v2 : Value) (w : World) (r0 : rdsL w v0 s.heads_) (r1 : rdsL w v1 s.descs_) (hb : StoreB s) (r2 : rdsL w v2 d.entries_) (hb2 : DescB d) :
    Calls Try.prog 26 #[.agg #[v0, v1], .agg #[.int .i64 d.owner_, .int .i64 d.status_, v2]] w fun e w' => ∃ u0 u1 : Value, ∃ S0 S1 : Nat → Prop, e = .returned (.tuple #[.agg #[u0, u1], .int .i64 (annN s.heads_ s.descs_ d), .bool (annOk s.heads_ s.descs_ d)]) ∧ ownL S0 w' u0 (annD s d).heads_ ∧ ownL S1 w' u1 (annD s d).descs_ ∧ (∀ k, S0 k → Rg w.heap.size w'.heap.size k) ∧ (∀ k, S1 k → Rg w.heap.size w'.heap.size k) ∧ (∀ k, S0 k → ¬ S1 k) ∧ StoreB (annD s d) ∧ Below w.heap.size w w' :=
  (spec_Announce0 s.heads_ s.descs_ d v0 v1 v2 w (storeB_parts hb).1 (storeB_parts hb).2.1 (storeB_parts hb).2.2.1 hb2 r0 r1 r2).mono fun _ _ ⟨u0, u1, he, ⟨S0, S1, o0, o1, g0, g1, dj⟩, b⟩ => ⟨u0, u1, S0, S1, he, o0, o1, g0, g1, dj, annL_B hb, b⟩
theorem impl_AnnounceW (s : StoreD) (v0 v1 : Value) (d : DescD) (v2 : Value) (w : World) (r0 : rdsL w v0 s.heads_) (r1 : rdsL w v1 s.descs_) (hb : StoreB s) (r2 : rdsL w v2 d.entries_) (hb2 : DescB d) :
    Calls Try.prog 28 #[.agg #[v0, v1], .agg #[.int .i64 d.owner_, .int .i64 d.status_, v2]] w fun e w' => ∃ u0 u1 : Value, ∃ S0 S1 : Nat → Prop, e = .returned (.tuple #[.agg #[u0, u1], .int .i64 (annN s.heads_ s.descs_ d), .bool (annOk s.heads_ s.descs_ d)]) ∧ ownL S0 w' u0 (annD s d).heads_ ∧ ownL S1 w' u1 (annD s d).descs_ ∧ (∀ k, S0 k → Rg w.heap.size w'.heap.size k) ∧ (∀ k, S1 k → Rg w.heap.size w'.heap.size k) ∧ (∀ k, S0 k → ¬ S1 k) ∧ StoreB (annD s d) ∧ Below w.heap.size w w' :=
  (impl_Announce0 s.heads_ s.descs_ d v0 v1 v2 w (storeB_parts hb).1 (storeB_parts hb).2.1 (storeB_parts hb).2.2.1 hb2 r0 r1 r2).mono fun _ _ ⟨u0, u1, S0, S1, he, o0, o1, g0, g1, dj, b⟩ => ⟨u0, u1, S0, S1, he, o0, o1, g0, g1, dj, annL_B hb, b⟩
end Go.Proofs.Ytpdgpblekbongaa
