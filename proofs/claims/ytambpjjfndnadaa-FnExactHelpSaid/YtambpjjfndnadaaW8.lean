/- Chapter 8: contracts as the laws' walks take them: StackOk, Help. -/
import Derived.Test.YtambpjjfndnadaaF8
import Derived.Test.YtambpjjfndnadaaN8o
import Derived.Test.YtambpjjfndnadaaI8h
/- Chapter 8: a step of a stack leaves a store's size as it is. -/
namespace Go.Proofs.Ytambpjjfndnadaa
set_option maxRecDepth 100000
open Go.RowKit Go.Proofs Go.Own
theorem eSum_set2 : ∀ (ds : List DescD) (k : Nat) (x : DescD) (h : k < ds.length), x.entries_ = ds[k].entries_ → eSum (ds.set k x) = eSum ds
  | [], k, x, h, _ => by simp at h
  | d :: ds, 0, x, h, e => by unfold eSum; simp only [List.getElem_cons_zero] at e; simp [List.set_cons_zero, e]
  | d :: ds, k+1, x, h, e => by
    have h9 := eSum_set2 ds k x (by simpa using h) (by simpa using e)
    unfold eSum at h9 ⊢
    simp only [List.set_cons_succ, List.map_cons, List.sum_cons]
    omega
theorem stepD_sum (ds : List DescD) (f : Frame) (hk : f.desc_.toNat < ds.length) : eSum (stepD ds f) = eSum ds := by
  have e1 : ∀ st, (decD st (dAt ds f.desc_)).entries_ = ds[f.desc_.toNat].entries_ := fun st => by
    have e2 : dAt ds f.desc_ = ds[f.desc_.toNat] := by unfold dAt; rw [List.getElem?_eq_getElem hk]
    unfold decD
    split <;> rw [e2]
  unfold stepD
  split
  · exact eSum_set2 ds _ _ hk (e1 1)
  · split
    · exact eSum_set2 ds _ _ hk (e1 2)
    · rfl
theorem helpR_sum {x : HS} (h : x.ok) : (helpR x).hs.length = x.hs.length ∧ szD (helpR x).ds = szD x.ds := by
  by_cases hz : x.st.length = 0
  · rw [helpR_nil hz]; exact ⟨rfl, rfl⟩
  · rw [helpR_cons hz]
    have hf := ((stackOk_iff.1 h).2.2 _ (top_mem hz)).2
    obtain ⟨-, k, hk, hkl, -⟩ := frameOk_parts hf
    refine ⟨stepH_len _ _ _, ?_⟩
    have h9 := stepD_sum x.ds (topF x.st) (by rw [hk]; simpa using hkl)
    have h8 := stepD_len x.ds (topF x.st)
    show szD (stepD x.ds (topF x.st)) = szD x.ds
    unfold szD
    rw [h9, h8]
theorem helpR_B {hs : List Head} {ds : List DescD} {st : List Frame} (hk : stackOk hs ds st = true) (h : StoreB ⟨hs, ds⟩) : StoreB ⟨(helpR ⟨hs, ds, st⟩).hs, (helpR ⟨hs, ds, st⟩).ds⟩ := by
  obtain ⟨h1, h2⟩ := helpR_sum (x := ⟨hs, ds, st⟩) hk
  unfold StoreB at h ⊢
  dsimp only at h h1 h2 ⊢
  rw [h1, h2]
  exact h
end Go.Proofs.Ytambpjjfndnadaa
namespace Go.Proofs.Ytambpjjfndnadaa
set_option maxRecDepth 100000
open Go.RowKit Go.Proofs Go.Own
set_option linter.unusedVariables false
theorem spec_StackOkW (s : StoreD) (v0 v1 : Value) (st : List Frame) (v2 : Value) (w : World) (r0 : rdsL w v0 s.heads_) (r1 : rdsL w v1 s.descs_) (hb : StoreB s) (r2 : rdsL w v2 st) (hb2 : FrameSB st) :
    Calls Try.prog 20 #[.agg #[v0, v1], v2] w fun e w' => e = .returned (.bool (stackOk s.heads_ s.descs_ st)) ∧ Below w.heap.size w w' := spec_StackOk0 s.heads_ s.descs_ st v0 v1 v2 w r0 r1 r2
theorem impl_StackOkW (s : StoreD) (v0 v1 : Value) (st : List Frame) (v2 : Value) (w : World) (r0 : rdsL w v0 s.heads_) (r1 : rdsL w v1 s.descs_) (hb : StoreB s) (r2 : rdsL w v2 st) (hb2 : FrameSB st) :
    Calls Try.prog 22 #[.agg #[v0, v1], v2] w fun e w' => e = .returned (.bool (stackOk s.heads_ s.descs_ st)) ∧ Below w.heap.size w w' := impl_StackOk0 s.heads_ s.descs_ st v0 v1 v2 w r0 r1 r2
def helpD (s : StoreD) (st : List Frame) : StoreD := ⟨(helpA s.heads_ s.descs_ st).hs, (helpA s.heads_ s.descs_ st).ds⟩
def helpF (s : StoreD) (st : List Frame) : List Frame := (helpA s.heads_ s.descs_ st).st
theorem helpDB {s : StoreD} {st : List Frame} (h : StoreB s) : StoreB (helpD s st) := by
  unfold helpD helpA
  split
  · rename_i hk
    exact helpR_B hk h
  · exact h
theorem helpFB {s : StoreD} {st : List Frame} (h : FrameSB st) : FrameSB (helpF s st) := by
  unfold helpF helpA FrameSB
  split
  · rename_i hk
    have := (stackOk_iff.1 (help_ok (x := ⟨s.heads_, s.descs_, st⟩) hk)).2.1
    omega
  · exact h
theorem spec_HelpW (s : StoreD) (v0 v1 : Value) (st : List Frame) (v2 : Value) (w : World) (r0 : rdsL w v0 s.heads_) (r1 : rdsL w v1 s.descs_) (hb : StoreB s) (r2 : rdsL w v2 st) (hb2 : FrameSB st) :
    Calls Try.prog 24 #[.agg #[v0, v1], v2] w fun e w' => ∃ u0 u1 u2 : Value, ∃ S0 S1 S2 : Nat → Prop, e = .returned (.tuple #[.agg #[u0, u1], u2]) ∧ ownL S0 w' u0 (helpD s st).heads_ ∧ ownL S1 w' u1 (helpD s st).descs_ ∧ ownL S2 w' u2 (helpF s st) ∧ (∀ k, S0 k → Rg w.heap.size w'.heap.size k) ∧ (∀ k, S1 k → Rg w.heap.size w'.heap.size k) ∧ (∀ k, S2 k → Rg w.heap.size w'.heap.size k) ∧ (∀ k, S0 k → ¬ S1 k) ∧ (∀ k, S0 k → ¬ S2 k) ∧ (∀ k, S1 k → ¬ S2 k) ∧ StoreB (helpD s st) ∧ FrameSB (helpF s st) ∧ Below w.heap.size w w' :=
  (spec_Help0 s.heads_ s.descs_ st v0 v1 v2 w (storeB_parts hb).1 (storeB_parts hb).2.1 (storeB_parts hb).2.2.1 hb2 r0 r1 r2).mono fun _ _ ⟨u0, u1, u2, he, ⟨S0, S1, S2, o0, o1, o2, g0, g1, g2, d01, d02, d12⟩, b⟩ => ⟨u0, u1, u2, S0, S1, S2, he, o0, o1, o2, g0, g1, g2, d01, d02, d12, helpDB hb, helpFB hb2, b⟩
theorem impl_HelpW (s : StoreD) (v0 v1 : Value) (st : List Frame) (v2 : Value) (w : World) (r0 : rdsL w v0 s.heads_) (r1 : rdsL w v1 s.descs_) (hb : StoreB s) (r2 : rdsL w v2 st) (hb2 : FrameSB st) :
    Calls Try.prog 25 #[.agg #[v0, v1], v2] w fun e w' => ∃ u0 u1 u2 : Value, ∃ S0 S1 S2 : Nat → Prop, e = .returned (.tuple #[.agg #[u0, u1], u2]) ∧ ownL S0 w' u0 (helpD s st).heads_ ∧ ownL S1 w' u1 (helpD s st).descs_ ∧ ownL S2 w' u2 (helpF s st) ∧ (∀ k, S0 k → Rg w.heap.size w'.heap.size k) ∧ (∀ k, S1 k → Rg w.heap.size w'.heap.size k) ∧ (∀ k, S2 k → Rg w.heap.size w'.heap.size k) ∧ (∀ k, S0 k → ¬ S1 k) ∧ (∀ k, S0 k → ¬ S2 k) ∧ (∀ k, S1 k → ¬ S2 k) ∧ StoreB (helpD s st) ∧ FrameSB (helpF s st) ∧ Below w.heap.size w w' :=
  (impl_Help0 s.heads_ s.descs_ st v0 v1 v2 w (storeB_parts hb).1 (storeB_parts hb).2.1 (storeB_parts hb).2.2.1 hb2 r0 r1 r2).mono fun _ _ ⟨u0, u1, u2, he, ⟨S0, S1, S2, o0, o1, o2, g0, g1, g2, d01, d02, d12⟩, b⟩ => ⟨u0, u1, u2, S0, S1, S2, he, o0, o1, o2, g0, g1, g2, d01, d02, d12, helpDB hb, helpFB hb2, b⟩
end Go.Proofs.Ytambpjjfndnadaa
