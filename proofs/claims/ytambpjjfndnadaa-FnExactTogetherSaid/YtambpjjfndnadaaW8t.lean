/- Chapter 8: Together's contracts as the law's walk takes them. -/
import Derived.Test.YtambpjjfndnadaaF8
import Derived.Test.YtambpjjfndnadaaN8o
import Derived.Test.YtambpjjfndnadaaI8t
/- Chapter 8: a step of a stack leaves a store's size as it is. -/
namespace Go.Proofs.Ytambpjjfndnadaa
set_option maxRecDepth 100000
open Go.RowKit Go.Proofs Go.Own
theorem eSum_set2 : ∀ (ds : List DescD) (k : Nat) (x : DescD) (h : k < ds.length), x.entries_ = ds[k].entries_ → eSum (ds.set k x) = eSum ds
  | [], k, x, h, _ => by simp at h
  | d :: ds, 0, x, h, e => by unfold eSum; simp only [List.getElem_cons_zero] at e; simp [List.set_cons_zero, e]
  | d :: ds, k+1, x, h, e => by
    have h9 := eSum_set2 ds k x (by simpa using h) (by simpa using e)
    unfold eSum at h9 ⊢
    simp only [List.set_cons_succ, List.map_cons, List.sum_cons]
    omega
theorem stepD_sum (ds : List DescD) (f : Frame) (hk : f.desc_.toNat < ds.length) : eSum (stepD ds f) = eSum ds := by
  have e1 : ∀ st, (decD st (dAt ds f.desc_)).entries_ = ds[f.desc_.toNat].entries_ := fun st => by
    have e2 : dAt ds f.desc_ = ds[f.desc_.toNat] := by unfold dAt; rw [List.getElem?_eq_getElem hk]
    unfold decD
    split <;> rw [e2]
  unfold stepD
  split
  · exact eSum_set2 ds _ _ hk (e1 1)
  · split
    · exact eSum_set2 ds _ _ hk (e1 2)
    · rfl
theorem helpR_sum {x : HS} (h : x.ok) : (helpR x).hs.length = x.hs.length ∧ szD (helpR x).ds = szD x.ds := by
  by_cases hz : x.st.length = 0
  · rw [helpR_nil hz]; exact ⟨rfl, rfl⟩
  · rw [helpR_cons hz]
    have hf := ((stackOk_iff.1 h).2.2 _ (top_mem hz)).2
    obtain ⟨-, k, hk, hkl, -⟩ := frameOk_parts hf
    refine ⟨stepH_len _ _ _, ?_⟩
    have h9 := stepD_sum x.ds (topF x.st) (by rw [hk]; simpa using hkl)
    have h8 := stepD_len x.ds (topF x.st)
    show szD (stepD x.ds (topF x.st)) = szD x.ds
    unfold szD
    rw [h9, h8]
theorem helpR_B {hs : List Head} {ds : List DescD} {st : List Frame} (hk : stackOk hs ds st = true) (h : StoreB ⟨hs, ds⟩) : StoreB ⟨(helpR ⟨hs, ds, st⟩).hs, (helpR ⟨hs, ds, st⟩).ds⟩ := by
  obtain ⟨h1, h2⟩ := helpR_sum (x := ⟨hs, ds, st⟩) hk
  unfold StoreB at h ⊢
  dsimp only at h h1 h2 ⊢
  rw [h1, h2]
  exact h
end Go.Proofs.Ytambpjjfndnadaa
namespace Go.Proofs.Ytambpjjfndnadaa
set_option maxRecDepth 100000
open Go.RowKit Go.Proofs Go.Own
set_option linter.unusedVariables false
def togD (s : StoreD) (a b : List Frame) (ts : List Bool) : StoreD := ⟨(togA_ s.heads_ s.descs_ a b ts).hs, (togA_ s.heads_ s.descs_ a b ts).ds⟩
def togA (s : StoreD) (a b : List Frame) (ts : List Bool) : List Frame := (togA_ s.heads_ s.descs_ a b ts).a
def togB (s : StoreD) (a b : List Frame) (ts : List Bool) : List Frame := (togA_ s.heads_ s.descs_ a b ts).b
theorem togAt_sum {ts : List Bool} {x : TS} (h : x.ok) : ∀ k, k ≤ ts.length → (togAt ts x k).hs.length = x.hs.length ∧ szD (togAt ts x k).ds = szD x.ds
  | 0, _ => ⟨rfl, rfl⟩
  | k+1, hk => by
    obtain ⟨h1, h2⟩ := togAt_sum (ts := ts) h k (by omega)
    have ho := togAt_ok (ts := ts) h k (by omega)
    rw [togAt_step (ts := ts) (by omega)]
    cases ts[k] with
    | true => obtain ⟨h3, h4⟩ := helpR_sum (x := ⟨(togAt ts x k).hs, (togAt ts x k).ds, (togAt ts x k).b⟩) ho.2; exact ⟨h3.trans h1, h4.trans h2⟩
    | false => obtain ⟨h3, h4⟩ := helpR_sum (x := ⟨(togAt ts x k).hs, (togAt ts x k).ds, (togAt ts x k).a⟩) ho.1; exact ⟨h3.trans h1, h4.trans h2⟩
theorem togOk_ok {hs : List Head} {ds : List DescD} {a b : List Frame} {ts : List Bool} (h : togOk hs ds a b ts = true) : (⟨hs, ds, a, b⟩ : TS).ok := by
  unfold togOk at h; simp only [Bool.and_eq_true] at h; exact h.1
theorem togDB {s : StoreD} {a b : List Frame} {ts : List Bool} (h : StoreB s) : StoreB (togD s a b ts) := by
  unfold togD togA_
  split
  · rename_i hk
    obtain ⟨h1, h2⟩ := togAt_sum (ts := ts) (togOk_ok hk) ts.length (Nat.le_refl _)
    unfold StoreB at h ⊢
    dsimp only at h1 h2 ⊢
    rw [h1, h2]; exact h
  · exact h
theorem togAB {s : StoreD} {a b : List Frame} {ts : List Bool} (h : FrameSB a) : FrameSB (togA s a b ts) := by
  unfold togA togA_ FrameSB
  split
  · rename_i hk
    have := (stackOk_iff.1 (togAt_ok (ts := ts) (togOk_ok hk) ts.length (Nat.le_refl _)).1).2.1
    omega
  · exact h
theorem togBB {s : StoreD} {a b : List Frame} {ts : List Bool} (h : FrameSB b) : FrameSB (togB s a b ts) := by
  unfold togB togA_ FrameSB
  split
  · rename_i hk
    have := (stackOk_iff.1 (togAt_ok (ts := ts) (togOk_ok hk) ts.length (Nat.le_refl _)).2).2.1
    omega
  · exact h
theorem spec_TogetherW (s : StoreD) (v0 v1 : Value) (a : List Frame) (v2 : Value) (b : List Frame) (v3 : Value) (ts : List Bool) (v4 : Value) (w : World) (r0 : rdsL w v0 s.heads_) (r1 : rdsL w v1 s.descs_) (hb : StoreB s) (r2 : rdsL w v2 a) (hb2 : FrameSB a) (r3 : rdsL w v3 b) (hb3 : FrameSB b) (r4 : rdsL w v4 ts) (hb4 : BoolSB ts) :
    Calls Try.prog 32 #[.agg #[v0, v1], v2, v3, v4] w fun e w' => ∃ u0 u1 u2 u3 : Value, ∃ S0 S1 S2 S3 : Nat → Prop, e = .returned (.tuple #[.agg #[u0, u1], u2, u3]) ∧ ownL S0 w' u0 (togD s a b ts).heads_ ∧ ownL S1 w' u1 (togD s a b ts).descs_ ∧ ownL S2 w' u2 (togA s a b ts) ∧ ownL S3 w' u3 (togB s a b ts) ∧ (∀ k, S0 k → Rg w.heap.size w'.heap.size k) ∧ (∀ k, S1 k → Rg w.heap.size w'.heap.size k) ∧ (∀ k, S2 k → Rg w.heap.size w'.heap.size k) ∧ (∀ k, S3 k → Rg w.heap.size w'.heap.size k) ∧ (∀ k, S0 k → ¬ S1 k) ∧ (∀ k, S0 k → ¬ S2 k) ∧ (∀ k, S0 k → ¬ S3 k) ∧ (∀ k, S1 k → ¬ S2 k) ∧ (∀ k, S1 k → ¬ S3 k) ∧ (∀ k, S2 k → ¬ S3 k) ∧ StoreB (togD s a b ts) ∧ FrameSB (togA s a b ts) ∧ FrameSB (togB s a b ts) ∧ Below w.heap.size w w' :=
  (spec_Together0 s.heads_ s.descs_ a b ts v0 v1 v2 v3 v4 w (storeB_parts hb).1 (storeB_parts hb).2.1 (storeB_parts hb).2.2.1 hb2 hb3 r0 r1 r2 r3 r4).mono fun _ _ ⟨u0, u1, u2, u3, he, ⟨S0, S1, S2, S3, o0, o1, o2, o3, g0, g1, g2, g3, d01, d02, d03, d12, d13, d23⟩, bl⟩ => ⟨u0, u1, u2, u3, S0, S1, S2, S3, he, o0, o1, o2, o3, g0, g1, g2, g3, d01, d02, d03, d12, d13, d23, togDB hb, togAB hb2, togBB hb3, bl⟩
theorem impl_TogetherW (s : StoreD) (v0 v1 : Value) (a : List Frame) (v2 : Value) (b : List Frame) (v3 : Value) (ts : List Bool) (v4 : Value) (w : World) (r0 : rdsL w v0 s.heads_) (r1 : rdsL w v1 s.descs_) (hb : StoreB s) (r2 : rdsL w v2 a) (hb2 : FrameSB a) (r3 : rdsL w v3 b) (hb3 : FrameSB b) (r4 : rdsL w v4 ts) (hb4 : BoolSB ts) :
    Calls Try.prog 34 #[.agg #[v0, v1], v2, v3, v4] w fun e w' => ∃ u0 u1 u2 u3 : Value, ∃ S0 S1 S2 S3 : Nat → Prop, e = .returned (.tuple #[.agg #[u0, u1], u2, u3]) ∧ ownL S0 w' u0 (togD s a b ts).heads_ ∧ ownL S1 w' u1 (togD s a b ts).descs_ ∧ ownL S2 w' u2 (togA s a b ts) ∧ ownL S3 w' u3 (togB s a b ts) ∧ (∀ k, S0 k → Rg w.heap.size w'.heap.size k) ∧ (∀ k, S1 k → Rg w.heap.size w'.heap.size k) ∧ (∀ k, S2 k → Rg w.heap.size w'.heap.size k) ∧ (∀ k, S3 k → Rg w.heap.size w'.heap.size k) ∧ (∀ k, S0 k → ¬ S1 k) ∧ (∀ k, S0 k → ¬ S2 k) ∧ (∀ k, S0 k → ¬ S3 k) ∧ (∀ k, S1 k → ¬ S2 k) ∧ (∀ k, S1 k → ¬ S3 k) ∧ (∀ k, S2 k → ¬ S3 k) ∧ StoreB (togD s a b ts) ∧ FrameSB (togA s a b ts) ∧ FrameSB (togB s a b ts) ∧ Below w.heap.size w w' :=
  (impl_Together0 s.heads_ s.descs_ a b ts v0 v1 v2 v3 v4 w (storeB_parts hb).1 (storeB_parts hb).2.1 (storeB_parts hb).2.2.1 hb2 hb3 r0 r1 r2 r3 r4).mono fun _ _ ⟨u0, u1, u2, u3, he, ⟨S0, S1, S2, S3, o0, o1, o2, o3, g0, g1, g2, g3, d01, d02, d03, d12, d13, d23⟩, bl⟩ => ⟨u0, u1, u2, u3, S0, S1, S2, S3, he, o0, o1, o2, o3, g0, g1, g2, g3, d01, d02, d03, d12, d13, d23, togDB hb, togAB hb2, togBB hb3, bl⟩
end Go.Proofs.Ytambpjjfndnadaa
