/- Chapter 7: Drive's contracts as the law's walk takes them. -/
import Derived.Test.YtambpjjfndnadaaN7o
import Derived.Test.YtambpjjfndnadaaS7h
import Derived.Test.YtambpjjfndnadaaI7m
namespace Go.Proofs.Ytambpjjfndnadaa
set_option maxRecDepth 100000
open Go.RowKit Go.Proofs Go.Own
set_option linter.unusedVariables false
def driveD (s : StoreD) (f : Frame) : StoreD := ⟨(driveR s.heads_ s.descs_ f).hs, (driveR s.heads_ s.descs_ f).ds⟩
def driveF (s : StoreD) (f : Frame) : Frame := (driveR s.heads_ s.descs_ f).f
def driveN (s : StoreD) (f : Frame) : Int := (driveR s.heads_ s.descs_ f).n
theorem eSum_set : ∀ (ds : List DescD) (k : Nat) (x : DescD) (h : k < ds.length), x.entries_ = ds[k].entries_ → eSum (ds.set k x) = eSum ds
  | [], k, x, h, _ => by simp at h
  | d :: ds, 0, x, h, e => by unfold eSum; simp only [List.getElem_cons_zero] at e; simp [List.set_cons_zero, e]
  | d :: ds, k+1, x, h, e => by
    have h9 := eSum_set ds k x (by simpa using h) (by simpa using e)
    unfold eSum at h9 ⊢
    simp only [List.set_cons_succ, List.map_cons, List.sum_cons]
    omega
theorem stepD_eSum (ds : List DescD) (f : Frame) (hk : f.desc_.toNat < ds.length) : eSum (stepD ds f) = eSum ds := by
  have e1 : ∀ st, (decD st (dAt ds f.desc_)).entries_ = ds[f.desc_.toNat].entries_ := fun st => by
    have e2 : dAt ds f.desc_ = ds[f.desc_.toNat] := by unfold dAt; rw [List.getElem?_eq_getElem hk]
    unfold decD
    split <;> rw [e2]
  unfold stepD
  split
  · exact eSum_set ds _ _ hk (e1 1)
  · split
    · exact eSum_set ds _ _ hk (e1 2)
    · rfl
theorem driveB {s : StoreD} {f : Frame} (h : StoreB s) : StoreB (driveD s f) := by
  unfold StoreB at h ⊢
  unfold driveD driveR
  split
  · rename_i hf
    obtain ⟨-, k, hk, hkl, -⟩ := frameOk_parts hf
    have h9 := stepD_eSum s.descs_ f (by rw [hk]; simpa using hkl)
    have h8 := stepD_len s.descs_ f
    show (stepH s.heads_ s.descs_ f).length + szD (stepD s.descs_ f) ≤ 1048576
    rw [stepH_len]
    unfold szD at h ⊢
    omega
  · exact h
theorem spec_DriveW (s : StoreD) (v0 v1 : Value) (f : Frame) (w : World) (r0 : rdsL w v0 s.heads_) (r1 : rdsL w v1 s.descs_) (hb : StoreB s) :
    Calls Try.prog 11 #[.agg #[v0, v1], .agg #[.int .i64 f.desc_, .int .i64 f.phase_, .int .i64 f.at_]] w fun e w' => ∃ u0 u1 : Value, ∃ S0 S1 : Nat → Prop, e = .returned (.tuple #[.agg #[u0, u1], .agg #[.int .i64 (driveF s f).desc_, .int .i64 (driveF s f).phase_, .int .i64 (driveF s f).at_], .int .i64 (driveN s f)]) ∧ ownL S0 w' u0 (driveD s f).heads_ ∧ ownL S1 w' u1 (driveD s f).descs_ ∧ (∀ k, S0 k → Rg w.heap.size w'.heap.size k) ∧ (∀ k, S1 k → Rg w.heap.size w'.heap.size k) ∧ (∀ k, S0 k → ¬ S1 k) ∧ StoreB (driveD s f) ∧ Below w.heap.size w w' :=
  (spec_Drive0 s.heads_ s.descs_ f v0 v1 w (storeB_parts hb).1 (storeB_parts hb).2.1 (storeB_parts hb).2.2.1 r0 r1).mono fun _ _ ⟨u0, u1, he, ⟨S0, S1, o0, o1, g0, g1, dj⟩, b⟩ => ⟨u0, u1, S0, S1, he, o0, o1, g0, g1, dj, driveB hb, b⟩
theorem impl_DriveW (s : StoreD) (v0 v1 : Value) (f : Frame) (w : World) (r0 : rdsL w v0 s.heads_) (r1 : rdsL w v1 s.descs_) (hb : StoreB s) :
    Calls Try.prog 14 #[.agg #[v0, v1], .agg #[.int .i64 f.desc_, .int .i64 f.phase_, .int .i64 f.at_]] w fun e w' => ∃ u0 u1 : Value, ∃ S0 S1 : Nat → Prop, e = .returned (.tuple #[.agg #[u0, u1], .agg #[.int .i64 (driveF s f).desc_, .int .i64 (driveF s f).phase_, .int .i64 (driveF s f).at_], .int .i64 (driveN s f)]) ∧ ownL S0 w' u0 (driveD s f).heads_ ∧ ownL S1 w' u1 (driveD s f).descs_ ∧ (∀ k, S0 k → Rg w.heap.size w'.heap.size k) ∧ (∀ k, S1 k → Rg w.heap.size w'.heap.size k) ∧ (∀ k, S0 k → ¬ S1 k) ∧ StoreB (driveD s f) ∧ Below w.heap.size w w' :=
  (impl_Drive0 s.heads_ s.descs_ f v0 v1 w (storeB_parts hb).1 (storeB_parts hb).2.1 (storeB_parts hb).2.2.1 r0 r1).mono fun _ _ ⟨u0, u1, he, ⟨S0, S1, o0, o1, g0, g1, dj⟩, b⟩ => ⟨u0, u1, S0, S1, he, o0, o1, g0, g1, dj, driveB hb, b⟩
end Go.Proofs.Ytambpjjfndnadaa
