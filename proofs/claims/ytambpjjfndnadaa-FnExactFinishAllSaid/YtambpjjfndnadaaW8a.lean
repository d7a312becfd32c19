/- Chapter 8: FinishAll's contracts as the law's walk takes them. -/
import Derived.Test.YtambpjjfndnadaaF8
import Derived.Test.YtambpjjfndnadaaN8o
import Derived.Test.YtambpjjfndnadaaI8f
import Derived.Test.YtambpjjfndnadaaI8a
/- Chapter 8: Finish's contracts as the law's walk takes them. -/
/- Chapter 8: a step of a stack leaves a store's size as it is. -/
namespace Go.Proofs.Ytambpjjfndnadaa
set_option maxRecDepth 100000
open Go.RowKit Go.Proofs Go.Own
theorem eSum_set2 : ∀ (ds : List DescD) (k : Nat) (x : DescD) (h : k < ds.length), x.entries_ = ds[k].entries_ → eSum (ds.set k x) = eSum ds
  | [], k, x, h, _ => by simp at h
  | d :: ds, 0, x, h, e => by unfold eSum; simp only [List.getElem_cons_zero] at e; simp [List.set_cons_zero, e]
  | d :: ds, k+1, x, h, e => by
    have h9 := eSum_set2 ds k x (by simpa using h) (by simpa using e)
    unfold eSum at h9 ⊢
    simp only [List.set_cons_succ, List.map_cons, List.sum_cons]
    omega
theorem stepD_sum (ds : List DescD) (f : Frame) (hk : f.desc_.toNat < ds.length) : eSum (stepD ds f) = eSum ds := by
  have e1 : ∀ st, (decD st (dAt ds f.desc_)).entries_ = ds[f.desc_.toNat].entries_ := fun st => by
    have e2 : dAt ds f.desc_ = ds[f.desc_.toNat] := by unfold dAt; rw [List.getElem?_eq_getElem hk]
    unfold decD
    split <;> rw [e2]
  unfold stepD
  split
  · exact eSum_set2 ds _ _ hk (e1 1)
  · split
    · exact eSum_set2 ds _ _ hk (e1 2)
    · rfl
theorem helpR_sum {x : HS} (h : x.ok) : (helpR x).hs.length = x.hs.length ∧ szD (helpR x).ds = szD x.ds := by
  by_cases hz : x.st.length = 0
  · rw [helpR_nil hz]; exact ⟨rfl, rfl⟩
  · rw [helpR_cons hz]
    have hf := ((stackOk_iff.1 h).2.2 _ (top_mem hz)).2
    obtain ⟨-, k, hk, hkl, -⟩ := frameOk_parts hf
    refine ⟨stepH_len _ _ _, ?_⟩
    have h9 := stepD_sum x.ds (topF x.st) (by rw [hk]; simpa using hkl)
    have h8 := stepD_len x.ds (topF x.st)
    show szD (stepD x.ds (topF x.st)) = szD x.ds
    unfold szD
    rw [h9, h8]
theorem helpR_B {hs : List Head} {ds : List DescD} {st : List Frame} (hk : stackOk hs ds st = true) (h : StoreB ⟨hs, ds⟩) : StoreB ⟨(helpR ⟨hs, ds, st⟩).hs, (helpR ⟨hs, ds, st⟩).ds⟩ := by
  obtain ⟨h1, h2⟩ := helpR_sum (x := ⟨hs, ds, st⟩) hk
  unfold StoreB at h ⊢
  dsimp only at h h1 h2 ⊢
  rw [h1, h2]
  exact h
end Go.Proofs.Ytambpjjfndnadaa
namespace Go.Proofs.Ytambpjjfndnadaa
set_option maxRecDepth 100000
open Go.RowKit Go.Proofs Go.Own
set_option linter.unusedVariables false
def finD (s : StoreD) (st : List Frame) (m : Int) : StoreD := ⟨(finA s.heads_ s.descs_ st m).x.hs, (finA s.heads_ s.descs_ st m).x.ds⟩
def finN (s : StoreD) (st : List Frame) (m : Int) : Int := (finA s.heads_ s.descs_ st m).n
def finB (s : StoreD) (st : List Frame) (m : Int) : Bool := (finA s.heads_ s.descs_ st m).b
theorem finR_sum : ∀ (k : Nat) {x : HS}, x.ok → (finR k x).1.hs.length = x.hs.length ∧ szD (finR k x).1.ds = szD x.ds
  | 0, x, _ => ⟨rfl, rfl⟩
  | k+1, x, h => by
    by_cases hz : x.st.length = 0
    · rw [finR_nil hz]; exact ⟨rfl, rfl⟩
    · rw [finR_cons hz]
      obtain ⟨h1, h2⟩ := finR_sum k (help_ok h)
      obtain ⟨h3, h4⟩ := helpR_sum h
      exact ⟨h1.trans h3, h2.trans h4⟩
theorem finDB {s : StoreD} {st : List Frame} {m : Int} (h : StoreB s) : StoreB (finD s st m) := by
  unfold finD finA
  split
  · rename_i hk
    have hk2 : stackOk s.heads_ s.descs_ st = true := by unfold finOk at hk; simp only [Bool.and_eq_true] at hk; exact hk.1
    obtain ⟨h1, h2⟩ := finR_sum m.toNat (x := ⟨s.heads_, s.descs_, st⟩) hk2
    unfold StoreB at h ⊢
    dsimp only at h1 h2 ⊢
    rw [h1, h2]; exact h
  · exact h
theorem spec_FinishW (s : StoreD) (v0 v1 : Value) (st : List Frame) (v2 : Value) (m : Int) (w : World) (r0 : rdsL w v0 s.heads_) (r1 : rdsL w v1 s.descs_) (hb : StoreB s) (r2 : rdsL w v2 st) (hb2 : FrameSB st) :
    Calls Try.prog 28 #[.agg #[v0, v1], v2, .int .i64 m] w fun e w' => ∃ u0 u1 : Value, ∃ S0 S1 : Nat → Prop, e = .returned (.tuple #[.agg #[u0, u1], .int .i64 (finN s st m), .bool (finB s st m)]) ∧ ownL S0 w' u0 (finD s st m).heads_ ∧ ownL S1 w' u1 (finD s st m).descs_ ∧ (∀ k, S0 k → Rg w.heap.size w'.heap.size k) ∧ (∀ k, S1 k → Rg w.heap.size w'.heap.size k) ∧ (∀ k, S0 k → ¬ S1 k) ∧ StoreB (finD s st m) ∧ Below w.heap.size w w' :=
  (spec_Finish0 s.heads_ s.descs_ st v0 v1 v2 m w (storeB_parts hb).1 (storeB_parts hb).2.1 (storeB_parts hb).2.2.1 hb2 r0 r1 r2).mono fun _ _ ⟨u0, u1, he, ⟨S0, S1, o0, o1, g0, g1, dj⟩, b⟩ => ⟨u0, u1, S0, S1, he, o0, o1, g0, g1, dj, finDB hb, b⟩
theorem impl_FinishW (s : StoreD) (v0 v1 : Value) (st : List Frame) (v2 : Value) (m : Int) (w : World) (r0 : rdsL w v0 s.heads_) (r1 : rdsL w v1 s.descs_) (hb : StoreB s) (r2 : rdsL w v2 st) (hb2 : FrameSB st) :
    Calls Try.prog 29 #[.agg #[v0, v1], v2, .int .i64 m] w fun e w' => ∃ u0 u1 : Value, ∃ S0 S1 : Nat → Prop, e = .returned (.tuple #[.agg #[u0, u1], .int .i64 (finN s st m), .bool (finB s st m)]) ∧ ownL S0 w' u0 (finD s st m).heads_ ∧ ownL S1 w' u1 (finD s st m).descs_ ∧ (∀ k, S0 k → Rg w.heap.size w'.heap.size k) ∧ (∀ k, S1 k → Rg w.heap.size w'.heap.size k) ∧ (∀ k, S0 k → ¬ S1 k) ∧ StoreB (finD s st m) ∧ Below w.heap.size w w' :=
  (impl_Finish0 s.heads_ s.descs_ st v0 v1 v2 m w (storeB_parts hb).1 (storeB_parts hb).2.1 (storeB_parts hb).2.2.1 hb2 r0 r1 r2).mono fun _ _ ⟨u0, u1, he, ⟨S0, S1, o0, o1, g0, g1, dj⟩, b⟩ => ⟨u0, u1, S0, S1, he, o0, o1, g0, g1, dj, finDB hb, b⟩
end Go.Proofs.Ytambpjjfndnadaa
namespace Go.Proofs.Ytambpjjfndnadaa
set_option maxRecDepth 100000
open Go.RowKit Go.Proofs Go.Own
set_option linter.unusedVariables false
def finAllD (s : StoreD) : StoreD := ⟨(finAllA s.heads_ s.descs_).x.1, (finAllA s.heads_ s.descs_).x.2⟩
def finAllB (s : StoreD) : Bool := (finAllA s.heads_ s.descs_).b
theorem finOne_sum {x : List Head × List DescD} (hso : storeOk x.1 x.2 = true) (h : ¬ (heldC x.1 x.2).length = 0) : (finOne x).1.length = x.1.length ∧ szD (finOne x).2 = szD x.2 := by
  have h9 := finR_sum 2000 (x := ⟨x.1, x.2, heldSt x.1 x.2⟩) (heldSt_ok hso h)
  unfold finOne
  exact h9
theorem finAllR_sum : ∀ (k : Nat) {x y : List Head × List DescD}, storeOk x.1 x.2 = true → finAllR k x = some y → y.1.length = x.1.length ∧ szD y.2 = szD x.2
  | 0, x, y, hso, h => by
    by_cases hz : (heldC x.1 x.2).length = 0
    · rw [finAllR_done hz] at h; cases h; exact ⟨rfl, rfl⟩
    · rw [finAllR_none hz] at h; cases h
  | k+1, x, y, hso, h => by
    by_cases hz : (heldC x.1 x.2).length = 0
    · rw [finAllR_done hz] at h; cases h; exact ⟨rfl, rfl⟩
    · rw [finAllR_step hz] at h
      have h1 := finAllR_sum k (finOne_ok hso hz) h
      have h2 := finOne_sum hso hz
      exact ⟨h1.1.trans h2.1, h1.2.trans h2.2⟩
theorem finAllB_ {s : StoreD} (h : StoreB s) : StoreB (finAllD s) := by
  unfold finAllD
  cases hso : storeOk s.heads_ s.descs_ with
  | false => rw [finAllA_no hso]; exact h
  | true =>
    cases e : finAllR 60 (s.heads_, s.descs_) with
    | none => rw [finAllA_none hso e]; exact h
    | some y =>
      rw [finAllA_some hso e]
      obtain ⟨h1, h2⟩ := finAllR_sum 60 (x := (s.heads_, s.descs_)) hso e
      unfold StoreB at h ⊢
      dsimp only at h1 h2 ⊢
      rw [h1, h2]; exact h
theorem spec_FinishAllW (s : StoreD) (v0 v1 : Value) (w : World) (r0 : rdsL w v0 s.heads_) (r1 : rdsL w v1 s.descs_) (hb : StoreB s) :
    Calls Try.prog 30 #[.agg #[v0, v1]] w fun e w' => ∃ u0 u1 : Value, ∃ S0 S1 : Nat → Prop, e = .returned (.tuple #[.agg #[u0, u1], .bool (finAllB s)]) ∧ ownL S0 w' u0 (finAllD s).heads_ ∧ ownL S1 w' u1 (finAllD s).descs_ ∧ (∀ k, S0 k → Rg w.heap.size w'.heap.size k) ∧ (∀ k, S1 k → Rg w.heap.size w'.heap.size k) ∧ (∀ k, S0 k → ¬ S1 k) ∧ StoreB (finAllD s) ∧ Below w.heap.size w w' :=
  (spec_FinishAll0 s.heads_ s.descs_ v0 v1 w (storeB_parts hb).1 (storeB_parts hb).2.1 (storeB_parts hb).2.2.1 r0 r1).mono fun _ _ ⟨u0, u1, he, ⟨S0, S1, o0, o1, g0, g1, dj⟩, b⟩ => ⟨u0, u1, S0, S1, he, o0, o1, g0, g1, dj, finAllB_ hb, b⟩
theorem impl_FinishAllW (s : StoreD) (v0 v1 : Value) (w : World) (r0 : rdsL w v0 s.heads_) (r1 : rdsL w v1 s.descs_) (hb : StoreB s) :
    Calls Try.prog 31 #[.agg #[v0, v1]] w fun e w' => ∃ u0 u1 : Value, ∃ S0 S1 : Nat → Prop, e = .returned (.tuple #[.agg #[u0, u1], .bool (finAllB s)]) ∧ ownL S0 w' u0 (finAllD s).heads_ ∧ ownL S1 w' u1 (finAllD s).descs_ ∧ (∀ k, S0 k → Rg w.heap.size w'.heap.size k) ∧ (∀ k, S1 k → Rg w.heap.size w'.heap.size k) ∧ (∀ k, S0 k → ¬ S1 k) ∧ StoreB (finAllD s) ∧ Below w.heap.size w w' :=
  (impl_FinishAll0 s.heads_ s.descs_ v0 v1 w (storeB_parts hb).1 (storeB_parts hb).2.1 (storeB_parts hb).2.2.1 r0 r1).mono fun _ _ ⟨u0, u1, he, ⟨S0, S1, o0, o1, g0, g1, dj⟩, b⟩ => ⟨u0, u1, S0, S1, he, o0, o1, g0, g1, dj, finAllB_ hb, b⟩
end Go.Proofs.Ytambpjjfndnadaa
