/- Chapter 7: contracts as the laws' walks take them. -/
import Derived.Test.YtpdgpblekbongaaN7o
import Derived.Test.YtpdgpblekbongaaI7d
import Derived.Test.YtpdgpblekbongaaI7h
namespace Go.Proofs.Ytpdgpblekbongaa
set_option maxRecDepth 100000
open Go.RowKit Go.Proofs Go.Own
set_option linter.unusedVariables false
theorem spec_StoreOkW (s : StoreD) (v0 v1 : Value) (w : World) (r0 : rdsL w v0 s.heads_) (r1 : rdsL w v1 s.descs_) (hb : StoreB s) :
    Calls Try.prog 11 #[.agg #[v0, v1]] w fun e w' => e = .returned (.bool (storeOk s.heads_ s.descs_)) ∧ Below w.heap.size w w' := spec_StoreOk0 s.heads_ s.descs_ v0 v1 w r0 r1
theorem impl_StoreOkW (s : StoreD) (v0 v1 : Value) (w : World) (r0 : rdsL w v0 s.heads_) (r1 : rdsL w v1 s.descs_) (hb : StoreB s) :
    Calls Try.prog 13 #[.agg #[v0, v1]] w fun e w' => e = .returned (.bool (storeOk s.heads_ s.descs_)) ∧ Below w.heap.size w w' := impl_StoreOk0 s.heads_ s.descs_ v0 v1 w r0 r1
def lookD (s : StoreD) (o : Int) : Head := lookH s.heads_ s.descs_ o
theorem spec_LookW (s : StoreD) (v0 v1 : Value) (o : Int) (w : World) (r0 : rdsL w v0 s.heads_) (r1 : rdsL w v1 s.descs_) (hb : StoreB s) :
    Calls Try.prog 22 #[.agg #[v0, v1], .int .i64 o] w fun e w' => e = .returned (.tuple #[.agg #[.int .i64 (lookD s o).value_, .int .i64 (lookD s o).version_, .int .i64 (lookD s o).desc_], .bool (lookOk s.heads_ s.descs_ o)]) ∧ Below w.heap.size w w' := spec_Look0 s.heads_ s.descs_ v0 v1 o w r0 r1
theorem impl_LookW (s : StoreD) (v0 v1 : Value) (o : Int) (w : World) (r0 : rdsL w v0 s.heads_) (r1 : rdsL w v1 s.descs_) (hb : StoreB s) :
    Calls Try.prog 23 #[.agg #[v0, v1], .int .i64 o] w fun e w' => e = .returned (.tuple #[.agg #[.int .i64 (lookD s o).value_, .int .i64 (lookD s o).version_, .int .i64 (lookD s o).desc_], .bool (lookOk s.heads_ s.descs_ o)]) ∧ Below w.heap.size w w' := impl_Look0 s.heads_ s.descs_ v0 v1 o w r0 r1
theorem spec_FrameOkW (s : StoreD) (v0 v1 : Value) (f : Frame) (w : World) (r0 : rdsL w v0 s.heads_) (r1 : rdsL w v1 s.descs_) (hb : StoreB s) :
    Calls Try.prog 31 #[.agg #[v0, v1], .agg #[.int .i64 f.desc_, .int .i64 f.phase_, .int .i64 f.at_]] w fun e w' => e = .returned (.bool (frameOk s.heads_ s.descs_ f)) ∧ Below w.heap.size w w' := spec_FrameOk0 s.heads_ s.descs_ v0 v1 f w r0 r1
theorem impl_FrameOkW (s : StoreD) (v0 v1 : Value) (f : Frame) (w : World) (r0 : rdsL w v0 s.heads_) (r1 : rdsL w v1 s.descs_) (hb : StoreB s) :
    Calls Try.prog 33 #[.agg #[v0, v1], .agg #[.int .i64 f.desc_, .int .i64 f.phase_, .int .i64 f.at_]] w fun e w' => e = .returned (.bool (frameOk s.heads_ s.descs_ f)) ∧ Below w.heap.size w w' := impl_FrameOk0 s.heads_ s.descs_ v0 v1 f w r0 r1
theorem spec_HeldW (s : StoreD) (v0 v1 : Value) (w : World) (r0 : rdsL w v0 s.heads_) (r1 : rdsL w v1 s.descs_) (hb : StoreB s) :
    Calls Try.prog 37 #[.agg #[v0, v1]] w fun e w' => ∃ u : Value, e = .returned u ∧ rdsL w' u (heldC s.heads_ s.descs_) ∧ Below w.heap.size w w' :=
  (spec_Held0 s.heads_ s.descs_ v0 v1 w (storeB_parts hb).1 r0 r1).mono fun _ _ ⟨u, he, ho, b⟩ => ⟨u, he, rdsInts.2 (Flat.of_owns ho), b⟩
theorem impl_HeldW (s : StoreD) (v0 v1 : Value) (w : World) (r0 : rdsL w v0 s.heads_) (r1 : rdsL w v1 s.descs_) (hb : StoreB s) :
    Calls Try.prog 38 #[.agg #[v0, v1]] w fun e w' => ∃ u : Value, ∃ S : Nat → Prop, e = .returned u ∧ ownL S w' u (heldC s.heads_ s.descs_) ∧ (∀ k, S k → Rg w.heap.size w'.heap.size k) ∧ IntSB (heldC s.heads_ s.descs_) ∧ Below w.heap.size w w' :=
  (impl_Held0 s.heads_ s.descs_ v0 v1 w (storeB_parts hb).1 r0 r1).mono fun _ _ ⟨u, he, ho, b⟩ => ⟨u, _, he, ownI_of ho, fun _ h => h, by have := heldC_len s.heads_ s.descs_; unfold IntSB; omega, b⟩
def newD (xs : List Int) : StoreD := ⟨newH xs, []⟩
theorem newH_len (xs : List Int) (h : xs.length ≤ 1048576) : (newH xs).length ≤ 1048576 := by
  unfold newH; split
  · rw [List.length_map]; exact h
  · simp
theorem spec_NewStoreW (xs : List Int) (v : Value) (w : World) (r : rdsL w v xs) (hb : IntSB xs) :
    Calls Try.prog 15 #[v] w fun e w' => ∃ u0 u1 : Value, e = .returned (.tuple #[.agg #[u0, u1], .bool (newOk xs)]) ∧ rdsL w' u0 (newD xs).heads_ ∧ rdsL w' u1 (newD xs).descs_ ∧ Below w.heap.size w w' :=
  (spec_NewStore0 xs v w (rdsInts.1 r) hb).mono fun _ _ ⟨u0, S0, he, ho, hs, b⟩ => ⟨u0, _, he, ownL.rds ho, ownL.rds (ownL_nil (fun _ => False) _), b⟩
theorem impl_NewStoreW (xs : List Int) (v : Value) (w : World) (r : rdsL w v xs) (hb : IntSB xs) :
    Calls Try.prog 17 #[v] w fun e w' => ∃ u0 u1 : Value, ∃ S0 S1 : Nat → Prop, e = .returned (.tuple #[.agg #[u0, u1], .bool (newOk xs)]) ∧ ownL S0 w' u0 (newD xs).heads_ ∧ ownL S1 w' u1 (newD xs).descs_ ∧ (∀ k, S0 k → Rg w.heap.size w'.heap.size k) ∧ (∀ k, S1 k → Rg w.heap.size w'.heap.size k) ∧ (∀ k, S0 k → ¬ S1 k) ∧ StoreB (newD xs) ∧ Below w.heap.size w w' :=
  (impl_NewStore0 xs v w (rdsInts.1 r) hb).mono fun _ _ ⟨u0, S0, he, ho, hs, b⟩ => ⟨u0, _, S0, fun _ => False, he, ho, ownL_nil _ _, hs, fun _ h => h.elim, fun _ _ h => h, by
    have := newH_len xs hb
    show (newH xs).length + szD [] ≤ 1048576
    simp only [szD, eSum]; simpa using this, b⟩
end Go.Proofs.Ytpdgpblekbongaa
