/- Chapter 10: contracts as the laws' walks take them. -/
import Derived.Test.YtikiaffgjpddeaaS10n
import Derived.Test.YtikiaffgjpddeaaI10c
namespace Go.Proofs.Ytikiaffgjpddeaa
set_option maxRecDepth 100000
open Go.RowKit Go.Proofs Go.Own
set_option linter.unusedVariables false
theorem spec_IdleW (t : ThreadD) (v0 v1 v2 : Value) (w : World) (r0 : rdsL w v0 t.prog_) (r1 : rdsL w v1 t.open_) (r2 : rdsL w v2 t.stack_) (hb : ThreadB t) :
    Calls Try.prog 22 #[.agg #[.int .i64 t.id_, v0, .int .i64 t.at_, .int .i64 t.reg0_, .int .i64 t.reg1_, .int .i64 t.reg2_, .int .i64 t.reg3_, v1, .int .i64 t.check_, v2, .int .i64 t.mine_, .int .i64 t.state_, .int .i64 t.commits_, .int .i64 t.fails_]] w fun e w' => e = .returned (.bool (t.state_ != 0)) ∧ Below w.heap.size w w' := spec_Idle0 t v0 v1 v2 w
theorem impl_IdleW (t : ThreadD) (v0 v1 v2 : Value) (w : World) (r0 : rdsL w v0 t.prog_) (r1 : rdsL w v1 t.open_) (r2 : rdsL w v2 t.stack_) (hb : ThreadB t) :
    Calls Try.prog 23 #[.agg #[.int .i64 t.id_, v0, .int .i64 t.at_, .int .i64 t.reg0_, .int .i64 t.reg1_, .int .i64 t.reg2_, .int .i64 t.reg3_, v1, .int .i64 t.check_, v2, .int .i64 t.mine_, .int .i64 t.state_, .int .i64 t.commits_, .int .i64 t.fails_]] w fun e w' => e = .returned (.bool (t.state_ != 0)) ∧ Below w.heap.size w w' := by
  go_enter Try.func23, Try.ntmps23
  go_wp2
  go_ret
  exact ⟨rfl, (Below.refl _ _).alloc (Nat.le_refl _) _⟩
theorem newThread_B {id : Int} {xs : List Instr} (h : InstrSB xs) : ThreadB (newThread id xs) := by
  unfold newThread ThreadB; unfold InstrSB at h
  split <;> simp <;> omega
theorem spec_NewThreadW (id : Int) (xs : List Instr) (v : Value) (w : World) (r : rdsL w v xs) (hb : InstrSB xs) :
    Calls Try.prog 15 #[.int .i64 id, v] w fun e w' => ∃ u0 u1 u2 : Value, e = .returned (.tuple #[.agg #[.int .i64 (newThread id xs).id_, u0, .int .i64 (newThread id xs).at_, .int .i64 (newThread id xs).reg0_, .int .i64 (newThread id xs).reg1_, .int .i64 (newThread id xs).reg2_, .int .i64 (newThread id xs).reg3_, u1, .int .i64 (newThread id xs).check_, u2, .int .i64 (newThread id xs).mine_, .int .i64 (newThread id xs).state_, .int .i64 (newThread id xs).commits_, .int .i64 (newThread id xs).fails_], .bool (newTOk id xs)]) ∧ rdsL w' u0 (newThread id xs).prog_ ∧ rdsL w' u1 (newThread id xs).open_ ∧ rdsL w' u2 (newThread id xs).stack_ ∧ Below w.heap.size w w' :=
  spec_NewThread0 id v xs w (rdsInstrs.1 r) hb
end Go.Proofs.Ytikiaffgjpddeaa
/- Chapter 10: NewThread's contract as the law's walk takes it. (printed by tools/mk_w10n.py) -/
namespace Go.Proofs.Ytikiaffgjpddeaa
set_option maxRecDepth 100000
open Go.RowKit Go.Proofs Go.Own
set_option linter.unusedVariables false
theorem impl_NewThreadW (id : Int) (xs : List Instr) (v : Value) (w : World) (r : rdsL w v xs) (hb : InstrSB xs) :
    Calls Try.prog 17 #[.int .i64 id, v] w fun e w' => ∃ u0 u1 u2 : Value, ∃ S0 S1 S2 : Nat → Prop, e = .returned (.tuple #[.agg #[.int .i64 (newThread id xs).id_, u0, .int .i64 (newThread id xs).at_, .int .i64 (newThread id xs).reg0_, .int .i64 (newThread id xs).reg1_, .int .i64 (newThread id xs).reg2_, .int .i64 (newThread id xs).reg3_, u1, .int .i64 (newThread id xs).check_, u2, .int .i64 (newThread id xs).mine_, .int .i64 (newThread id xs).state_, .int .i64 (newThread id xs).commits_, .int .i64 (newThread id xs).fails_], .bool (newTOk id xs)]) ∧ ownL S0 w' u0 (newThread id xs).prog_ ∧ ownL S1 w' u1 (newThread id xs).open_ ∧ ownL S2 w' u2 (newThread id xs).stack_ ∧ (∀ k, S0 k → Rg w.heap.size w'.heap.size k) ∧ (∀ k, S1 k → Rg w.heap.size w'.heap.size k) ∧ (∀ k, S2 k → Rg w.heap.size w'.heap.size k) ∧ (∀ k, S0 k → ¬ S1 k) ∧ (∀ k, S0 k → ¬ S2 k) ∧ (∀ k, S1 k → ¬ S2 k) ∧ ThreadB (newThread id xs) ∧ Below w.heap.size w w' := by
  refine (impl_NewThread0 id xs v w r hb).mono ?_
  rintro e w' ⟨u0, u1, u2, rfl, ⟨S0, S1, S2, o0, o1, o2, r0, r1, r2, d01, d02, d12⟩, b⟩
  exact ⟨u0, u1, u2, S0, S1, S2, rfl, o0, o1, o2, r0, r1, r2, d01, d02, d12, newThread_B hb, b⟩
end Go.Proofs.Ytikiaffgjpddeaa
