/- Chapter 10: contracts as the laws' walks take them. -/
import Derived.Test.YtikiaffgjpddeaaS10n
import Derived.Test.YtikiaffgjpddeaaI10
namespace Go.Proofs.Ytikiaffgjpddeaa
set_option maxRecDepth 100000
open Go.RowKit Go.Proofs Go.Own
set_option linter.unusedVariables false
theorem spec_IdleW (t : ThreadD) (v0 v1 v2 : Value) (w : World) (r0 : rdsL w v0 t.prog_) (r1 : rdsL w v1 t.open_) (r2 : rdsL w v2 t.stack_) (hb : ThreadB t) :
    Calls Try.prog 22 #[.agg #[.int .i64 t.id_, v0, .int .i64 t.at_, .int .i64 t.reg0_, .int .i64 t.reg1_, .int .i64 t.reg2_, .int .i64 t.reg3_, v1, .int .i64 t.check_, v2, .int .i64 t.mine_, .int .i64 t.state_, .int .i64 t.commits_, .int .i64 t.fails_]] w fun e w' => e = .returned (.bool (t.state_ != 0)) ∧ Below w.heap.size w w' := spec_Idle0 t v0 v1 v2 w
theorem impl_IdleW (t : ThreadD) (v0 v1 v2 : Value) (w : World) (r0 : rdsL w v0 t.prog_) (r1 : rdsL w v1 t.open_) (r2 : rdsL w v2 t.stack_) (hb : ThreadB t) :
    Calls Try.prog 23 #[.agg #[.int .i64 t.id_, v0, .int .i64 t.at_, .int .i64 t.reg0_, .int .i64 t.reg1_, .int .i64 t.reg2_, .int .i64 t.reg3_, v1, .int .i64 t.check_, v2, .int .i64 t.mine_, .int .i64 t.state_, .int .i64 t.commits_, .int .i64 t.fails_]] w fun e w' => e = .returned (.bool (t.state_ != 0)) ∧ Below w.heap.size w w' := by
  go_enter Try.func23, Try.ntmps23
  go_wp2
  go_ret
  exact ⟨rfl, (Below.refl _ _).alloc (Nat.le_refl _) _⟩
theorem newThread_B {id : Int} {xs : List Instr} (h : InstrSB xs) : ThreadB (newThread id xs) := by
  unfold newThread ThreadB; unfold InstrSB at h
  split <;> simp <;> omega
theorem spec_NewThreadW (id : Int) (xs : List Instr) (v : Value) (w : World) (r : rdsL w v xs) (hb : InstrSB xs) :
    Calls Try.prog 15 #[.int .i64 id, v] w fun e w' => ∃ u0 u1 u2 : Value, e = .returned (.tuple #[.agg #[.int .i64 (newThread id xs).id_, u0, .int .i64 (newThread id xs).at_, .int .i64 (newThread id xs).reg0_, .int .i64 (newThread id xs).reg1_, .int .i64 (newThread id xs).reg2_, .int .i64 (newThread id xs).reg3_, u1, .int .i64 (newThread id xs).check_, u2, .int .i64 (newThread id xs).mine_, .int .i64 (newThread id xs).state_, .int .i64 (newThread id xs).commits_, .int .i64 (newThread id xs).fails_], .bool (newTOk id xs)]) ∧ rdsL w' u0 (newThread id xs).prog_ ∧ rdsL w' u1 (newThread id xs).open_ ∧ rdsL w' u2 (newThread id xs).stack_ ∧ Below w.heap.size w w' :=
  spec_NewThread0 id v xs w (rdsInstrs.1 r) hb
end Go.Proofs.Ytikiaffgjpddeaa
/- Chapter 10: ThreadOk's contracts as the law's walk takes them. -/
namespace Go.Proofs.Ytikiaffgjpddeaa
set_option maxRecDepth 100000
open Go.RowKit Go.Proofs Go.Own
set_option linter.unusedVariables false
theorem spec_ThreadOkW (s : StoreD) (v0 v1 : Value) (t : ThreadD) (v2 v3 v4 : Value) (w : World) (r0 : rdsL w v0 s.heads_) (r1 : rdsL w v1 s.descs_) (hb : StoreB s) (r2 : rdsL w v2 t.prog_) (r3 : rdsL w v3 t.open_) (r4 : rdsL w v4 t.stack_) (hb2 : ThreadB t) :
    Calls Try.prog 8 #[.agg #[v0, v1], .agg #[.int .i64 t.id_, v2, .int .i64 t.at_, .int .i64 t.reg0_, .int .i64 t.reg1_, .int .i64 t.reg2_, .int .i64 t.reg3_, v3, .int .i64 t.check_, v4, .int .i64 t.mine_, .int .i64 t.state_, .int .i64 t.commits_, .int .i64 t.fails_]] w fun e w' => e = .returned (.bool (threadOk s t)) ∧ Below w.heap.size w w' := spec_ThreadOk0 s t v0 v1 v2 v3 v4 w r0 r1 r2 r3 r4
theorem impl_ThreadOkW (s : StoreD) (v0 v1 : Value) (t : ThreadD) (v2 v3 v4 : Value) (w : World) (r0 : rdsL w v0 s.heads_) (r1 : rdsL w v1 s.descs_) (hb : StoreB s) (r2 : rdsL w v2 t.prog_) (r3 : rdsL w v3 t.open_) (r4 : rdsL w v4 t.stack_) (hb2 : ThreadB t) :
    Calls Try.prog 11 #[.agg #[v0, v1], .agg #[.int .i64 t.id_, v2, .int .i64 t.at_, .int .i64 t.reg0_, .int .i64 t.reg1_, .int .i64 t.reg2_, .int .i64 t.reg3_, v3, .int .i64 t.check_, v4, .int .i64 t.mine_, .int .i64 t.state_, .int .i64 t.commits_, .int .i64 t.fails_]] w fun e w' => e = .returned (.bool (threadOk s t)) ∧ Below w.heap.size w w' := impl_ThreadOk0 s t v0 v1 v2 v3 v4 w r0 r1 r2 r3 r4
end Go.Proofs.Ytikiaffgjpddeaa
