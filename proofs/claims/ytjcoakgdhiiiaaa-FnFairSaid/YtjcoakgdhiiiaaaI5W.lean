/- Chapter 5's program: contracts as the laws' walks take them. -/
import Derived.Test.YtjcoakgdhiiiaaaI5
import Derived.Test.YtjcoakgdhiiiaaaI5b
import Derived.Test.YtjcoakgdhiiiaaaI5d
import Derived.Test.YtjcoakgdhiiiaaaI5e
namespace Go.Proofs.Ytjcoakgdhiiiaaa
set_option maxRecDepth 100000
open Go.RowKit Go.Proofs Go.Own
set_option linter.unusedVariables false
theorem impl_ScheduleOkW (v : Value) (xs : List Run) (w : World) (h : Runs w v xs) (hx : xs.length ≤ 1048576) :
    Calls Try.prog 19 #[v] w fun e w' => e = .returned (.bool (schedOk xs)) ∧ Below w.heap.size w w' := impl_ScheduleOk v xs w h
theorem impl_Left5W (v : Value) (xs : List Int) (t f : Int) (w : World) (h : Ints w v xs) (hx : xs.length ≤ 1048576) :
    Calls Try.prog 13 #[v, .int .i64 t, .int .i64 f] w fun e w' => e = .returned (.int .i64 (leftC xs t f)) ∧ Below w.heap.size w w' := impl_Left5 v xs t f w h hx
theorem impl_WaysOfW (v : Value) (xs : List Int) (w : World) (h : Ints w v xs) (hx : xs.length ≤ 1048576) :
    Calls Try.prog 14 #[v] w fun e w' => e = .returned (.tuple #[.int .i64 ((waysC xs).getD 0 : Nat), .bool (waysC xs).isSome]) ∧ Below w.heap.size w w' := impl_WaysOf v xs w h hx
theorem impl_FairW (v : Value) (xs : List Int) (th win : Int) (w : World) (h : Ints w v xs) (hx : xs.length ≤ 1048576) :
    Calls Try.prog 11 #[v, .int .i64 th, .int .i64 win] w fun e w' => e = .returned (.tuple #[.int .i64 (fairC xs th win), .bool (fairOk xs th win)]) ∧ Below w.heap.size w w' := impl_Fair v xs th win w h hx
end Go.Proofs.Ytjcoakgdhiiiaaa
