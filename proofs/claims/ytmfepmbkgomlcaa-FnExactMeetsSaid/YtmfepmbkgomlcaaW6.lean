/- Chapter 6: contracts as the laws' walks take them. -/
import Derived.Test.YtmfepmbkgomlcaaS6c
import Derived.Test.YtmfepmbkgomlcaaI6d
import Derived.Test.YtmfepmbkgomlcaaI6f
namespace Go.Proofs.Ytmfepmbkgomlcaa
set_option maxRecDepth 100000
open Go.RowKit Go.Proofs Go.Own
set_option linter.unusedVariables false
theorem spec_OpenOkW (v : Value) (xs : List Entry) (w : World) (h : Entrys w v xs) (hx : xs.length ≤ 1048576) :
    Calls Try.prog 11 #[v] w fun e w' => e = .returned (.bool (openOk xs)) ∧ Below w.heap.size w w' := spec_OpenOk v xs w h
theorem impl_OpenOkW (v : Value) (xs : List Entry) (w : World) (h : Entrys w v xs) (hx : xs.length ≤ 1048576) :
    Calls Try.prog 13 #[v] w fun e w' => e = .returned (.bool (openOk xs)) ∧ Below w.heap.size w w' := impl_OpenOk v xs w h
theorem spec_OpenedW (v : Value) (xs : List Entry) (o : Int) (w : World) (h : Entrys w v xs) (hx : xs.length ≤ 1048576) :
    Calls Try.prog 15 #[v, .int .i64 o] w fun e w' => e = .returned (.int .i64 (openedC xs o)) ∧ Below w.heap.size w w' := spec_Opened0 v xs o w h
theorem impl_OpenedW (v : Value) (xs : List Entry) (o : Int) (w : World) (h : Entrys w v xs) (hx : xs.length ≤ 1048576) :
    Calls Try.prog 16 #[v, .int .i64 o] w fun e w' => e = .returned (.int .i64 (openedC xs o)) ∧ Below w.heap.size w w' := impl_Opened v xs o w h
theorem spec_AddReadW (v : Value) (xs : List Entry) (o n x : Int) (w : World) (h : Entrys w v xs) (hx : xs.length ≤ 1048576) :
    Calls Try.prog 17 #[v, .int .i64 o, .int .i64 n, .int .i64 x] w fun e w' => ∃ v' : Value, e = .returned (.tuple #[v', .int .i64 (addC xs o n x)]) ∧ Entrys w' v' (addL xs o n x) ∧ Below w.heap.size w w' :=
  (spec_AddRead0 v xs o n x w h hx).mono fun _ _ ⟨v', he, ho, b⟩ => ⟨v', he, Flat.of_owns ho, b⟩
theorem impl_AddReadW (v : Value) (xs : List Entry) (o n x : Int) (w : World) (h : Entrys w v xs) (hx : xs.length ≤ 1048576) :
    Calls Try.prog 18 #[v, .int .i64 o, .int .i64 n, .int .i64 x] w fun e w' => ∃ v' : Value, e = .returned (.tuple #[v', .int .i64 (addC xs o n x)]) ∧ w'.ownsRow w.heap.size 53 5 v' (addL xs o n x).length ((addL xs o n x).flatMap Entry.enc) ∧ (addL xs o n x).length ≤ 1048576 ∧ Below w.heap.size w w' :=
  (impl_AddRead0 v xs o n x w h hx).mono fun _ _ ⟨v', he, ho, b⟩ => ⟨v', he, ho, addL_len xs o n x hx, b⟩
theorem spec_SetNewW (v : Value) (xs : List Entry) (o x : Int) (w : World) (h : Entrys w v xs) (hx : xs.length ≤ 1048576) :
    Calls Try.prog 21 #[v, .int .i64 o, .int .i64 x] w fun e w' => ∃ v' : Value, e = .returned (.tuple #[v', .bool (setOkC xs o x)]) ∧ Entrys w' v' (setL xs o x) ∧ Below w.heap.size w w' :=
  (spec_SetNew0 v xs o x w h hx).mono fun _ _ ⟨v', he, ho, b⟩ => ⟨v', he, Flat.of_owns ho, b⟩
theorem impl_SetNewW (v : Value) (xs : List Entry) (o x : Int) (w : World) (h : Entrys w v xs) (hx : xs.length ≤ 1048576) :
    Calls Try.prog 22 #[v, .int .i64 o, .int .i64 x] w fun e w' => ∃ v' : Value, e = .returned (.tuple #[v', .bool (setOkC xs o x)]) ∧ w'.ownsRow w.heap.size 53 5 v' (setL xs o x).length ((setL xs o x).flatMap Entry.enc) ∧ (setL xs o x).length ≤ 1048576 ∧ Below w.heap.size w w' :=
  (impl_SetNew0 v xs o x w h hx).mono fun _ _ ⟨v', he, ho, b⟩ => ⟨v', he, ho, by rw [setL_len]; exact hx, b⟩
theorem spec_DescOkW (ow st : Int) (v : Value) (xs : List Entry) (w : World) (h : Entrys w v xs) (hx : xs.length ≤ 1048576) :
    Calls Try.prog 24 #[.agg #[.int .i64 ow, .int .i64 st, v]] w fun e w' => e = .returned (.bool (descOk ow st xs)) ∧ Below w.heap.size w w' := spec_DescOk0 ow st v xs w h
theorem impl_DescOkW (ow st : Int) (v : Value) (xs : List Entry) (w : World) (h : Entrys w v xs) (hx : xs.length ≤ 1048576) :
    Calls Try.prog 26 #[.agg #[.int .i64 ow, .int .i64 st, v]] w fun e w' => e = .returned (.bool (descOk ow st xs)) ∧ Below w.heap.size w w' := impl_DescOk0 ow st v xs w h
theorem spec_MeetsW (s0 s1 : Int) (v : Value) (xs : List Entry) (t0 t1 : Int) (u : Value) (ys : List Entry) (w : World) (h : Entrys w v xs) (hx : xs.length ≤ 1048576) (g : Entrys w u ys) (gx : ys.length ≤ 1048576) :
    Calls Try.prog 32 #[.agg #[.int .i64 s0, .int .i64 s1, v], .agg #[.int .i64 t0, .int .i64 t1, u]] w fun e w' => e = .returned (.bool (meetsC s0 s1 xs t0 t1 ys)) ∧ Below w.heap.size w w' := spec_Meets0 s0 s1 v xs t0 t1 u ys w h g
theorem impl_MeetsW (s0 s1 : Int) (v : Value) (xs : List Entry) (t0 t1 : Int) (u : Value) (ys : List Entry) (w : World) (h : Entrys w v xs) (hx : xs.length ≤ 1048576) (g : Entrys w u ys) (gx : ys.length ≤ 1048576) :
    Calls Try.prog 33 #[.agg #[.int .i64 s0, .int .i64 s1, v], .agg #[.int .i64 t0, .int .i64 t1, u]] w fun e w' => e = .returned (.bool (meetsC s0 s1 xs t0 t1 ys)) ∧ Below w.heap.size w w' := impl_Meets0 s0 s1 v xs t0 t1 u ys w h g
end Go.Proofs.Ytmfepmbkgomlcaa
