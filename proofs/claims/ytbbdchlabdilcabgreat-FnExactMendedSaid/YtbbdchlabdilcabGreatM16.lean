/- Chapter 9's program: an instruction that is so, ProgOk. -/
import Derived.Test.YtbbdchlabdilcabGreatM3
import Derived.Test.YtbbdchlabdilcabGreatM14
import Derived.Test.YtbbdchlabdilcabGreatM7
import Derived.Test.YtbbdchlabdilcabGreatBx
import Derived.Shelf.Abstract
namespace Go.Proofs.YtbbdchlabdilcabGreat
set_option maxRecDepth 100000
open Go.RowKit Go.Proofs Go.Own
open Go Go.BigFrame
set_option linter.unusedVariables false
set_option linter.unusedSimpArgs false
/-- What an operand may be: 1 register, 2 object, 3 value, 4 line, else 0. -/
def mayBeC (o x n : Int) : Bool := if o = 1 then inB x 0 3 else if o = 2 then inB x 0 7 else if o = 3 then isVal x else if o = 4 then inB x 0 n else x == 0
set_option maxHeartbeats 2000000 in
theorem impl_mayBe (o x n : Int) (w : World) :
    Calls Tryz.prog 139 #[.int .i64 o, .int .i64 x, .int .i64 n] w fun e w' => e = .returned (.bool (mayBeC o x n)) ∧ w = w' := by
  have hE := hid (show mayBeC o x n = (if o = 1 then inB x 0 3 else if o = 2 then inB x 0 7 else if o = 3 then isVal x else if o = 4 then inB x 0 n else x == 0) from rfl)
  go_enter Tryz.func139, Tryz.ntmps139
  go_wp2_with (go_at_call 83; refine (impl_isValue _ _).mono ?_; rintro e w' ⟨rfl, rfl⟩)
  all_goals go_ret
  all_goals refine ⟨ret_bool (by rw [hE.out]; simp_all [inB] <;> omega), rfl⟩

/-- The values that an instruction's type is boxed as, and what of it is asked. -/
theorem im_read (v : Value) (w : World) : (method (Tryz.prog.types.size + Made.depth) 185 v "loop.example/g00087/impl.operands").run Tryz.prog w = .ok (158, v) w := by kernel_rfl
theorem im_write (v : Value) (w : World) : (method (Tryz.prog.types.size + Made.depth) 186 v "loop.example/g00087/impl.operands").run Tryz.prog w = .ok (160, v) w := by kernel_rfl
theorem im_set (v : Value) (w : World) : (method (Tryz.prog.types.size + Made.depth) 187 v "loop.example/g00087/impl.operands").run Tryz.prog w = .ok (161, v) w := by kernel_rfl
theorem im_add (v : Value) (w : World) : (method (Tryz.prog.types.size + Made.depth) 188 v "loop.example/g00087/impl.operands").run Tryz.prog w = .ok (162, v) w := by kernel_rfl
theorem im_if (v : Value) (w : World) : (method (Tryz.prog.types.size + Made.depth) 189 v "loop.example/g00087/impl.operands").run Tryz.prog w = .ok (163, v) w := by kernel_rfl
theorem im_commit (v : Value) (w : World) : (method (Tryz.prog.types.size + Made.depth) 190 v "loop.example/g00087/impl.operands").run Tryz.prog w = .ok (164, v) w := by kernel_rfl
theorem im_abort (v : Value) (w : World) : (method (Tryz.prog.types.size + Made.depth) 191 v "loop.example/g00087/impl.operands").run Tryz.prog w = .ok (165, v) w := by kernel_rfl
theorem im_go (v : Value) (w : World) : (method (Tryz.prog.types.size + Made.depth) 192 v "loop.example/g00087/impl.operands").run Tryz.prog w = .ok (166, v) w := by kernel_rfl

def typed (e : Instr) : Value := if e.op_ = 1 then .iface 185 e.val else if e.op_ = 2 then .iface 186 e.val else if e.op_ = 3 then .iface 187 e.val else if e.op_ = 4 then .iface 188 e.val else if e.op_ = 5 then .iface 189 e.val else if e.op_ = 6 then .iface 190 e.val else if e.op_ = 7 then .iface 191 e.val else if e.op_ = 8 then .iface 192 e.val else .nilIface
theorem ops_read (a0 a1 a2 : Int) (w : World) : Calls Tryz.prog 158 #[.agg #[.int .i64 a0, .int .i64 a1, .int .i64 a2]] w fun e w' => e = .returned (.tuple #[.int .i64 1, .int .i64 2]) ∧ Below w.heap.size w w' := by
  go_enter Tryz.func158, Tryz.ntmps158
  go_wp2
  go_ret2
  exact ⟨rfl, (Below.refl _ _).alloc (Nat.le_refl _) _⟩
theorem ops_write (a0 a1 a2 : Int) (w : World) : Calls Tryz.prog 160 #[.agg #[.int .i64 a0, .int .i64 a1, .int .i64 a2]] w fun e w' => e = .returned (.tuple #[.int .i64 2, .int .i64 1]) ∧ Below w.heap.size w w' := by
  go_enter Tryz.func160, Tryz.ntmps160
  go_wp2
  go_ret2
  exact ⟨rfl, (Below.refl _ _).alloc (Nat.le_refl _) _⟩
theorem ops_set (a0 a1 a2 : Int) (w : World) : Calls Tryz.prog 161 #[.agg #[.int .i64 a0, .int .i64 a1, .int .i64 a2]] w fun e w' => e = .returned (.tuple #[.int .i64 1, .int .i64 3]) ∧ Below w.heap.size w w' := by
  go_enter Tryz.func161, Tryz.ntmps161
  go_wp2
  go_ret2
  exact ⟨rfl, (Below.refl _ _).alloc (Nat.le_refl _) _⟩
theorem ops_add (a0 a1 a2 : Int) (w : World) : Calls Tryz.prog 162 #[.agg #[.int .i64 a0, .int .i64 a1, .int .i64 a2]] w fun e w' => e = .returned (.tuple #[.int .i64 1, .int .i64 1]) ∧ Below w.heap.size w w' := by
  go_enter Tryz.func162, Tryz.ntmps162
  go_wp2
  go_ret2
  exact ⟨rfl, (Below.refl _ _).alloc (Nat.le_refl _) _⟩
theorem ops_if (a0 a1 a2 : Int) (w : World) : Calls Tryz.prog 163 #[.agg #[.int .i64 a0, .int .i64 a1, .int .i64 a2]] w fun e w' => e = .returned (.tuple #[.int .i64 1, .int .i64 4]) ∧ Below w.heap.size w w' := by
  go_enter Tryz.func163, Tryz.ntmps163
  go_wp2
  go_ret2
  exact ⟨rfl, (Below.refl _ _).alloc (Nat.le_refl _) _⟩
theorem ops_commit (a0 a1 a2 : Int) (w : World) : Calls Tryz.prog 164 #[.agg #[.int .i64 a0, .int .i64 a1, .int .i64 a2]] w fun e w' => e = .returned (.tuple #[.int .i64 0, .int .i64 0]) ∧ Below w.heap.size w w' := by
  go_enter Tryz.func164, Tryz.ntmps164
  go_wp2
  go_ret2
  exact ⟨rfl, (Below.refl _ _).alloc (Nat.le_refl _) _⟩
theorem ops_abort (a0 a1 a2 : Int) (w : World) : Calls Tryz.prog 165 #[.agg #[.int .i64 a0, .int .i64 a1, .int .i64 a2]] w fun e w' => e = .returned (.tuple #[.int .i64 0, .int .i64 0]) ∧ Below w.heap.size w w' := by
  go_enter Tryz.func165, Tryz.ntmps165
  go_wp2
  go_ret2
  exact ⟨rfl, (Below.refl _ _).alloc (Nat.le_refl _) _⟩
theorem ops_go (a0 a1 a2 : Int) (w : World) : Calls Tryz.prog 166 #[.agg #[.int .i64 a0, .int .i64 a1, .int .i64 a2]] w fun e w' => e = .returned (.tuple #[.int .i64 4, .int .i64 0]) ∧ Below w.heap.size w w' := by
  go_enter Tryz.func166, Tryz.ntmps166
  go_wp2
  go_ret2
  exact ⟨rfl, (Below.refl _ _).alloc (Nat.le_refl _) _⟩
set_option maxHeartbeats 2000000 in
theorem impl_instructionOf (i : Instr) (w : World) :
    Calls Tryz.prog 138 #[.agg #[.int .i64 i.op_, .int .i64 i.a_, .int .i64 i.b_]] w fun e w' => e = .returned (typed i) ∧ Below w.heap.size w w' := by
  obtain ⟨a0, a1, a2⟩ := i
  have hE := hid (show typed ⟨a0, a1, a2⟩ = _ from (by unfold typed; exact rfl))
  dsimp only
  go_enter Tryz.func138, Tryz.ntmps138
  go_wp2
  all_goals go_ret
  all_goals refine ⟨?_, (Below.refl _ _).alloc (Nat.le_refl _) _⟩
  all_goals rw [hE.out]
  all_goals simp_all [Instr.val]
set_option maxHeartbeats 2000000 in
theorem impl_instrOk (i : Instr) (n : Int) (w : World) :
    Calls Tryz.prog 131 #[.agg #[.int .i64 i.op_, .int .i64 i.a_, .int .i64 i.b_], .int .i64 n] w fun e w' => e = .returned (.bool (instrOk i n)) ∧ Below w.heap.size w w' := by
  obtain ⟨a0, a1, a2⟩ := i
  dsimp only
  have hB0 : Below w.heap.size w (w.alloc (.cells #[.int .i64 a0, .int .i64 a1, .int .i64 a2] 127)) := (Below.refl _ _).alloc (Nat.le_refl _) _
  obtain ⟨V, hV⟩ : ∃ X, w.alloc (.cells #[.int .i64 a0, .int .i64 a1, .int .i64 a2] 127) = X := ⟨_, rfl⟩
  have hN : w.heap.size < V.heap.size := by rw [← hV]; simp
  have k0 : V.cell? ⟨w.heap.size, 0, none⟩ = some (.int .i64 a0) := by rw [← hV]; simp [go_sem]
  have k1 : V.cell? ⟨w.heap.size, 1, none⟩ = some (.int .i64 a1) := by rw [← hV]; simp [go_sem]
  have k2 : V.cell? ⟨w.heap.size, 2, none⟩ = some (.int .i64 a2) := by rw [← hV]; simp [go_sem]
  rw [hV] at hB0
  have HB0 := hid hB0
  have HV := hid hV
  clear hB0 hV
  by_cases h1 : a0 = 1
  · subst h1
    have hT : typed ⟨1, a1, a2⟩ = .iface 185 (.agg #[.int .i64 1, .int .i64 a1, .int .i64 a2]) := rfl
    have hO := hid (show instrOk ⟨1, a1, a2⟩ n = (mayBeC 1 a1 n && mayBeC 2 a2 n) from rfl)
    go_enter Tryz.func131, Tryz.ntmps131
    go_wp2_with fail
    rw [HV.out]
    refine (impl_instructionOf ⟨1, a1, a2⟩ _).mono ?_
    rintro e w2 ⟨rfl, b2⟩
    rw [hT]
    have B2 := hid (HB0.out.trans (b2.mono (Nat.le_of_lt hN)))
    have m1 := (b2.cell (p := ⟨w.heap.size, 1, none⟩) hN).trans k1
    have m2 := (b2.cell (p := ⟨w.heap.size, 2, none⟩) hN).trans k2
    have hm := im_read (.agg #[.int .i64 1, .int .i64 a1, .int .i64 a2])
    go_wp2_with fail
    refine (ops_read _ _ _ _).mono ?_
    rintro e w3 ⟨rfl, b3⟩
    have B3 := hid (B2.out.trans (b3.mono B2.out.size))
    have hN2 : w.heap.size < w2.heap.size := Nat.lt_of_lt_of_le hN b2.size
    have j1 := (b3.cell (p := ⟨w.heap.size, 1, none⟩) hN2).trans m1
    have j2 := (b3.cell (p := ⟨w.heap.size, 2, none⟩) hN2).trans m2
    clear k0 k1 k2 m1 m2 hm b2 b3 hT
    generalize hX1 : mayBeC 1 a1 n = X1 at hO
    generalize hX2 : mayBeC 2 a2 n = X2 at hO
    have HX1 := hid hX1
    have HX2 := hid hX2
    clear hX1 hX2
    go_wp2_with (go_at_call 139; refine (impl_mayBe _ _ _ _).mono ?_; rintro e w9 ⟨rfl, rfl⟩)
    all_goals go_ret
    all_goals refine ⟨ret_bool (by rw [hO.out, ← HX1.out, ← HX2.out]; simp [*]), B3.out⟩
  by_cases h2 : a0 = 2
  · subst h2
    have hT : typed ⟨2, a1, a2⟩ = .iface 186 (.agg #[.int .i64 2, .int .i64 a1, .int .i64 a2]) := rfl
    have hO := hid (show instrOk ⟨2, a1, a2⟩ n = (mayBeC 2 a1 n && mayBeC 1 a2 n) from rfl)
    go_enter Tryz.func131, Tryz.ntmps131
    go_wp2_with fail
    rw [HV.out]
    refine (impl_instructionOf ⟨2, a1, a2⟩ _).mono ?_
    rintro e w2 ⟨rfl, b2⟩
    rw [hT]
    have B2 := hid (HB0.out.trans (b2.mono (Nat.le_of_lt hN)))
    have m1 := (b2.cell (p := ⟨w.heap.size, 1, none⟩) hN).trans k1
    have m2 := (b2.cell (p := ⟨w.heap.size, 2, none⟩) hN).trans k2
    have hm := im_write (.agg #[.int .i64 2, .int .i64 a1, .int .i64 a2])
    go_wp2_with fail
    refine (ops_write _ _ _ _).mono ?_
    rintro e w3 ⟨rfl, b3⟩
    have B3 := hid (B2.out.trans (b3.mono B2.out.size))
    have hN2 : w.heap.size < w2.heap.size := Nat.lt_of_lt_of_le hN b2.size
    have j1 := (b3.cell (p := ⟨w.heap.size, 1, none⟩) hN2).trans m1
    have j2 := (b3.cell (p := ⟨w.heap.size, 2, none⟩) hN2).trans m2
    clear k0 k1 k2 m1 m2 hm b2 b3 hT
    generalize hX1 : mayBeC 2 a1 n = X1 at hO
    generalize hX2 : mayBeC 1 a2 n = X2 at hO
    have HX1 := hid hX1
    have HX2 := hid hX2
    clear hX1 hX2
    go_wp2_with (go_at_call 139; refine (impl_mayBe _ _ _ _).mono ?_; rintro e w9 ⟨rfl, rfl⟩)
    all_goals go_ret
    all_goals refine ⟨ret_bool (by rw [hO.out, ← HX1.out, ← HX2.out]; simp [*]), B3.out⟩
  by_cases h3 : a0 = 3
  · subst h3
    have hT : typed ⟨3, a1, a2⟩ = .iface 187 (.agg #[.int .i64 3, .int .i64 a1, .int .i64 a2]) := rfl
    have hO := hid (show instrOk ⟨3, a1, a2⟩ n = (mayBeC 1 a1 n && mayBeC 3 a2 n) from rfl)
    go_enter Tryz.func131, Tryz.ntmps131
    go_wp2_with fail
    rw [HV.out]
    refine (impl_instructionOf ⟨3, a1, a2⟩ _).mono ?_
    rintro e w2 ⟨rfl, b2⟩
    rw [hT]
    have B2 := hid (HB0.out.trans (b2.mono (Nat.le_of_lt hN)))
    have m1 := (b2.cell (p := ⟨w.heap.size, 1, none⟩) hN).trans k1
    have m2 := (b2.cell (p := ⟨w.heap.size, 2, none⟩) hN).trans k2
    have hm := im_set (.agg #[.int .i64 3, .int .i64 a1, .int .i64 a2])
    go_wp2_with fail
    refine (ops_set _ _ _ _).mono ?_
    rintro e w3 ⟨rfl, b3⟩
    have B3 := hid (B2.out.trans (b3.mono B2.out.size))
    have hN2 : w.heap.size < w2.heap.size := Nat.lt_of_lt_of_le hN b2.size
    have j1 := (b3.cell (p := ⟨w.heap.size, 1, none⟩) hN2).trans m1
    have j2 := (b3.cell (p := ⟨w.heap.size, 2, none⟩) hN2).trans m2
    clear k0 k1 k2 m1 m2 hm b2 b3 hT
    generalize hX1 : mayBeC 1 a1 n = X1 at hO
    generalize hX2 : mayBeC 3 a2 n = X2 at hO
    have HX1 := hid hX1
    have HX2 := hid hX2
    clear hX1 hX2
    go_wp2_with (go_at_call 139; refine (impl_mayBe _ _ _ _).mono ?_; rintro e w9 ⟨rfl, rfl⟩)
    all_goals go_ret
    all_goals refine ⟨ret_bool (by rw [hO.out, ← HX1.out, ← HX2.out]; simp [*]), B3.out⟩
  by_cases h4 : a0 = 4
  · subst h4
    have hT : typed ⟨4, a1, a2⟩ = .iface 188 (.agg #[.int .i64 4, .int .i64 a1, .int .i64 a2]) := rfl
    have hO := hid (show instrOk ⟨4, a1, a2⟩ n = (mayBeC 1 a1 n && mayBeC 1 a2 n) from rfl)
    go_enter Tryz.func131, Tryz.ntmps131
    go_wp2_with fail
    rw [HV.out]
    refine (impl_instructionOf ⟨4, a1, a2⟩ _).mono ?_
    rintro e w2 ⟨rfl, b2⟩
    rw [hT]
    have B2 := hid (HB0.out.trans (b2.mono (Nat.le_of_lt hN)))
    have m1 := (b2.cell (p := ⟨w.heap.size, 1, none⟩) hN).trans k1
    have m2 := (b2.cell (p := ⟨w.heap.size, 2, none⟩) hN).trans k2
    have hm := im_add (.agg #[.int .i64 4, .int .i64 a1, .int .i64 a2])
    go_wp2_with fail
    refine (ops_add _ _ _ _).mono ?_
    rintro e w3 ⟨rfl, b3⟩
    have B3 := hid (B2.out.trans (b3.mono B2.out.size))
    have hN2 : w.heap.size < w2.heap.size := Nat.lt_of_lt_of_le hN b2.size
    have j1 := (b3.cell (p := ⟨w.heap.size, 1, none⟩) hN2).trans m1
    have j2 := (b3.cell (p := ⟨w.heap.size, 2, none⟩) hN2).trans m2
    clear k0 k1 k2 m1 m2 hm b2 b3 hT
    generalize hX1 : mayBeC 1 a1 n = X1 at hO
    generalize hX2 : mayBeC 1 a2 n = X2 at hO
    have HX1 := hid hX1
    have HX2 := hid hX2
    clear hX1 hX2
    go_wp2_with (go_at_call 139; refine (impl_mayBe _ _ _ _).mono ?_; rintro e w9 ⟨rfl, rfl⟩)
    all_goals go_ret
    all_goals refine ⟨ret_bool (by rw [hO.out, ← HX1.out, ← HX2.out]; simp [*]), B3.out⟩
  by_cases h5 : a0 = 5
  · subst h5
    have hT : typed ⟨5, a1, a2⟩ = .iface 189 (.agg #[.int .i64 5, .int .i64 a1, .int .i64 a2]) := rfl
    have hO := hid (show instrOk ⟨5, a1, a2⟩ n = (mayBeC 1 a1 n && mayBeC 4 a2 n) from rfl)
    go_enter Tryz.func131, Tryz.ntmps131
    go_wp2_with fail
    rw [HV.out]
    refine (impl_instructionOf ⟨5, a1, a2⟩ _).mono ?_
    rintro e w2 ⟨rfl, b2⟩
    rw [hT]
    have B2 := hid (HB0.out.trans (b2.mono (Nat.le_of_lt hN)))
    have m1 := (b2.cell (p := ⟨w.heap.size, 1, none⟩) hN).trans k1
    have m2 := (b2.cell (p := ⟨w.heap.size, 2, none⟩) hN).trans k2
    have hm := im_if (.agg #[.int .i64 5, .int .i64 a1, .int .i64 a2])
    go_wp2_with fail
    refine (ops_if _ _ _ _).mono ?_
    rintro e w3 ⟨rfl, b3⟩
    have B3 := hid (B2.out.trans (b3.mono B2.out.size))
    have hN2 : w.heap.size < w2.heap.size := Nat.lt_of_lt_of_le hN b2.size
    have j1 := (b3.cell (p := ⟨w.heap.size, 1, none⟩) hN2).trans m1
    have j2 := (b3.cell (p := ⟨w.heap.size, 2, none⟩) hN2).trans m2
    clear k0 k1 k2 m1 m2 hm b2 b3 hT
    generalize hX1 : mayBeC 1 a1 n = X1 at hO
    generalize hX2 : mayBeC 4 a2 n = X2 at hO
    have HX1 := hid hX1
    have HX2 := hid hX2
    clear hX1 hX2
    go_wp2_with (go_at_call 139; refine (impl_mayBe _ _ _ _).mono ?_; rintro e w9 ⟨rfl, rfl⟩)
    all_goals go_ret
    all_goals refine ⟨ret_bool (by rw [hO.out, ← HX1.out, ← HX2.out]; simp [*]), B3.out⟩
  by_cases h6 : a0 = 6
  · subst h6
    have hT : typed ⟨6, a1, a2⟩ = .iface 190 (.agg #[.int .i64 6, .int .i64 a1, .int .i64 a2]) := rfl
    have hO := hid (show instrOk ⟨6, a1, a2⟩ n = (mayBeC 0 a1 n && mayBeC 0 a2 n) from rfl)
    go_enter Tryz.func131, Tryz.ntmps131
    go_wp2_with fail
    rw [HV.out]
    refine (impl_instructionOf ⟨6, a1, a2⟩ _).mono ?_
    rintro e w2 ⟨rfl, b2⟩
    rw [hT]
    have B2 := hid (HB0.out.trans (b2.mono (Nat.le_of_lt hN)))
    have m1 := (b2.cell (p := ⟨w.heap.size, 1, none⟩) hN).trans k1
    have m2 := (b2.cell (p := ⟨w.heap.size, 2, none⟩) hN).trans k2
    have hm := im_commit (.agg #[.int .i64 6, .int .i64 a1, .int .i64 a2])
    go_wp2_with fail
    refine (ops_commit _ _ _ _).mono ?_
    rintro e w3 ⟨rfl, b3⟩
    have B3 := hid (B2.out.trans (b3.mono B2.out.size))
    have hN2 : w.heap.size < w2.heap.size := Nat.lt_of_lt_of_le hN b2.size
    have j1 := (b3.cell (p := ⟨w.heap.size, 1, none⟩) hN2).trans m1
    have j2 := (b3.cell (p := ⟨w.heap.size, 2, none⟩) hN2).trans m2
    clear k0 k1 k2 m1 m2 hm b2 b3 hT
    generalize hX1 : mayBeC 0 a1 n = X1 at hO
    generalize hX2 : mayBeC 0 a2 n = X2 at hO
    have HX1 := hid hX1
    have HX2 := hid hX2
    clear hX1 hX2
    go_wp2_with (go_at_call 139; refine (impl_mayBe _ _ _ _).mono ?_; rintro e w9 ⟨rfl, rfl⟩)
    all_goals go_ret
    all_goals refine ⟨ret_bool (by rw [hO.out, ← HX1.out, ← HX2.out]; simp [*]), B3.out⟩
  by_cases h7 : a0 = 7
  · subst h7
    have hT : typed ⟨7, a1, a2⟩ = .iface 191 (.agg #[.int .i64 7, .int .i64 a1, .int .i64 a2]) := rfl
    have hO := hid (show instrOk ⟨7, a1, a2⟩ n = (mayBeC 0 a1 n && mayBeC 0 a2 n) from rfl)
    go_enter Tryz.func131, Tryz.ntmps131
    go_wp2_with fail
    rw [HV.out]
    refine (impl_instructionOf ⟨7, a1, a2⟩ _).mono ?_
    rintro e w2 ⟨rfl, b2⟩
    rw [hT]
    have B2 := hid (HB0.out.trans (b2.mono (Nat.le_of_lt hN)))
    have m1 := (b2.cell (p := ⟨w.heap.size, 1, none⟩) hN).trans k1
    have m2 := (b2.cell (p := ⟨w.heap.size, 2, none⟩) hN).trans k2
    have hm := im_abort (.agg #[.int .i64 7, .int .i64 a1, .int .i64 a2])
    go_wp2_with fail
    refine (ops_abort _ _ _ _).mono ?_
    rintro e w3 ⟨rfl, b3⟩
    have B3 := hid (B2.out.trans (b3.mono B2.out.size))
    have hN2 : w.heap.size < w2.heap.size := Nat.lt_of_lt_of_le hN b2.size
    have j1 := (b3.cell (p := ⟨w.heap.size, 1, none⟩) hN2).trans m1
    have j2 := (b3.cell (p := ⟨w.heap.size, 2, none⟩) hN2).trans m2
    clear k0 k1 k2 m1 m2 hm b2 b3 hT
    generalize hX1 : mayBeC 0 a1 n = X1 at hO
    generalize hX2 : mayBeC 0 a2 n = X2 at hO
    have HX1 := hid hX1
    have HX2 := hid hX2
    clear hX1 hX2
    go_wp2_with (go_at_call 139; refine (impl_mayBe _ _ _ _).mono ?_; rintro e w9 ⟨rfl, rfl⟩)
    all_goals go_ret
    all_goals refine ⟨ret_bool (by rw [hO.out, ← HX1.out, ← HX2.out]; simp [*]), B3.out⟩
  by_cases h8 : a0 = 8
  · subst h8
    have hT : typed ⟨8, a1, a2⟩ = .iface 192 (.agg #[.int .i64 8, .int .i64 a1, .int .i64 a2]) := rfl
    have hO := hid (show instrOk ⟨8, a1, a2⟩ n = (mayBeC 4 a1 n && mayBeC 0 a2 n) from rfl)
    go_enter Tryz.func131, Tryz.ntmps131
    go_wp2_with fail
    rw [HV.out]
    refine (impl_instructionOf ⟨8, a1, a2⟩ _).mono ?_
    rintro e w2 ⟨rfl, b2⟩
    rw [hT]
    have B2 := hid (HB0.out.trans (b2.mono (Nat.le_of_lt hN)))
    have m1 := (b2.cell (p := ⟨w.heap.size, 1, none⟩) hN).trans k1
    have m2 := (b2.cell (p := ⟨w.heap.size, 2, none⟩) hN).trans k2
    have hm := im_go (.agg #[.int .i64 8, .int .i64 a1, .int .i64 a2])
    go_wp2_with fail
    refine (ops_go _ _ _ _).mono ?_
    rintro e w3 ⟨rfl, b3⟩
    have B3 := hid (B2.out.trans (b3.mono B2.out.size))
    have hN2 : w.heap.size < w2.heap.size := Nat.lt_of_lt_of_le hN b2.size
    have j1 := (b3.cell (p := ⟨w.heap.size, 1, none⟩) hN2).trans m1
    have j2 := (b3.cell (p := ⟨w.heap.size, 2, none⟩) hN2).trans m2
    clear k0 k1 k2 m1 m2 hm b2 b3 hT
    generalize hX1 : mayBeC 4 a1 n = X1 at hO
    generalize hX2 : mayBeC 0 a2 n = X2 at hO
    have HX1 := hid hX1
    have HX2 := hid hX2
    clear hX1 hX2
    go_wp2_with (go_at_call 139; refine (impl_mayBe _ _ _ _).mono ?_; rintro e w9 ⟨rfl, rfl⟩)
    all_goals go_ret
    all_goals refine ⟨ret_bool (by rw [hO.out, ← HX1.out, ← HX2.out]; simp [*]), B3.out⟩
  · have hT : typed ⟨a0, a1, a2⟩ = .nilIface := by unfold typed; simp only; rw [if_neg h1, if_neg h2, if_neg h3, if_neg h4, if_neg h5, if_neg h6, if_neg h7, if_neg h8]
    have hO := hid (show instrOk ⟨a0, a1, a2⟩ n = false by unfold instrOk; simp only; rw [if_neg h1, if_neg h2, if_neg h3, if_neg h4, if_neg h5, if_neg h6, if_neg h7, if_neg h8])
    go_enter Tryz.func131, Tryz.ntmps131
    go_wp2_with fail
    rw [HV.out]
    refine (impl_instructionOf ⟨a0, a1, a2⟩ _).mono ?_
    rintro e w2 ⟨rfl, b2⟩
    rw [hT]
    have B2 := hid (HB0.out.trans (b2.mono (Nat.le_of_lt hN)))
    clear k0 k1 k2 hT b2
    go_wp2
    go_ret
    exact ⟨ret_bool hO.out.symm, B2.out⟩
end Go.Proofs.YtbbdchlabdilcabGreat
/- Chapter 9's program: ProgOk, Straight. -/
namespace Go.Proofs.YtbbdchlabdilcabGreat
set_option maxRecDepth 100000
open Go.RowKit Go.Proofs Go.Own
open Go Go.BigFrame Go.Shelf
set_option linter.unusedVariables false
set_option linter.unusedSimpArgs false
set_option maxHeartbeats 2000000 in
theorem impl_ProgOk (v : Value) (xs : List Instr) (w : World) (h : Instrs w v xs) :
    Calls Tryz.prog 113 #[v] w fun e w' => e = .returned (.bool (progOk xs)) ∧ Below w.heap.size w w' := by
  have H0 := hid h
  obtain ⟨ad, cap, rfl, hl, hm, hc⟩ := h.open
  clear h
  have hlen : xs.length ≤ 9223372036854775807 := by omega
  have HC := hid hc
  clear hc
  by_cases h6 : (30 : Int) < (xs.length : Int)
  · have Hno := hid (show progOk xs = false by unfold progOk; rw [decide_eq_false (by omega), Bool.and_false])
    go_enter Tryz.func113, Tryz.ntmps113
    go_wp2
    go_ret
    exact ⟨ret_bool Hno.out.symm, Below.refl _ _⟩
  have Hy := hid (show progOk xs = progAt xs 0 by unfold progOk; rw [decide_eq_true (by omega), Bool.and_true])
  go_enter Tryz.func113, Tryz.ntmps113
  go_wp2
  go_loopw [10] (fun i wr => ∃ k : Nat, k ≤ xs.length ∧ i = .int .i64 k ∧ Same (progAt xs 0) (progAt xs k) ∧ Below w.heap.size w wr) (fun i _ => xs.length - (intOf i).toNat)
  case atStart => exact ⟨0, by omega, rfl, .rfl, Below.refl _ _⟩
  case round =>
    obtain ⟨k, hk, rfl, hS, hB⟩ := hrel
    by_cases hlt : k < xs.length
    · obtain ⟨bb, off, rfl, hbs, c0, c1, c2⟩ := HC.out k hlt
      obtain ⟨e0, e1, e2⟩ := cells3 hB hbs c0 c1 c2
      have hst := hid (progAt_step xs k hlt)
      clear c0 c1 c2
      obtain ⟨V, hV⟩ : ∃ X, wr.alloc (.cells #[.int .i64 xs[k].op_, .int .i64 xs[k].a_, .int .i64 xs[k].b_] 127) = X := ⟨_, rfl⟩
      have bV : Below wr.heap.size wr V := by rw [← hV]; exact (Below.refl _ _).alloc (Nat.le_refl _) _
      have k0 : V.cell? ⟨wr.heap.size, 0, none⟩ = some (.int .i64 xs[k].op_) := by rw [← hV]; simp [go_sem]
      have k1 : V.cell? ⟨wr.heap.size, 1, none⟩ = some (.int .i64 xs[k].a_) := by rw [← hV]; simp [go_sem]
      have k2 : V.cell? ⟨wr.heap.size, 2, none⟩ = some (.int .i64 xs[k].b_) := by rw [← hV]; simp [go_sem]
      have HBV := hid (show Below w.heap.size w V from hB.trans (bV.mono hB.size))
      have HV := hid hV
      clear hV bV HC H0
      cases hE : instrOk xs[k] xs.length with
      | false =>
        have Hn := hid (show progOk xs = false by rw [Hy.out, hS.out, hst.out, hE]; rfl)
        go_wp2_with fail
        rw [HV.out]
        clear e0 e1 e2
        go_wp2_with fail
        refine (impl_instrOk xs[k] _ _).mono ?_
        rintro e w2 ⟨rfl, b2⟩
        rw [hE]
        have hB2 := HBV.out.trans (b2.mono HBV.out.size)
        go_wp2
        go_ret
        exact ⟨ret_bool Hn.out.symm, hB2⟩
      | true =>
        go_wp2_with fail
        rw [HV.out]
        clear e0 e1 e2
        go_wp2_with fail
        refine (impl_instrOk xs[k] _ _).mono ?_
        rintro e w2 ⟨rfl, b2⟩
        rw [hE]
        have hB2 := HBV.out.trans (b2.mono HBV.out.size)
        go_wp2
        go_roundw
        case rel => exact ⟨k+1, by omega, by go_num, Same.mk (by rw [hS.out, hst.out, hE, Bool.true_and]), hB2⟩
        case measure => simp [intOf]; omega
    · have Hn := hid (show progOk xs = true by rw [Hy.out, hS.out, progAt_end xs k hlt])
      go_wp2
      go_ret
      exact ⟨ret_bool Hn.out.symm, hB⟩
end Go.Proofs.YtbbdchlabdilcabGreat
