/- Chapter 9's program: an instruction that is so, ProgOk. -/
import Derived.Test.YtjcaagkppalndaaBase
import Derived.Deep.RegionLaw
import Derived.Test.YtjcaagkppalndaaF9
import Derived.Test.YtjcaagkppalndaaExt
import Derived.Test.YtjcaagkppalndaaBx
/- Cuts of slices, and an append within the room as one step of a region that draws: of any program. -/
namespace Go.Own
open Go.RowKit

/-- 's[i:]': a value whose elements are those from i on. -/
theorem slice_from {P : Program} {t e : TypeId} {ti : TypeInfo} {sz : Nat} (ht : P.underlying t = some (.slice e)) (hi : P.info? e = some ti) (hs : ti.size = sz) {N : Nat} {w : World} {v : Value} {n : Nat} {cs : List Value} (h : FlatB N w v n sz cs) (i : Nat) (hin : i ≤ n) :
    ∃ v', (∀ w', (Instr.slice t v (some (.int .i64 (i : Int))) none none).run P w' = .ok v' w') ∧ FlatB N w v' (n - i) sz (cs.drop (i * sz)) := by
  obtain ⟨hl, a, cap, rfl, h1, h2, h0, h3⟩ := h
  refine ⟨.slice (if cap = i then a else a.map (·.add (i * sz))) (n - i) (cap - i), fun w' => ?_, ?_, _, cap - i, rfl, by omega, by omega, fun hn => ?_, ?_⟩
  · have e1 : (0 : Int) ≤ (i : Int) := by omega
    have e2 : (i : Int) ≤ (n : Int) := by omega
    simp [Instr.slice, run_underlying ht, Instr.sliceBounds, Instr.sliceBound, asIntOf, sizeOf, typeInfo, hi, hs]
    intro h; omega
  · rw [List.length_drop, hl, Nat.sub_mul]
  · by_cases e : cap = i
    · omega
    · rw [if_neg e] at hn
      cases a with
      | none => have := h0 rfl; omega
      | some ad => cases hn
  · by_cases hz : n - i = 0
    · exact .inl hz
    · rcases h3 with h3 | ⟨b, off, rfl, hs', hc⟩
      · omega
      · refine .inr ⟨b, off + i * sz, ?_, hs', fun j hj => ?_⟩
        · rw [if_neg (by omega)]
          simp [Addr.add_lit]
        · rw [List.length_drop] at hj
          rw [show off + i * sz + j = off + (i * sz + j) from by omega, hc (i * sz + j) (by omega)]
          simp

theorem drop_flatMap {α : Type} (f : α → List Value) (sz : Nat) (hsz : ∀ x, (f x).length = sz) : ∀ (xs : List α) (i : Nat), (xs.flatMap f).drop (i * sz) = (xs.drop i).flatMap f
  | [], i => by simp
  | x :: xs, 0 => by simp
  | x :: xs, i+1 => by
    have e : (i + 1) * sz = sz + i * sz := by rw [Nat.add_mul]; omega
    have e2 : (f x ++ xs.flatMap f).drop sz = xs.flatMap f := by rw [← hsz x]; exact List.drop_left
    rw [List.flatMap_cons, e, ← List.drop_drop, e2, List.drop_succ_cons]
    exact drop_flatMap f sz hsz xs i

/-- An append within the room of a row that the call made, as one step of a region that draws. -/
theorem step_append_fits {P : Program} {ops : Array Oper} {o : Oper} {a : Act} {w : World} {K : Act → World → Prop} {Q : Exit → Act → World → Prop} {E : Prop}
    (hg : o.guard = none) (s x : Operand) (t : TypeId) (hop : o.op = Op.call { callee := Callee.builtin Builtin.append, args := #[s, x], argTypes := #[t, t] })
    (base : Nat) (e : TypeId) (i : TypeInfo) (size : Nat) (h1 : P.underlying t = some (.slice e)) (h2 : P.info? e = some i) (h4 : i.size = size)
    (g k cap : Nat) (xs : List Value) (hs : a.eval s = .slice (some ⟨g, 0, none⟩) k cap) (hown : w.ownsRow base e size (.slice (some ⟨g, 0, none⟩) k cap) k xs) (ad : Addr) (m c : Nat) (news : List Value) (hx : a.eval x = .slice (some ad) m c) (hn : news.length = m * size)
    (hc : ∀ j u, news[j]? = some u → w.cell? (ad.add j) = some u) (h1c : ∀ u ∈ news, u.oneCell' = true) (b1 : k + m ≤ cap)
    (hK : ∀ w', w'.ownsRow base e size (.slice (some ⟨g, 0, none⟩) (k + m) cap) (k + m) (xs ++ news) → w.grownBy w' (some g) → K (a.put o.dst (.slice (some ⟨g, 0, none⟩) (k + m) cap)) w') :
    if Region.wanted o (yielded ops a.tmps) = true then Oper.wp P o a w K Q else E := by
  have hw : Region.wanted o (yielded ops a.tmps) = true := by simp [Region.wanted, hg]
  rw [if_pos hw]
  obtain ⟨w', hrun, r1, r2⟩ := run_append_fits (P := P) w base t o.type e i size h1 h2 h4 g k cap xs hown ad m c news hn hc h1c b1
  unfold Oper.wp
  simp [execOp, hop, resolve, invoke, builtin, hs, hx, hrun, Result.andThen]
  exact hK w' r1 r2
end Go.Own
namespace Go.Proofs.Ytjcaagkppalndaa
set_option maxRecDepth 100000
open Go.RowKit Go.Proofs Go.Own
open Go Go.BigFrame
set_option linter.unusedVariables false
set_option linter.unusedSimpArgs false
theorem impl_isValue (x : Int) (w : World) :
    Calls Try.prog 32 #[.int .i64 x] w fun e w' => e = .returned (.bool (isVal x)) ∧ w = w' := by
  go_enter Try.func32, Try.ntmps32
  go_wp2
  all_goals go_ret
  all_goals (simp [isVal, inB, *]; try omega)
/-- What an operand may be: 1 register, 2 object, 3 value, 4 line, else 0. -/
def mayBeC (o x n : Int) : Bool := if o = 1 then inB x 0 3 else if o = 2 then inB x 0 7 else if o = 3 then isVal x else if o = 4 then inB x 0 n else x == 0
set_option maxHeartbeats 2000000 in
theorem impl_mayBe (o x n : Int) (w : World) :
    Calls Try.prog 30 #[.int .i64 o, .int .i64 x, .int .i64 n] w fun e w' => e = .returned (.bool (mayBeC o x n)) ∧ w = w' := by
  have hE := hid (show mayBeC o x n = (if o = 1 then inB x 0 3 else if o = 2 then inB x 0 7 else if o = 3 then isVal x else if o = 4 then inB x 0 n else x == 0) from rfl)
  go_enter Try.func30, Try.ntmps30
  go_wp2_with (go_at_call 32; refine (impl_isValue _ _).mono ?_; rintro e w' ⟨rfl, rfl⟩)
  all_goals go_ret
  all_goals refine ⟨ret_bool (by rw [hE.out]; simp_all [inB] <;> omega), rfl⟩

/-- The values that an instruction's type is boxed as, and what of it is asked. -/
theorem im_read (v : Value) (w : World) : (method (Try.prog.types.size + Made.depth) 57 v "loop.example/g00087/impl.operands").run Try.prog w = .ok (50, v) w := by kernel_rfl
theorem im_write (v : Value) (w : World) : (method (Try.prog.types.size + Made.depth) 58 v "loop.example/g00087/impl.operands").run Try.prog w = .ok (52, v) w := by kernel_rfl
theorem im_set (v : Value) (w : World) : (method (Try.prog.types.size + Made.depth) 59 v "loop.example/g00087/impl.operands").run Try.prog w = .ok (53, v) w := by kernel_rfl
theorem im_add (v : Value) (w : World) : (method (Try.prog.types.size + Made.depth) 60 v "loop.example/g00087/impl.operands").run Try.prog w = .ok (54, v) w := by kernel_rfl
theorem im_if (v : Value) (w : World) : (method (Try.prog.types.size + Made.depth) 61 v "loop.example/g00087/impl.operands").run Try.prog w = .ok (55, v) w := by kernel_rfl
theorem im_commit (v : Value) (w : World) : (method (Try.prog.types.size + Made.depth) 62 v "loop.example/g00087/impl.operands").run Try.prog w = .ok (56, v) w := by kernel_rfl
theorem im_abort (v : Value) (w : World) : (method (Try.prog.types.size + Made.depth) 63 v "loop.example/g00087/impl.operands").run Try.prog w = .ok (57, v) w := by kernel_rfl
theorem im_go (v : Value) (w : World) : (method (Try.prog.types.size + Made.depth) 64 v "loop.example/g00087/impl.operands").run Try.prog w = .ok (58, v) w := by kernel_rfl

def typed (e : Instr) : Value := if e.op_ = 1 then .iface 57 e.val else if e.op_ = 2 then .iface 58 e.val else if e.op_ = 3 then .iface 59 e.val else if e.op_ = 4 then .iface 60 e.val else if e.op_ = 5 then .iface 61 e.val else if e.op_ = 6 then .iface 62 e.val else if e.op_ = 7 then .iface 63 e.val else if e.op_ = 8 then .iface 64 e.val else .nilIface
theorem ops_read (a0 a1 a2 : Int) (w : World) : Calls Try.prog 50 #[.agg #[.int .i64 a0, .int .i64 a1, .int .i64 a2]] w fun e w' => e = .returned (.tuple #[.int .i64 1, .int .i64 2]) ∧ Below w.heap.size w w' := by
  go_enter Try.func50, Try.ntmps50
  go_wp2
  go_ret2
  exact ⟨rfl, (Below.refl _ _).alloc (Nat.le_refl _) _⟩
theorem ops_write (a0 a1 a2 : Int) (w : World) : Calls Try.prog 52 #[.agg #[.int .i64 a0, .int .i64 a1, .int .i64 a2]] w fun e w' => e = .returned (.tuple #[.int .i64 2, .int .i64 1]) ∧ Below w.heap.size w w' := by
  go_enter Try.func52, Try.ntmps52
  go_wp2
  go_ret2
  exact ⟨rfl, (Below.refl _ _).alloc (Nat.le_refl _) _⟩
theorem ops_set (a0 a1 a2 : Int) (w : World) : Calls Try.prog 53 #[.agg #[.int .i64 a0, .int .i64 a1, .int .i64 a2]] w fun e w' => e = .returned (.tuple #[.int .i64 1, .int .i64 3]) ∧ Below w.heap.size w w' := by
  go_enter Try.func53, Try.ntmps53
  go_wp2
  go_ret2
  exact ⟨rfl, (Below.refl _ _).alloc (Nat.le_refl _) _⟩
theorem ops_add (a0 a1 a2 : Int) (w : World) : Calls Try.prog 54 #[.agg #[.int .i64 a0, .int .i64 a1, .int .i64 a2]] w fun e w' => e = .returned (.tuple #[.int .i64 1, .int .i64 1]) ∧ Below w.heap.size w w' := by
  go_enter Try.func54, Try.ntmps54
  go_wp2
  go_ret2
  exact ⟨rfl, (Below.refl _ _).alloc (Nat.le_refl _) _⟩
theorem ops_if (a0 a1 a2 : Int) (w : World) : Calls Try.prog 55 #[.agg #[.int .i64 a0, .int .i64 a1, .int .i64 a2]] w fun e w' => e = .returned (.tuple #[.int .i64 1, .int .i64 4]) ∧ Below w.heap.size w w' := by
  go_enter Try.func55, Try.ntmps55
  go_wp2
  go_ret2
  exact ⟨rfl, (Below.refl _ _).alloc (Nat.le_refl _) _⟩
theorem ops_commit (a0 a1 a2 : Int) (w : World) : Calls Try.prog 56 #[.agg #[.int .i64 a0, .int .i64 a1, .int .i64 a2]] w fun e w' => e = .returned (.tuple #[.int .i64 0, .int .i64 0]) ∧ Below w.heap.size w w' := by
  go_enter Try.func56, Try.ntmps56
  go_wp2
  go_ret2
  exact ⟨rfl, (Below.refl _ _).alloc (Nat.le_refl _) _⟩
theorem ops_abort (a0 a1 a2 : Int) (w : World) : Calls Try.prog 57 #[.agg #[.int .i64 a0, .int .i64 a1, .int .i64 a2]] w fun e w' => e = .returned (.tuple #[.int .i64 0, .int .i64 0]) ∧ Below w.heap.size w w' := by
  go_enter Try.func57, Try.ntmps57
  go_wp2
  go_ret2
  exact ⟨rfl, (Below.refl _ _).alloc (Nat.le_refl _) _⟩
theorem ops_go (a0 a1 a2 : Int) (w : World) : Calls Try.prog 58 #[.agg #[.int .i64 a0, .int .i64 a1, .int .i64 a2]] w fun e w' => e = .returned (.tuple #[.int .i64 4, .int .i64 0]) ∧ Below w.heap.size w w' := by
  go_enter Try.func58, Try.ntmps58
  go_wp2
  go_ret2
  exact ⟨rfl, (Below.refl _ _).alloc (Nat.le_refl _) _⟩
set_option maxHeartbeats 2000000 in
theorem impl_instructionOf (i : Instr) (w : World) :
    Calls Try.prog 23 #[.agg #[.int .i64 i.op_, .int .i64 i.a_, .int .i64 i.b_]] w fun e w' => e = .returned (typed i) ∧ Below w.heap.size w w' := by
  obtain ⟨a0, a1, a2⟩ := i
  have hE := hid (show typed ⟨a0, a1, a2⟩ = _ from (by unfold typed; exact rfl))
  dsimp only
  go_enter Try.func23, Try.ntmps23
  go_wp2
  all_goals go_ret
  all_goals refine ⟨?_, (Below.refl _ _).alloc (Nat.le_refl _) _⟩
  all_goals rw [hE.out]
  all_goals simp_all [Instr.val]
set_option maxHeartbeats 2000000 in
theorem impl_instrOk (i : Instr) (n : Int) (w : World) :
    Calls Try.prog 21 #[.agg #[.int .i64 i.op_, .int .i64 i.a_, .int .i64 i.b_], .int .i64 n] w fun e w' => e = .returned (.bool (instrOk i n)) ∧ Below w.heap.size w w' := by
  obtain ⟨a0, a1, a2⟩ := i
  dsimp only
  have hB0 : Below w.heap.size w (w.alloc (.cells #[.int .i64 a0, .int .i64 a1, .int .i64 a2] 37)) := (Below.refl _ _).alloc (Nat.le_refl _) _
  obtain ⟨V, hV⟩ : ∃ X, w.alloc (.cells #[.int .i64 a0, .int .i64 a1, .int .i64 a2] 37) = X := ⟨_, rfl⟩
  have hN : w.heap.size < V.heap.size := by rw [← hV]; simp
  have k0 : V.cell? ⟨w.heap.size, 0, none⟩ = some (.int .i64 a0) := by rw [← hV]; simp [go_sem]
  have k1 : V.cell? ⟨w.heap.size, 1, none⟩ = some (.int .i64 a1) := by rw [← hV]; simp [go_sem]
  have k2 : V.cell? ⟨w.heap.size, 2, none⟩ = some (.int .i64 a2) := by rw [← hV]; simp [go_sem]
  rw [hV] at hB0
  have HB0 := hid hB0
  have HV := hid hV
  clear hB0 hV
  by_cases h1 : a0 = 1
  · subst h1
    have hT : typed ⟨1, a1, a2⟩ = .iface 57 (.agg #[.int .i64 1, .int .i64 a1, .int .i64 a2]) := rfl
    have hO := hid (show instrOk ⟨1, a1, a2⟩ n = (mayBeC 1 a1 n && mayBeC 2 a2 n) from rfl)
    go_enter Try.func21, Try.ntmps21
    go_wp2_with fail
    rw [HV.out]
    refine (impl_instructionOf ⟨1, a1, a2⟩ _).mono ?_
    rintro e w2 ⟨rfl, b2⟩
    rw [hT]
    have B2 := hid (HB0.out.trans (b2.mono (Nat.le_of_lt hN)))
    have m1 := (b2.cell (p := ⟨w.heap.size, 1, none⟩) hN).trans k1
    have m2 := (b2.cell (p := ⟨w.heap.size, 2, none⟩) hN).trans k2
    have hm := im_read (.agg #[.int .i64 1, .int .i64 a1, .int .i64 a2])
    go_wp2_with fail
    refine (ops_read _ _ _ _).mono ?_
    rintro e w3 ⟨rfl, b3⟩
    have B3 := hid (B2.out.trans (b3.mono B2.out.size))
    have hN2 : w.heap.size < w2.heap.size := Nat.lt_of_lt_of_le hN b2.size
    have j1 := (b3.cell (p := ⟨w.heap.size, 1, none⟩) hN2).trans m1
    have j2 := (b3.cell (p := ⟨w.heap.size, 2, none⟩) hN2).trans m2
    clear k0 k1 k2 m1 m2 hm b2 b3 hT
    generalize hX1 : mayBeC 1 a1 n = X1 at hO
    generalize hX2 : mayBeC 2 a2 n = X2 at hO
    have HX1 := hid hX1
    have HX2 := hid hX2
    clear hX1 hX2
    go_wp2_with (go_at_call 30; refine (impl_mayBe _ _ _ _).mono ?_; rintro e w9 ⟨rfl, rfl⟩)
    all_goals go_ret
    all_goals refine ⟨ret_bool (by rw [hO.out, ← HX1.out, ← HX2.out]; simp [*]), B3.out⟩
  by_cases h2 : a0 = 2
  · subst h2
    have hT : typed ⟨2, a1, a2⟩ = .iface 58 (.agg #[.int .i64 2, .int .i64 a1, .int .i64 a2]) := rfl
    have hO := hid (show instrOk ⟨2, a1, a2⟩ n = (mayBeC 2 a1 n && mayBeC 1 a2 n) from rfl)
    go_enter Try.func21, Try.ntmps21
    go_wp2_with fail
    rw [HV.out]
    refine (impl_instructionOf ⟨2, a1, a2⟩ _).mono ?_
    rintro e w2 ⟨rfl, b2⟩
    rw [hT]
    have B2 := hid (HB0.out.trans (b2.mono (Nat.le_of_lt hN)))
    have m1 := (b2.cell (p := ⟨w.heap.size, 1, none⟩) hN).trans k1
    have m2 := (b2.cell (p := ⟨w.heap.size, 2, none⟩) hN).trans k2
    have hm := im_write (.agg #[.int .i64 2, .int .i64 a1, .int .i64 a2])
    go_wp2_with fail
    refine (ops_write _ _ _ _).mono ?_
    rintro e w3 ⟨rfl, b3⟩
    have B3 := hid (B2.out.trans (b3.mono B2.out.size))
    have hN2 : w.heap.size < w2.heap.size := Nat.lt_of_lt_of_le hN b2.size
    have j1 := (b3.cell (p := ⟨w.heap.size, 1, none⟩) hN2).trans m1
    have j2 := (b3.cell (p := ⟨w.heap.size, 2, none⟩) hN2).trans m2
    clear k0 k1 k2 m1 m2 hm b2 b3 hT
    generalize hX1 : mayBeC 2 a1 n = X1 at hO
    generalize hX2 : mayBeC 1 a2 n = X2 at hO
    have HX1 := hid hX1
    have HX2 := hid hX2
    clear hX1 hX2
    go_wp2_with (go_at_call 30; refine (impl_mayBe _ _ _ _).mono ?_; rintro e w9 ⟨rfl, rfl⟩)
    all_goals go_ret
    all_goals refine ⟨ret_bool (by rw [hO.out, ← HX1.out, ← HX2.out]; simp [*]), B3.out⟩
  by_cases h3 : a0 = 3
  · subst h3
    have hT : typed ⟨3, a1, a2⟩ = .iface 59 (.agg #[.int .i64 3, .int .i64 a1, .int .i64 a2]) := rfl
    have hO := hid (show instrOk ⟨3, a1, a2⟩ n = (mayBeC 1 a1 n && mayBeC 3 a2 n) from rfl)
    go_enter Try.func21, Try.ntmps21
    go_wp2_with fail
    rw [HV.out]
    refine (impl_instructionOf ⟨3, a1, a2⟩ _).mono ?_
    rintro e w2 ⟨rfl, b2⟩
    rw [hT]
    have B2 := hid (HB0.out.trans (b2.mono (Nat.le_of_lt hN)))
    have m1 := (b2.cell (p := ⟨w.heap.size, 1, none⟩) hN).trans k1
    have m2 := (b2.cell (p := ⟨w.heap.size, 2, none⟩) hN).trans k2
    have hm := im_set (.agg #[.int .i64 3, .int .i64 a1, .int .i64 a2])
    go_wp2_with fail
    refine (ops_set _ _ _ _).mono ?_
    rintro e w3 ⟨rfl, b3⟩
    have B3 := hid (B2.out.trans (b3.mono B2.out.size))
    have hN2 : w.heap.size < w2.heap.size := Nat.lt_of_lt_of_le hN b2.size
    have j1 := (b3.cell (p := ⟨w.heap.size, 1, none⟩) hN2).trans m1
    have j2 := (b3.cell (p := ⟨w.heap.size, 2, none⟩) hN2).trans m2
    clear k0 k1 k2 m1 m2 hm b2 b3 hT
    generalize hX1 : mayBeC 1 a1 n = X1 at hO
    generalize hX2 : mayBeC 3 a2 n = X2 at hO
    have HX1 := hid hX1
    have HX2 := hid hX2
    clear hX1 hX2
    go_wp2_with (go_at_call 30; refine (impl_mayBe _ _ _ _).mono ?_; rintro e w9 ⟨rfl, rfl⟩)
    all_goals go_ret
    all_goals refine ⟨ret_bool (by rw [hO.out, ← HX1.out, ← HX2.out]; simp [*]), B3.out⟩
  by_cases h4 : a0 = 4
  · subst h4
    have hT : typed ⟨4, a1, a2⟩ = .iface 60 (.agg #[.int .i64 4, .int .i64 a1, .int .i64 a2]) := rfl
    have hO := hid (show instrOk ⟨4, a1, a2⟩ n = (mayBeC 1 a1 n && mayBeC 1 a2 n) from rfl)
    go_enter Try.func21, Try.ntmps21
    go_wp2_with fail
    rw [HV.out]
    refine (impl_instructionOf ⟨4, a1, a2⟩ _).mono ?_
    rintro e w2 ⟨rfl, b2⟩
    rw [hT]
    have B2 := hid (HB0.out.trans (b2.mono (Nat.le_of_lt hN)))
    have m1 := (b2.cell (p := ⟨w.heap.size, 1, none⟩) hN).trans k1
    have m2 := (b2.cell (p := ⟨w.heap.size, 2, none⟩) hN).trans k2
    have hm := im_add (.agg #[.int .i64 4, .int .i64 a1, .int .i64 a2])
    go_wp2_with fail
    refine (ops_add _ _ _ _).mono ?_
    rintro e w3 ⟨rfl, b3⟩
    have B3 := hid (B2.out.trans (b3.mono B2.out.size))
    have hN2 : w.heap.size < w2.heap.size := Nat.lt_of_lt_of_le hN b2.size
    have j1 := (b3.cell (p := ⟨w.heap.size, 1, none⟩) hN2).trans m1
    have j2 := (b3.cell (p := ⟨w.heap.size, 2, none⟩) hN2).trans m2
    clear k0 k1 k2 m1 m2 hm b2 b3 hT
    generalize hX1 : mayBeC 1 a1 n = X1 at hO
    generalize hX2 : mayBeC 1 a2 n = X2 at hO
    have HX1 := hid hX1
    have HX2 := hid hX2
    clear hX1 hX2
    go_wp2_with (go_at_call 30; refine (impl_mayBe _ _ _ _).mono ?_; rintro e w9 ⟨rfl, rfl⟩)
    all_goals go_ret
    all_goals refine ⟨ret_bool (by rw [hO.out, ← HX1.out, ← HX2.out]; simp [*]), B3.out⟩
  by_cases h5 : a0 = 5
  · subst h5
    have hT : typed ⟨5, a1, a2⟩ = .iface 61 (.agg #[.int .i64 5, .int .i64 a1, .int .i64 a2]) := rfl
    have hO := hid (show instrOk ⟨5, a1, a2⟩ n = (mayBeC 1 a1 n && mayBeC 4 a2 n) from rfl)
    go_enter Try.func21, Try.ntmps21
    go_wp2_with fail
    rw [HV.out]
    refine (impl_instructionOf ⟨5, a1, a2⟩ _).mono ?_
    rintro e w2 ⟨rfl, b2⟩
    rw [hT]
    have B2 := hid (HB0.out.trans (b2.mono (Nat.le_of_lt hN)))
    have m1 := (b2.cell (p := ⟨w.heap.size, 1, none⟩) hN).trans k1
    have m2 := (b2.cell (p := ⟨w.heap.size, 2, none⟩) hN).trans k2
    have hm := im_if (.agg #[.int .i64 5, .int .i64 a1, .int .i64 a2])
    go_wp2_with fail
    refine (ops_if _ _ _ _).mono ?_
    rintro e w3 ⟨rfl, b3⟩
    have B3 := hid (B2.out.trans (b3.mono B2.out.size))
    have hN2 : w.heap.size < w2.heap.size := Nat.lt_of_lt_of_le hN b2.size
    have j1 := (b3.cell (p := ⟨w.heap.size, 1, none⟩) hN2).trans m1
    have j2 := (b3.cell (p := ⟨w.heap.size, 2, none⟩) hN2).trans m2
    clear k0 k1 k2 m1 m2 hm b2 b3 hT
    generalize hX1 : mayBeC 1 a1 n = X1 at hO
    generalize hX2 : mayBeC 4 a2 n = X2 at hO
    have HX1 := hid hX1
    have HX2 := hid hX2
    clear hX1 hX2
    go_wp2_with (go_at_call 30; refine (impl_mayBe _ _ _ _).mono ?_; rintro e w9 ⟨rfl, rfl⟩)
    all_goals go_ret
    all_goals refine ⟨ret_bool (by rw [hO.out, ← HX1.out, ← HX2.out]; simp [*]), B3.out⟩
  by_cases h6 : a0 = 6
  · subst h6
    have hT : typed ⟨6, a1, a2⟩ = .iface 62 (.agg #[.int .i64 6, .int .i64 a1, .int .i64 a2]) := rfl
    have hO := hid (show instrOk ⟨6, a1, a2⟩ n = (mayBeC 0 a1 n && mayBeC 0 a2 n) from rfl)
    go_enter Try.func21, Try.ntmps21
    go_wp2_with fail
    rw [HV.out]
    refine (impl_instructionOf ⟨6, a1, a2⟩ _).mono ?_
    rintro e w2 ⟨rfl, b2⟩
    rw [hT]
    have B2 := hid (HB0.out.trans (b2.mono (Nat.le_of_lt hN)))
    have m1 := (b2.cell (p := ⟨w.heap.size, 1, none⟩) hN).trans k1
    have m2 := (b2.cell (p := ⟨w.heap.size, 2, none⟩) hN).trans k2
    have hm := im_commit (.agg #[.int .i64 6, .int .i64 a1, .int .i64 a2])
    go_wp2_with fail
    refine (ops_commit _ _ _ _).mono ?_
    rintro e w3 ⟨rfl, b3⟩
    have B3 := hid (B2.out.trans (b3.mono B2.out.size))
    have hN2 : w.heap.size < w2.heap.size := Nat.lt_of_lt_of_le hN b2.size
    have j1 := (b3.cell (p := ⟨w.heap.size, 1, none⟩) hN2).trans m1
    have j2 := (b3.cell (p := ⟨w.heap.size, 2, none⟩) hN2).trans m2
    clear k0 k1 k2 m1 m2 hm b2 b3 hT
    generalize hX1 : mayBeC 0 a1 n = X1 at hO
    generalize hX2 : mayBeC 0 a2 n = X2 at hO
    have HX1 := hid hX1
    have HX2 := hid hX2
    clear hX1 hX2
    go_wp2_with (go_at_call 30; refine (impl_mayBe _ _ _ _).mono ?_; rintro e w9 ⟨rfl, rfl⟩)
    all_goals go_ret
    all_goals refine ⟨ret_bool (by rw [hO.out, ← HX1.out, ← HX2.out]; simp [*]), B3.out⟩
  by_cases h7 : a0 = 7
  · subst h7
    have hT : typed ⟨7, a1, a2⟩ = .iface 63 (.agg #[.int .i64 7, .int .i64 a1, .int .i64 a2]) := rfl
    have hO := hid (show instrOk ⟨7, a1, a2⟩ n = (mayBeC 0 a1 n && mayBeC 0 a2 n) from rfl)
    go_enter Try.func21, Try.ntmps21
    go_wp2_with fail
    rw [HV.out]
    refine (impl_instructionOf ⟨7, a1, a2⟩ _).mono ?_
    rintro e w2 ⟨rfl, b2⟩
    rw [hT]
    have B2 := hid (HB0.out.trans (b2.mono (Nat.le_of_lt hN)))
    have m1 := (b2.cell (p := ⟨w.heap.size, 1, none⟩) hN).trans k1
    have m2 := (b2.cell (p := ⟨w.heap.size, 2, none⟩) hN).trans k2
    have hm := im_abort (.agg #[.int .i64 7, .int .i64 a1, .int .i64 a2])
    go_wp2_with fail
    refine (ops_abort _ _ _ _).mono ?_
    rintro e w3 ⟨rfl, b3⟩
    have B3 := hid (B2.out.trans (b3.mono B2.out.size))
    have hN2 : w.heap.size < w2.heap.size := Nat.lt_of_lt_of_le hN b2.size
    have j1 := (b3.cell (p := ⟨w.heap.size, 1, none⟩) hN2).trans m1
    have j2 := (b3.cell (p := ⟨w.heap.size, 2, none⟩) hN2).trans m2
    clear k0 k1 k2 m1 m2 hm b2 b3 hT
    generalize hX1 : mayBeC 0 a1 n = X1 at hO
    generalize hX2 : mayBeC 0 a2 n = X2 at hO
    have HX1 := hid hX1
    have HX2 := hid hX2
    clear hX1 hX2
    go_wp2_with (go_at_call 30; refine (impl_mayBe _ _ _ _).mono ?_; rintro e w9 ⟨rfl, rfl⟩)
    all_goals go_ret
    all_goals refine ⟨ret_bool (by rw [hO.out, ← HX1.out, ← HX2.out]; simp [*]), B3.out⟩
  by_cases h8 : a0 = 8
  · subst h8
    have hT : typed ⟨8, a1, a2⟩ = .iface 64 (.agg #[.int .i64 8, .int .i64 a1, .int .i64 a2]) := rfl
    have hO := hid (show instrOk ⟨8, a1, a2⟩ n = (mayBeC 4 a1 n && mayBeC 0 a2 n) from rfl)
    go_enter Try.func21, Try.ntmps21
    go_wp2_with fail
    rw [HV.out]
    refine (impl_instructionOf ⟨8, a1, a2⟩ _).mono ?_
    rintro e w2 ⟨rfl, b2⟩
    rw [hT]
    have B2 := hid (HB0.out.trans (b2.mono (Nat.le_of_lt hN)))
    have m1 := (b2.cell (p := ⟨w.heap.size, 1, none⟩) hN).trans k1
    have m2 := (b2.cell (p := ⟨w.heap.size, 2, none⟩) hN).trans k2
    have hm := im_go (.agg #[.int .i64 8, .int .i64 a1, .int .i64 a2])
    go_wp2_with fail
    refine (ops_go _ _ _ _).mono ?_
    rintro e w3 ⟨rfl, b3⟩
    have B3 := hid (B2.out.trans (b3.mono B2.out.size))
    have hN2 : w.heap.size < w2.heap.size := Nat.lt_of_lt_of_le hN b2.size
    have j1 := (b3.cell (p := ⟨w.heap.size, 1, none⟩) hN2).trans m1
    have j2 := (b3.cell (p := ⟨w.heap.size, 2, none⟩) hN2).trans m2
    clear k0 k1 k2 m1 m2 hm b2 b3 hT
    generalize hX1 : mayBeC 4 a1 n = X1 at hO
    generalize hX2 : mayBeC 0 a2 n = X2 at hO
    have HX1 := hid hX1
    have HX2 := hid hX2
    clear hX1 hX2
    go_wp2_with (go_at_call 30; refine (impl_mayBe _ _ _ _).mono ?_; rintro e w9 ⟨rfl, rfl⟩)
    all_goals go_ret
    all_goals refine ⟨ret_bool (by rw [hO.out, ← HX1.out, ← HX2.out]; simp [*]), B3.out⟩
  · have hT : typed ⟨a0, a1, a2⟩ = .nilIface := by unfold typed; simp only; rw [if_neg h1, if_neg h2, if_neg h3, if_neg h4, if_neg h5, if_neg h6, if_neg h7, if_neg h8]
    have hO := hid (show instrOk ⟨a0, a1, a2⟩ n = false by unfold instrOk; simp only; rw [if_neg h1, if_neg h2, if_neg h3, if_neg h4, if_neg h5, if_neg h6, if_neg h7, if_neg h8])
    go_enter Try.func21, Try.ntmps21
    go_wp2_with fail
    rw [HV.out]
    refine (impl_instructionOf ⟨a0, a1, a2⟩ _).mono ?_
    rintro e w2 ⟨rfl, b2⟩
    rw [hT]
    have B2 := hid (HB0.out.trans (b2.mono (Nat.le_of_lt hN)))
    clear k0 k1 k2 hT b2
    go_wp2
    go_ret
    exact ⟨ret_bool hO.out.symm, B2.out⟩
end Go.Proofs.Ytjcaagkppalndaa
