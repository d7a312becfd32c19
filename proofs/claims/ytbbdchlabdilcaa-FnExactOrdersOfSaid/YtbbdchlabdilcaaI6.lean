/- Chapter 6's program: an entry that is so, the place of an object. -/
import Derived.Test.YtbbdchlabdilcaaBase
import Derived.Deep.RegionLaw
import Derived.Test.YtbbdchlabdilcaaS6
import Derived.Test.YtbbdchlabdilcaaM1
import Derived.Laws.StructEq
/- Cuts of slices, and an append within the room as one step of a region that draws: of any program. -/
namespace Go.Own
open Go.RowKit

/-- 's[i:]': a value whose elements are those from i on. -/
theorem slice_from {P : Program} {t e : TypeId} {ti : TypeInfo} {sz : Nat} (ht : P.underlying t = some (.slice e)) (hi : P.info? e = some ti) (hs : ti.size = sz) {N : Nat} {w : World} {v : Value} {n : Nat} {cs : List Value} (h : FlatB N w v n sz cs) (i : Nat) (hin : i ≤ n) :
    ∃ v', (∀ w', (Instr.slice t v (some (.int .i64 (i : Int))) none none).run P w' = .ok v' w') ∧ FlatB N w v' (n - i) sz (cs.drop (i * sz)) := by
  obtain ⟨hl, a, cap, rfl, h1, h2, h0, h3⟩ := h
  refine ⟨.slice (if cap = i then a else a.map (·.add (i * sz))) (n - i) (cap - i), fun w' => ?_, ?_, _, cap - i, rfl, by omega, by omega, fun hn => ?_, ?_⟩
  · have e1 : (0 : Int) ≤ (i : Int) := by omega
    have e2 : (i : Int) ≤ (n : Int) := by omega
    simp [Instr.slice, run_underlying ht, Instr.sliceBounds, Instr.sliceBound, asIntOf, sizeOf, typeInfo, hi, hs]
    intro h; omega
  · rw [List.length_drop, hl, Nat.sub_mul]
  · by_cases e : cap = i
    · omega
    · rw [if_neg e] at hn
      cases a with
      | none => have := h0 rfl; omega
      | some ad => cases hn
  · by_cases hz : n - i = 0
    · exact .inl hz
    · rcases h3 with h3 | ⟨b, off, rfl, hs', hc⟩
      · omega
      · refine .inr ⟨b, off + i * sz, ?_, hs', fun j hj => ?_⟩
        · rw [if_neg (by omega)]
          simp [Addr.add_lit]
        · rw [List.length_drop] at hj
          rw [show off + i * sz + j = off + (i * sz + j) from by omega, hc (i * sz + j) (by omega)]
          simp

theorem drop_flatMap {α : Type} (f : α → List Value) (sz : Nat) (hsz : ∀ x, (f x).length = sz) : ∀ (xs : List α) (i : Nat), (xs.flatMap f).drop (i * sz) = (xs.drop i).flatMap f
  | [], i => by simp
  | x :: xs, 0 => by simp
  | x :: xs, i+1 => by
    have e : (i + 1) * sz = sz + i * sz := by rw [Nat.add_mul]; omega
    have e2 : (f x ++ xs.flatMap f).drop sz = xs.flatMap f := by rw [← hsz x]; exact List.drop_left
    rw [List.flatMap_cons, e, ← List.drop_drop, e2, List.drop_succ_cons]
    exact drop_flatMap f sz hsz xs i

/-- An append within the room of a row that the call made, as one step of a region that draws. -/
theorem step_append_fits {P : Program} {ops : Array Oper} {o : Oper} {a : Act} {w : World} {K : Act → World → Prop} {Q : Exit → Act → World → Prop} {E : Prop}
    (hg : o.guard = none) (s x : Operand) (t : TypeId) (hop : o.op = Op.call { callee := Callee.builtin Builtin.append, args := #[s, x], argTypes := #[t, t] })
    (base : Nat) (e : TypeId) (i : TypeInfo) (size : Nat) (h1 : P.underlying t = some (.slice e)) (h2 : P.info? e = some i) (h4 : i.size = size)
    (g k cap : Nat) (xs : List Value) (hs : a.eval s = .slice (some ⟨g, 0, none⟩) k cap) (hown : w.ownsRow base e size (.slice (some ⟨g, 0, none⟩) k cap) k xs) (ad : Addr) (m c : Nat) (news : List Value) (hx : a.eval x = .slice (some ad) m c) (hn : news.length = m * size)
    (hc : ∀ j u, news[j]? = some u → w.cell? (ad.add j) = some u) (h1c : ∀ u ∈ news, u.oneCell' = true) (b1 : k + m ≤ cap)
    (hK : ∀ w', w'.ownsRow base e size (.slice (some ⟨g, 0, none⟩) (k + m) cap) (k + m) (xs ++ news) → w.grownBy w' (some g) → K (a.put o.dst (.slice (some ⟨g, 0, none⟩) (k + m) cap)) w') :
    if Region.wanted o (yielded ops a.tmps) = true then Oper.wp P o a w K Q else E := by
  have hw : Region.wanted o (yielded ops a.tmps) = true := by simp [Region.wanted, hg]
  rw [if_pos hw]
  obtain ⟨w', hrun, r1, r2⟩ := run_append_fits (P := P) w base t o.type e i size h1 h2 h4 g k cap xs hown ad m c news hn hc h1c b1
  unfold Oper.wp
  simp [execOp, hop, resolve, invoke, builtin, hs, hx, hrun, Result.andThen]
  exact hK w' r1 r2
end Go.Own
namespace Go.Proofs.Ytbbdchlabdilcaa
set_option maxRecDepth 100000
open Go.RowKit Go.Proofs Go.Own
open Go Go.BigFrame
set_option linter.unusedVariables false
set_option linter.unusedSimpArgs false
theorem impl_isValue (x : Int) (w : World) :
    Calls Try.prog 46 #[.int .i64 x] w fun e w' => e = .returned (.bool (isVal x)) ∧ w = w' := by
  go_enter Try.func46, Try.ntmps46
  go_wp2
  all_goals go_ret
  all_goals (simp [isVal, inB, *]; try omega)
theorem impl_isThread (t : Int) (w : World) :
    Calls Try.prog 53 #[.int .i64 t] w fun e w' => e = .returned (.bool (inB t 0 3)) ∧ w = w' := by
  go_enter Try.func53, Try.ntmps53
  go_wp2
  all_goals go_ret
  all_goals (simp [inB, *]; try omega)
theorem impl_readEntry (o n x : Int) (w : World) :
    Calls Try.prog 66 #[.int .i64 o, .int .i64 n, .int .i64 x] w fun e w' => e = .returned (.agg #[.int .i64 o, .int .i64 n, .int .i64 x, .int .i64 x, .bool false]) ∧ Below w.heap.size w w' := by
  go_enter Try.func66, Try.ntmps66
  go_wp2
  exact bodyPost_ret (v := .agg #[.int .i64 o, .int .i64 n, .int .i64 x, .int .i64 x, .bool false]) (by simp [results, Try.results66, go_sem]) rfl ⟨rfl, (by repeat (first | exact Below.refl _ _ | refine below_drewN ?_ _ | refine Below.drew ?_ | refine Below.setCell ?_ (by simp; try omega) _ | refine Below.alloc ?_ (by simp; try omega) _))⟩
theorem eqE_run (a0 a1 a2 a3 : Int) (w : World) : (Op.equalIn 10000 63 (.agg #[.int .i64 a0, .int .i64 a1, .int .i64 a2, .int .i64 a3, .bool false]) (.agg #[.int .i64 a0, .int .i64 a1, .int .i64 a2, .int .i64 a2, .bool false])).run Try.prog w = .ok (a3 == a2) w := by
  have u3 := Try.underlying3
  have a3' := Try.isAgg3
  have z3 := Try.sizeOf3
  have u4 := Try.underlying4
  have a4' := Try.isAgg4
  have z4 := Try.sizeOf4
  have hS : Try.prog.underlying 63 = some (.struct (Try.prog.fieldsOf 63)) := by kernel_rfl
  have hp : Try.prog.stoodInHeld 63 = false := by kernel_rfl
  rw [show (10000 : Nat) = 9999 + 1 from rfl, run_equalIn_agg w 9999 63 _ _ hS hp]
  simp only [Program.fieldsOf, Try.underlying63]
  go_simp
  by_cases h : a3 = a2 <;> simp [h]
theorem impl_entryOk (e : Entry) (w : World) :
    Calls Try.prog 62 #[.agg #[.int .i64 e.object_, .int .i64 e.version_, .int .i64 e.old_, .int .i64 e.new_, .bool e.write_]] w fun r w' => r = .returned (.bool (entryOk e)) ∧ Below w.heap.size w w' := by
  obtain ⟨a0, a1, a2, a3, a4⟩ := e
  have hE := hid (show entryOk ⟨a0, a1, a2, a3, a4⟩ = (inB a0 0 7 && inB a1 0 1000000 && isVal a2 && isVal a3 && (a4 || a3 == a2)) from rfl)
  dsimp only
  have hB := hid (show Below w.heap.size w (w.alloc (.cells #[.int .i64 a0, .int .i64 a1, .int .i64 a2, .int .i64 a3, .bool a4] 63)) from (Below.refl _ _).alloc (Nat.le_refl _) _)
  by_cases h0 : a0 < 0
  · go_enter Try.func62, Try.ntmps62
    go_wp2
    go_ret
    exact ⟨ret_bool (by rw [hE.out]; have : ¬ 0 ≤ a0 := by omega
                        simp [inB, this]), hB.out⟩
  by_cases h1 : 8 ≤ a0
  · go_enter Try.func62, Try.ntmps62
    go_wp2
    go_ret
    exact ⟨ret_bool (by rw [hE.out]; have : ¬ a0 ≤ 7 := by omega
                        simp [inB, this]), hB.out⟩
  by_cases h2 : a1 < 0
  · go_enter Try.func62, Try.ntmps62
    go_wp2
    go_ret
    exact ⟨ret_bool (by rw [hE.out]; have : ¬ 0 ≤ a1 := by omega
                        simp [inB, this]), hB.out⟩
  by_cases h3 : 1000000 < a1
  · go_enter Try.func62, Try.ntmps62
    go_wp2
    go_ret
    exact ⟨ret_bool (by rw [hE.out]; have : ¬ a1 ≤ 1000000 := by omega
                        simp [inB, this]), hB.out⟩
  have hE2 := hid (show entryOk ⟨a0, a1, a2, a3, a4⟩ = (isVal a2 && (isVal a3 && (a4 || a3 == a2))) by
    rw [hE.out]
    have e1 : inB a0 0 7 = true := by simp [inB]; omega
    have e2 : inB a1 0 1000000 = true := by simp [inB]; omega
    rw [e1, e2, Bool.and_self, Bool.true_and, Bool.and_assoc])
  cases e1 : isVal a2 with
  | false =>
    go_enter Try.func62, Try.ntmps62
    go_wp2_with (go_at_call 46; refine (impl_isValue _ _).mono ?_; rintro e w' ⟨rfl, rfl⟩)
    go_ret
    exact ⟨ret_bool (by rw [hE2.out, e1]; rfl), hB.out⟩
  | true =>
  cases e2 : isVal a3 with
  | false =>
    go_enter Try.func62, Try.ntmps62
    go_wp2_with (go_at_call 46; refine (impl_isValue _ _).mono ?_; rintro e w' ⟨rfl, rfl⟩)
    go_ret
    exact ⟨ret_bool (by rw [hE2.out, e1, e2]; rfl), hB.out⟩
  | true =>
  obtain ⟨V, hV⟩ : ∃ X, (w.alloc (.cells #[.int .i64 a0, .int .i64 a1, .int .i64 a2, .int .i64 a3, .bool a4] 63)) = X := ⟨_, rfl⟩
  have hN : w.heap.size < V.heap.size := by rw [← hV]; simp
  have k0 : V.cell? ⟨w.heap.size, 0, none⟩ = some (.int .i64 a0) := by rw [← hV]; simp [go_sem]
  have k1 : V.cell? ⟨w.heap.size, 1, none⟩ = some (.int .i64 a1) := by rw [← hV]; simp [go_sem]
  have k2 : V.cell? ⟨w.heap.size, 2, none⟩ = some (.int .i64 a2) := by rw [← hV]; simp [go_sem]
  have k3 : V.cell? ⟨w.heap.size, 3, none⟩ = some (.int .i64 a3) := by rw [← hV]; simp [go_sem]
  have k4 : V.cell? ⟨w.heap.size, 4, none⟩ = some (.bool a4) := by rw [← hV]; simp [go_sem]
  rw [hV] at hB
  have x0 := Ext.cell hN k0
  have x1 := Ext.cell hN k1
  have x2 := Ext.cell hN k2
  have x3 := Ext.cell hN k3
  have x4 := Ext.cell hN k4
  have hq := fun W => eqE_run a0 a1 a2 a3 W
  have hm : Try.prog.eqGuardType Try.prog.depth 63 = false := by kernel_rfl
  cases a4 with
  | true =>
    go_enter Try.func62, Try.ntmps62
    go_wp2_with (go_at_call 46; refine (impl_isValue _ _).mono ?_; rintro e w' ⟨rfl, rfl⟩)
    refine wp_region_ext V (Below.refl _ _) (by kernel_rfl) (by kernel_rfl) ?_
    repeat (go_big_quiet_step (first | (go_at_call 66; exact call_ext _ (impl_readEntry _ _ _ _))))
    refine wpQuiet_nil ?_; rintro _ ⟨E, rfl⟩
    go_wp2
    go_ret
    exact ⟨ret_bool (by rw [hE2.out, e1, e2]; rfl), hB.out.trans (E.h.mono (by omega))⟩
  | false =>
    go_enter Try.func62, Try.ntmps62
    go_wp2_with (go_at_call 46; refine (impl_isValue _ _).mono ?_; rintro e w' ⟨rfl, rfl⟩)
    refine wp_region_ext V (Below.refl _ _) (by kernel_rfl) (by kernel_rfl) ?_
    repeat (go_big_quiet_step (first | (go_at_call 66; exact call_ext _ (impl_readEntry _ _ _ _))))
    refine wpQuiet_nil ?_; rintro _ ⟨E, rfl⟩
    go_wp2
    go_ret
    exact ⟨ret_bool (by rw [hE2.out, e1, e2]; simp), hB.out.trans (E.h.mono (by omega))⟩
end Go.Proofs.Ytbbdchlabdilcaa
