/- Worlds that grow out of a world: facts said once of all of them; a region that draws its order, walked once, in a class of such worlds. -/
import Derived.Test.YtbbdchlabdilcabGreatBase2
import Derived.Deep.QuietTactic
import Derived.BigQuiet
import Derived.Test.YtbbdchlabdilcabGreatBase
import Derived.Deep.RegionLaw
import Derived.Test.YtbbdchlabdilcabGreatM6
import Derived.Laws.StructEq
import Derived.Shelf.Abstract
namespace Go.Own
open Go.RowKit
/-- A world that has grown out of W: what W has is there as it was. -/
structure Ext (W : World) where
  w : World
  h : Below W.heap.size W w
theorem Ext.size {W : World} (e : Ext W) : W.heap.size ≤ e.w.heap.size := e.h.size
/-- This very world. -/
def Ext.here (W : World) : Ext W := ⟨W, Below.refl _ _⟩
instance (W : World) : Nonempty (Ext W) := ⟨Ext.here W⟩
/-- A world that grows on from a grown one. -/
def Ext.on {W : World} (e : Ext W) {w' : World} (h : Below e.w.heap.size e.w w') : Ext W := ⟨w', e.h.trans (h.mono e.size)⟩
theorem Ext.ex {W : World} (e : Ext W) {w' : World} (h : Below e.w.heap.size e.w w') : ∃ E : Ext W, w' = E.w := ⟨e.on h, rfl⟩
theorem Ext.of {W w' : World} (h : Below W.heap.size W w') : ∃ E : Ext W, w' = E.w := ⟨⟨w', h⟩, rfl⟩
/-- A world grown out of a grown one has grown out of the first. -/
def Ext.back {W V : World} (h : Below W.heap.size W V) (e : Ext V) : Ext W := ⟨e.w, h.trans (e.h.mono h.size)⟩
theorem Ext.back_w {W V : World} (h : Below W.heap.size W V) (e : Ext V) : (e.back h).w = e.w := rfl
theorem Ext.cell {W : World} {b o : Nat} {v : Value} (hb : b < W.heap.size) (h : W.cell? ⟨b, o, none⟩ = some v) : ∀ e : Ext W, e.w.cell? ⟨b, o, none⟩ = some v := fun e => (e.h.cell (p := ⟨b, o, none⟩) hb).trans h
theorem Ext.froz {W : World} {b o : Nat} {v : Bool} (hb : b < W.heap.size) (h : W.frozen? ⟨b, o, none⟩ = v) : ∀ e : Ext W, e.w.frozen? ⟨b, o, none⟩ = v := fun e => (e.h.frozen (p := ⟨b, o, none⟩) hb).trans h
theorem Ext.flat {W : World} {v : Value} {n sz : Nat} {cs : List Value} (h : Flat W v n sz cs) : ∀ e : Ext W, Flat e.w v n sz cs := fun e => Flat.below h e.h
theorem Ext.now {W : World} {p : Addr} {v : Option Value} (h : ∀ e : Ext W, e.w.cell? p = v) : W.cell? p = v := h (Ext.here W)
theorem Ext.lt {W : World} {b : Nat} (h : b < W.heap.size) : ∀ e : Ext W, b < e.w.heap.size := fun e => Nat.lt_of_lt_of_le h e.size
theorem Ext.ne {W : World} {b : Nat} (h : b < W.heap.size) : ∀ e : Ext W, (b == e.w.heap.size) = false := fun e => by have := e.size; simp; omega
/-- A region that draws its order: one walk of the text's order, in all worlds grown out of W. -/
theorem wp_region_ext {P : Program} {id : Nat} {Q : Exit → Act → World → Prop} {a : Act} {w : World} {l : List Oper} (W : World) (hW : Below W.heap.size W w) (hm : P.follows .mixedOrders = true) (hB : Region.lexB .any l.toArray = true)
    (h : wpQuiet P l.toArray (fun w' => ∃ e : Ext W, w' = e.w) (fun a' => ∀ w', (∃ e : Ext W, w' = e.w) → Q .normal a' w') l a) : (Code.region id l.toArray true).wp P Q a w :=
  wp_region_quiet (C := fun w' => ∃ e : Ext W, w' = e.w) hm hB ⟨⟨_, hW.drew⟩, rfl⟩ (by simpa using h)
theorem call_ext {P : Program} {f : FuncId} {args : Array Value} {W : World} (E : Ext W) {v : Value} (h : Calls P f args E.w fun e w' => e = .returned v ∧ Below E.w.heap.size E.w w') : Calls P f args E.w fun e w'' => e = .returned v ∧ ∃ e2 : Ext W, w'' = e2.w :=
  h.mono fun _ _ ⟨he, hb⟩ => ⟨he, E.ex hb⟩
theorem call_ext_same {P : Program} {f : FuncId} {args : Array Value} {W : World} (E : Ext W) {v : Value} (h : Calls P f args E.w fun e w' => e = .returned v ∧ E.w = w') : Calls P f args E.w fun e w'' => e = .returned v ∧ ∃ e2 : Ext W, w'' = e2.w :=
  h.mono fun _ _ ⟨he, hb⟩ => ⟨he, E, hb.symm⟩
/-- A box that is made anew. -/
theorem Ext.alloc {W : World} (e : Ext W) (o : Obj) : Below W.heap.size W (e.w.alloc o) := e.h.alloc (by have := e.size; omega) _
end Go.Own
/- Chapter 6's program: an entry that is so, the place of an object. -/
/- Cuts of slices, and an append within the room as one step of a region that draws: of any program. -/
namespace Go.Own
open Go.RowKit

/-- 's[i:]': a value whose elements are those from i on. -/
theorem slice_from {P : Program} {t e : TypeId} {ti : TypeInfo} {sz : Nat} (ht : P.underlying t = some (.slice e)) (hi : P.info? e = some ti) (hs : ti.size = sz) {N : Nat} {w : World} {v : Value} {n : Nat} {cs : List Value} (h : FlatB N w v n sz cs) (i : Nat) (hin : i ≤ n) :
    ∃ v', (∀ w', (Instr.slice t v (some (.int .i64 (i : Int))) none none).run P w' = .ok v' w') ∧ FlatB N w v' (n - i) sz (cs.drop (i * sz)) := by
  obtain ⟨hl, a, cap, rfl, h1, h2, h0, h3⟩ := h
  refine ⟨.slice (if cap = i then a else a.map (·.add (i * sz))) (n - i) (cap - i), fun w' => ?_, ?_, _, cap - i, rfl, by omega, by omega, fun hn => ?_, ?_⟩
  · have e1 : (0 : Int) ≤ (i : Int) := by omega
    have e2 : (i : Int) ≤ (n : Int) := by omega
    simp [Instr.slice, run_underlying ht, Instr.sliceBounds, Instr.sliceBound, asIntOf, sizeOf, typeInfo, hi, hs]
    intro h; omega
  · rw [List.length_drop, hl, Nat.sub_mul]
  · by_cases e : cap = i
    · omega
    · rw [if_neg e] at hn
      cases a with
      | none => have := h0 rfl; omega
      | some ad => cases hn
  · by_cases hz : n - i = 0
    · exact .inl hz
    · rcases h3 with h3 | ⟨b, off, rfl, hs', hc⟩
      · omega
      · refine .inr ⟨b, off + i * sz, ?_, hs', fun j hj => ?_⟩
        · rw [if_neg (by omega)]
          simp [Addr.add_lit]
        · rw [List.length_drop] at hj
          rw [show off + i * sz + j = off + (i * sz + j) from by omega, hc (i * sz + j) (by omega)]
          simp

theorem drop_flatMap {α : Type} (f : α → List Value) (sz : Nat) (hsz : ∀ x, (f x).length = sz) : ∀ (xs : List α) (i : Nat), (xs.flatMap f).drop (i * sz) = (xs.drop i).flatMap f
  | [], i => by simp
  | x :: xs, 0 => by simp
  | x :: xs, i+1 => by
    have e : (i + 1) * sz = sz + i * sz := by rw [Nat.add_mul]; omega
    have e2 : (f x ++ xs.flatMap f).drop sz = xs.flatMap f := by rw [← hsz x]; exact List.drop_left
    rw [List.flatMap_cons, e, ← List.drop_drop, e2, List.drop_succ_cons]
    exact drop_flatMap f sz hsz xs i

/-- An append within the room of a row that the call made, as one step of a region that draws. -/
theorem step_append_fits {P : Program} {ops : Array Oper} {o : Oper} {a : Act} {w : World} {K : Act → World → Prop} {Q : Exit → Act → World → Prop} {E : Prop}
    (hg : o.guard = none) (s x : Operand) (t : TypeId) (hop : o.op = Op.call { callee := Callee.builtin Builtin.append, args := #[s, x], argTypes := #[t, t] })
    (base : Nat) (e : TypeId) (i : TypeInfo) (size : Nat) (h1 : P.underlying t = some (.slice e)) (h2 : P.info? e = some i) (h4 : i.size = size)
    (g k cap : Nat) (xs : List Value) (hs : a.eval s = .slice (some ⟨g, 0, none⟩) k cap) (hown : w.ownsRow base e size (.slice (some ⟨g, 0, none⟩) k cap) k xs) (ad : Addr) (m c : Nat) (news : List Value) (hx : a.eval x = .slice (some ad) m c) (hn : news.length = m * size)
    (hc : ∀ j u, news[j]? = some u → w.cell? (ad.add j) = some u) (h1c : ∀ u ∈ news, u.oneCell' = true) (b1 : k + m ≤ cap)
    (hK : ∀ w', w'.ownsRow base e size (.slice (some ⟨g, 0, none⟩) (k + m) cap) (k + m) (xs ++ news) → w.grownBy w' (some g) → K (a.put o.dst (.slice (some ⟨g, 0, none⟩) (k + m) cap)) w') :
    if Region.wanted o (yielded ops a.tmps) = true then Oper.wp P o a w K Q else E := by
  have hw : Region.wanted o (yielded ops a.tmps) = true := by simp [Region.wanted, hg]
  rw [if_pos hw]
  obtain ⟨w', hrun, r1, r2⟩ := run_append_fits (P := P) w base t o.type e i size h1 h2 h4 g k cap xs hown ad m c news hn hc h1c b1
  unfold Oper.wp
  simp [execOp, hop, resolve, invoke, builtin, hs, hx, hrun, Result.andThen]
  exact hK w' r1 r2
end Go.Own
namespace Go.Proofs.YtbbdchlabdilcabGreat
set_option maxRecDepth 100000
open Go.RowKit Go.Proofs Go.Own
open Go Go.BigFrame
set_option linter.unusedVariables false
set_option linter.unusedSimpArgs false
theorem impl_isValue (x : Int) (w : World) :
    Calls Tryz.prog 83 #[.int .i64 x] w fun e w' => e = .returned (.bool (isVal x)) ∧ w = w' := by
  go_enter Tryz.func83, Tryz.ntmps83
  go_wp2
  all_goals go_ret
  all_goals (simp [isVal, inB, *]; try omega)
theorem impl_isThread (t : Int) (w : World) :
    Calls Tryz.prog 105 #[.int .i64 t] w fun e w' => e = .returned (.bool (inB t 0 3)) ∧ w = w' := by
  go_enter Tryz.func105, Tryz.ntmps105
  go_wp2
  all_goals go_ret
  all_goals (simp [inB, *]; try omega)
theorem impl_readEntry (o n x : Int) (w : World) :
    Calls Tryz.prog 136 #[.int .i64 o, .int .i64 n, .int .i64 x] w fun e w' => e = .returned (.agg #[.int .i64 o, .int .i64 n, .int .i64 x, .int .i64 x, .bool false]) ∧ Below w.heap.size w w' := by
  go_enter Tryz.func136, Tryz.ntmps136
  go_wp2
  exact bodyPost_ret (v := .agg #[.int .i64 o, .int .i64 n, .int .i64 x, .int .i64 x, .bool false]) (by simp [results, Tryz.results136, go_sem]) rfl ⟨rfl, (by repeat (first | exact Below.refl _ _ | refine below_drewN ?_ _ | refine Below.drew ?_ | refine Below.setCell ?_ (by simp; try omega) _ | refine Below.alloc ?_ (by simp; try omega) _))⟩
theorem eqE_run (a0 a1 a2 a3 : Int) (w : World) : (Op.equalIn 10000 121 (.agg #[.int .i64 a0, .int .i64 a1, .int .i64 a2, .int .i64 a3, .bool false]) (.agg #[.int .i64 a0, .int .i64 a1, .int .i64 a2, .int .i64 a2, .bool false])).run Tryz.prog w = .ok (a3 == a2) w := by
  have u3 := Tryz.underlying3
  have a3' := Tryz.isAgg3
  have z3 := Tryz.sizeOf3
  have u4 := Tryz.underlying4
  have a4' := Tryz.isAgg4
  have z4 := Tryz.sizeOf4
  have hS : Tryz.prog.underlying 121 = some (.struct (Tryz.prog.fieldsOf 121)) := by kernel_rfl
  have hp : Tryz.prog.stoodInHeld 121 = false := by kernel_rfl
  rw [show (10000 : Nat) = 9999 + 1 from rfl, run_equalIn_agg w 9999 121 _ _ hS hp]
  simp only [Program.fieldsOf, Tryz.underlying121]
  go_simp
  by_cases h : a3 = a2 <;> simp [h]
theorem impl_entryOk (e : Entry) (w : World) :
    Calls Tryz.prog 127 #[.agg #[.int .i64 e.object_, .int .i64 e.version_, .int .i64 e.old_, .int .i64 e.new_, .bool e.write_]] w fun r w' => r = .returned (.bool (entryOk e)) ∧ Below w.heap.size w w' := by
  obtain ⟨a0, a1, a2, a3, a4⟩ := e
  have hE := hid (show entryOk ⟨a0, a1, a2, a3, a4⟩ = (inB a0 0 7 && inB a1 0 1000000 && isVal a2 && isVal a3 && (a4 || a3 == a2)) from rfl)
  dsimp only
  have hB := hid (show Below w.heap.size w (w.alloc (.cells #[.int .i64 a0, .int .i64 a1, .int .i64 a2, .int .i64 a3, .bool a4] 121)) from (Below.refl _ _).alloc (Nat.le_refl _) _)
  by_cases h0 : a0 < 0
  · go_enter Tryz.func127, Tryz.ntmps127
    go_wp2
    go_ret
    exact ⟨ret_bool (by rw [hE.out]; have : ¬ 0 ≤ a0 := by omega
                        simp [inB, this]), hB.out⟩
  by_cases h1 : 8 ≤ a0
  · go_enter Tryz.func127, Tryz.ntmps127
    go_wp2
    go_ret
    exact ⟨ret_bool (by rw [hE.out]; have : ¬ a0 ≤ 7 := by omega
                        simp [inB, this]), hB.out⟩
  by_cases h2 : a1 < 0
  · go_enter Tryz.func127, Tryz.ntmps127
    go_wp2
    go_ret
    exact ⟨ret_bool (by rw [hE.out]; have : ¬ 0 ≤ a1 := by omega
                        simp [inB, this]), hB.out⟩
  by_cases h3 : 1000000 < a1
  · go_enter Tryz.func127, Tryz.ntmps127
    go_wp2
    go_ret
    exact ⟨ret_bool (by rw [hE.out]; have : ¬ a1 ≤ 1000000 := by omega
                        simp [inB, this]), hB.out⟩
  have hE2 := hid (show entryOk ⟨a0, a1, a2, a3, a4⟩ = (isVal a2 && (isVal a3 && (a4 || a3 == a2))) by
    rw [hE.out]
    have e1 : inB a0 0 7 = true := by simp [inB]; omega
    have e2 : inB a1 0 1000000 = true := by simp [inB]; omega
    rw [e1, e2, Bool.and_self, Bool.true_and, Bool.and_assoc])
  cases e1 : isVal a2 with
  | false =>
    go_enter Tryz.func127, Tryz.ntmps127
    go_wp2_with (go_at_call 83; refine (impl_isValue _ _).mono ?_; rintro e w' ⟨rfl, rfl⟩)
    go_ret
    exact ⟨ret_bool (by rw [hE2.out, e1]; rfl), hB.out⟩
  | true =>
  cases e2 : isVal a3 with
  | false =>
    go_enter Tryz.func127, Tryz.ntmps127
    go_wp2_with (go_at_call 83; refine (impl_isValue _ _).mono ?_; rintro e w' ⟨rfl, rfl⟩)
    go_ret
    exact ⟨ret_bool (by rw [hE2.out, e1, e2]; rfl), hB.out⟩
  | true =>
  obtain ⟨V, hV⟩ : ∃ X, (w.alloc (.cells #[.int .i64 a0, .int .i64 a1, .int .i64 a2, .int .i64 a3, .bool a4] 121)) = X := ⟨_, rfl⟩
  have hN : w.heap.size < V.heap.size := by rw [← hV]; simp
  have k0 : V.cell? ⟨w.heap.size, 0, none⟩ = some (.int .i64 a0) := by rw [← hV]; simp [go_sem]
  have k1 : V.cell? ⟨w.heap.size, 1, none⟩ = some (.int .i64 a1) := by rw [← hV]; simp [go_sem]
  have k2 : V.cell? ⟨w.heap.size, 2, none⟩ = some (.int .i64 a2) := by rw [← hV]; simp [go_sem]
  have k3 : V.cell? ⟨w.heap.size, 3, none⟩ = some (.int .i64 a3) := by rw [← hV]; simp [go_sem]
  have k4 : V.cell? ⟨w.heap.size, 4, none⟩ = some (.bool a4) := by rw [← hV]; simp [go_sem]
  rw [hV] at hB
  have x0 := Ext.cell hN k0
  have x1 := Ext.cell hN k1
  have x2 := Ext.cell hN k2
  have x3 := Ext.cell hN k3
  have x4 := Ext.cell hN k4
  have hq := fun W => eqE_run a0 a1 a2 a3 W
  have hm : Tryz.prog.eqGuardType Tryz.prog.depth 121 = false := by kernel_rfl
  cases a4 with
  | true =>
    go_enter Tryz.func127, Tryz.ntmps127
    go_wp2_with (go_at_call 83; refine (impl_isValue _ _).mono ?_; rintro e w' ⟨rfl, rfl⟩)
    refine wp_region_ext V (Below.refl _ _) (by kernel_rfl) (by kernel_rfl) ?_
    repeat (go_big_quiet_step (first | (go_at_call 136; exact call_ext _ (impl_readEntry _ _ _ _))))
    refine wpQuiet_nil ?_; rintro _ ⟨E, rfl⟩
    go_wp2
    go_ret
    exact ⟨ret_bool (by rw [hE2.out, e1, e2]; rfl), hB.out.trans (E.h.mono (by omega))⟩
  | false =>
    go_enter Tryz.func127, Tryz.ntmps127
    go_wp2_with (go_at_call 83; refine (impl_isValue _ _).mono ?_; rintro e w' ⟨rfl, rfl⟩)
    refine wp_region_ext V (Below.refl _ _) (by kernel_rfl) (by kernel_rfl) ?_
    repeat (go_big_quiet_step (first | (go_at_call 136; exact call_ext _ (impl_readEntry _ _ _ _))))
    refine wpQuiet_nil ?_; rintro _ ⟨E, rfl⟩
    go_wp2
    go_ret
    exact ⟨ret_bool (by rw [hE2.out, e1, e2]; simp), hB.out.trans (E.h.mono (by omega))⟩
end Go.Proofs.YtbbdchlabdilcabGreat
/- Chapter 6's program: OpenOk, Opened. -/
/- Chapter 6's program: the place of an object; OpenOk, Opened. -/
namespace Go.Proofs.YtbbdchlabdilcabGreat
set_option maxRecDepth 100000
open Go.RowKit Go.Proofs Go.Own
open Go Go.BigFrame Go.Shelf
set_option linter.unusedVariables false
set_option linter.unusedSimpArgs false
theorem impl_placeOf1 (e : Entry) (o : Int) (B : Nat) (w : World) (hB : B < w.heap.size) (hc : w.cell? ⟨B, 0, none⟩ = some (.int .i64 o)) :
    Calls Tryz.prog 130 #[.agg #[.int .i64 e.object_, .int .i64 e.version_, .int .i64 e.old_, .int .i64 e.new_, .bool e.write_], .pointer (some ⟨B, 0, none⟩)] w fun r w' => r = .returned (.bool (e.object_ == o)) ∧ Below w.heap.size w w' := by
  have hne : B ≠ w.heap.size := by omega
  go_enter Tryz.func130, Tryz.ntmps130
  go_wp2
  go_ret
  exact ⟨rfl, (Below.refl _ _).alloc (Nat.le_refl _) _⟩
theorem impl_placeOf1Is (e : Entry) (o : Int) (r : Bool) (B : Nat) (w : World) (hB : B < w.heap.size) (hc : w.cell? ⟨B, 0, none⟩ = some (.int .i64 o)) (hr : (e.object_ == o) = r) :
    Calls Tryz.prog 130 #[.agg #[.int .i64 e.object_, .int .i64 e.version_, .int .i64 e.old_, .int .i64 e.new_, .bool e.write_], .pointer (some ⟨B, 0, none⟩)] w fun e w' => e = .returned (.bool r) ∧ Below w.heap.size w w' := by
  subst hr; exact impl_placeOf1 e o B w hB hc
set_option maxHeartbeats 4000000 in
theorem impl_IndexFunc (v : Value) (xs : List Entry) (o : Int) (B : Nat) (w : World) (h : Entrys w v xs) (hB : B < w.heap.size) (hc : w.cell? ⟨B, 0, none⟩ = some (.int .i64 o)) :
    Calls Tryz.prog 129 #[v, .func (.func 130) #[] #[.pointer (some ⟨B, 0, none⟩)]] w fun e w' => e = .returned (.int .i64 (placeC xs o)) ∧ Below w.heap.size w w' := by
  have eg : ∀ args w, (callFunc 130 args).run Tryz.prog w = .ok (.enter 130 args) w := enters_of Tryz.func130 (by kernel_rfl) rfl
  obtain ⟨ad, cap, rfl, hl, hm, hc0⟩ := h.open
  clear h
  have hlen : xs.length ≤ 9223372036854775807 := by omega
  have HC := hid hc0
  have HcB := hid hc
  clear hc0 hc
  go_enter Tryz.func129, Tryz.ntmps129
  go_wp2
  go_loopw [8] (fun i wr => ∃ k : Nat, k ≤ xs.length ∧ i = .int .i64 k ∧ Same (placeFrom xs o k) (placeC xs o) ∧ Below w.heap.size w wr) (fun i _ => xs.length - (intOf i).toNat)
  case atStart => exact ⟨0, by omega, rfl, .rfl, Below.refl _ _⟩
  case round =>
    obtain ⟨k, hk, rfl, hS, hW⟩ := hrel
    by_cases hlt : k < xs.length
    · obtain ⟨bb, off, rfl, hbs, c0, c1, c2, c3, c4⟩ := HC.out k hlt
      obtain ⟨e0, e1, e2, e3, e4⟩ := cells5 hW hbs c0 c1 c2 c3 c4
      have hcB := hid ((hW.cell (p := ⟨B, 0, none⟩) hB).trans HcB.out)
      have hBr := Nat.lt_of_lt_of_le hB hW.size
      have hst := hid (placeFrom_step xs o k hlt)
      clear c0 c1 c2 c3 c4 HC HcB
      cases hq : (xs[k].object_ == o) with
      | true =>
        have heq := hid (show xs[k].object_ = o by simpa using hq)
        have Hq := hid hq
        clear hq
        go_wp2_with (go_at_fn 130; refine (impl_placeOf1Is xs[k] o _ B _ hBr hcB.out Hq.out).mono ?_; rintro e w2 ⟨rfl, b2⟩)
        have hW2 := hW.trans (b2.mono hW.size)
        go_ret
        exact ⟨ret_int (by rw [← hS.out, hst.out, if_pos heq.out]), hW2⟩
      | false =>
        have heq := hid (show ¬ xs[k].object_ = o by simpa using hq)
        have Hq := hid hq
        clear hq
        go_wp2_with (go_at_fn 130; refine (impl_placeOf1Is xs[k] o _ B _ hBr hcB.out Hq.out).mono ?_; rintro e w2 ⟨rfl, b2⟩)
        have hW2 := hW.trans (b2.mono hW.size)
        go_roundw
        case rel => exact ⟨k+1, by omega, by go_num, Same.mk (by have h9 := hst.out; rw [if_neg heq.out] at h9; rw [← h9]; exact hS.out), hW2⟩
        case measure => simp [intOf]; omega
    · have He := hid (placeFrom_end xs o k hlt)
      go_wp2
      go_ret
      exact ⟨ret_int (by rw [← hS.out, He.out]), hW⟩
theorem impl_placeOf (v : Value) (xs : List Entry) (o : Int) (w : World) (h : Entrys w v xs) :
    Calls Tryz.prog 112 #[v, .int .i64 o] w fun e w' => e = .returned (.int .i64 (placeC xs o)) ∧ Below w.heap.size w w' := by
  have hmf : ∀ (fn : Fn) (first cap : Array Value) (w : World), (Instr.makeFunc fn first cap).run Tryz.prog w = .ok (.func fn first cap) w := fun _ _ _ _ => rfl
  obtain ⟨W1, hW1⟩ : ∃ X, w.alloc (.cells #[.int .i64 o] 3) = X := ⟨_, rfl⟩
  have hB1 : Below w.heap.size w W1 := by rw [← hW1]; exact (Below.refl _ _).alloc (Nat.le_refl _) _
  have hN : w.heap.size < W1.heap.size := by rw [← hW1]; simp
  have k0 : W1.cell? ⟨w.heap.size, 0, none⟩ = some (.int .i64 o) := by rw [← hW1]; simp [go_sem]
  have h1 := hid (Entrys.below h hB1)
  go_enter Tryz.func112, Tryz.ntmps112
  go_wp2_with fail
  refine (impl_IndexFunc v xs o w.heap.size _ h1.out hN k0).mono ?_
  rintro e w2 ⟨rfl, b2⟩
  have hB2 := hB1.trans (b2.mono hB1.size)
  go_wp2
  go_ret
  exact ⟨rfl, hB2⟩
theorem impl_placeOfIs (v : Value) (xs : List Entry) (o : Int) (r : Int) (w : World) (h : Entrys w v xs) (hr : placeC xs o = r) :
    Calls Tryz.prog 112 #[v, .int .i64 o] w fun e w' => e = .returned (.int .i64 r) ∧ Below w.heap.size w w' := by
  subst hr; exact impl_placeOf v xs o w h
theorem impl_entryOkIs (e : Entry) (r : Bool) (w : World) (hr : entryOk e = r) :
    Calls Tryz.prog 127 #[.agg #[.int .i64 e.object_, .int .i64 e.version_, .int .i64 e.old_, .int .i64 e.new_, .bool e.write_]] w fun e w' => e = .returned (.bool r) ∧ Below w.heap.size w w' := by
  subst hr; exact impl_entryOk e w
end Go.Proofs.YtbbdchlabdilcabGreat
namespace Go.Proofs.YtbbdchlabdilcabGreat
set_option maxRecDepth 100000
open Go.RowKit Go.Proofs Go.Own
open Go Go.BigFrame Go.Shelf
set_option linter.unusedVariables false
set_option linter.unusedSimpArgs false
/-- A slice cut at k from its beginning. -/
theorem Entrys.cut {w : World} {v : Value} {xs : List Entry} {b off cap : Nat} (h : Entrys w v xs) (hv : v = .slice (some ⟨b, off, none⟩) xs.length cap) (k : Nat) (hk : k ≤ xs.length) : Entrys w (.slice (some ⟨b, off, none⟩) k cap) (xs.take k) := by
  obtain ⟨_, a, c, e, h1, h2, _, h3⟩ := h
  rw [hv] at e
  obtain ⟨rfl, rfl⟩ : a = some ⟨b, off, none⟩ ∧ c = cap := by simp at e; exact ⟨e.1.symm, e.2.symm⟩
  have hl : (xs.take k).length = k := by simp; omega
  have hfl := flatMap_len Entry.enc 5 (fun _ => rfl) (xs.take k)
  refine ⟨hfl, _, _, by rw [hl], by omega, h2, (by intro e; cases e), ?_⟩
  by_cases h0 : k = 0
  · exact .inl (by omega)
  · rcases h3 with h3 | ⟨b', off', ha, hs, hc⟩
    · omega
    · simp only [Option.some.injEq, Addr.mk.injEq, and_true] at ha
      obtain ⟨rfl, rfl⟩ := ha
      refine .inr ⟨b, off, rfl, hs, fun j hj => ?_⟩
      have hsplit : xs.flatMap Entry.enc = (xs.take k).flatMap Entry.enc ++ (xs.drop k).flatMap Entry.enc := by rw [← List.flatMap_append, List.take_append_drop]
      have hjx : j < (xs.flatMap Entry.enc).length := by rw [hsplit, List.length_append]; omega
      rw [hc j hjx]
      congr 1
      have : (xs.flatMap Entry.enc)[j]? = ((xs.take k).flatMap Entry.enc)[j]? := by rw [hsplit, List.getElem?_append_left hj]
      rw [List.getElem?_eq_getElem hjx, List.getElem?_eq_getElem hj] at this
      exact Option.some.inj this
set_option maxHeartbeats 4000000 in
theorem impl_OpenOk (v : Value) (xs : List Entry) (w : World) (h : Entrys w v xs) :
    Calls Tryz.prog 107 #[v] w fun e w' => e = .returned (.bool (openOk xs)) ∧ Below w.heap.size w w' := by
  have H0 := hid h
  obtain ⟨ad, cap, rfl, hl, hm, hc⟩ := h.open
  clear h
  have hlen : xs.length ≤ 9223372036854775807 := by omega
  have HC := hid hc
  clear hc
  by_cases h6 : (6 : Int) < (xs.length : Int)
  · have Hno := hid (show openOk xs = false by unfold openOk; rw [decide_eq_false (by omega)]; rfl)
    go_enter Tryz.func107, Tryz.ntmps107
    go_wp2
    go_ret
    exact ⟨ret_bool Hno.out.symm, Below.refl _ _⟩
  have Hy := hid (show openOk xs = openAt xs 0 by unfold openOk; rw [decide_eq_true (by omega), Bool.true_and])
  go_enter Tryz.func107, Tryz.ntmps107
  go_wp2
  go_loopw [10] (fun i wr => ∃ k : Nat, k ≤ xs.length ∧ i = .int .i64 k ∧ Same (openAt xs 0) (openAt xs k) ∧ Below w.heap.size w wr) (fun i _ => xs.length - (intOf i).toNat)
  case atStart => exact ⟨0, by omega, rfl, .rfl, Below.refl _ _⟩
  case round =>
    obtain ⟨k, hk, rfl, hS, hB⟩ := hrel
    by_cases hlt : k < xs.length
    · obtain ⟨bb, off, rfl, hbs, c0, c1, c2, c3, c4⟩ := HC.out k hlt
      obtain ⟨e0, e1, e2, e3, e4⟩ := cells5 hB hbs c0 c1 c2 c3 c4
      have hst := hid (openAt_step xs k hlt)
      clear c0 c1 c2 c3 c4
      obtain ⟨V, hV⟩ : ∃ X, wr.alloc (.cells #[.int .i64 xs[k].object_, .int .i64 xs[k].version_, .int .i64 xs[k].old_, .int .i64 xs[k].new_, .bool xs[k].write_] 121) = X := ⟨_, rfl⟩
      have bV : Below wr.heap.size wr V := by rw [← hV]; exact (Below.refl _ _).alloc (Nat.le_refl _) _
      have hN : wr.heap.size < V.heap.size := by rw [← hV]; simp
      have k0 : V.cell? ⟨wr.heap.size, 0, none⟩ = some (.int .i64 xs[k].object_) := by rw [← hV]; simp [go_sem]
      have k1 : V.cell? ⟨wr.heap.size, 1, none⟩ = some (.int .i64 xs[k].version_) := by rw [← hV]; simp [go_sem]
      have k2 : V.cell? ⟨wr.heap.size, 2, none⟩ = some (.int .i64 xs[k].old_) := by rw [← hV]; simp [go_sem]
      have k3 : V.cell? ⟨wr.heap.size, 3, none⟩ = some (.int .i64 xs[k].new_) := by rw [← hV]; simp [go_sem]
      have k4 : V.cell? ⟨wr.heap.size, 4, none⟩ = some (.bool xs[k].write_) := by rw [← hV]; simp [go_sem]
      have HBV := hid (show Below w.heap.size w V from hB.trans (bV.mono hB.size))
      have hcut := Entrys.cut (Entrys.below H0.out HBV.out) rfl k hk
      have x0 := Ext.cell hN k0
      have x1 := Ext.cell hN k1
      have x2 := Ext.cell hN k2
      have x3 := Ext.cell hN k3
      have x4 := Ext.cell hN k4
      obtain ⟨P, hP⟩ : ∃ P, Hid (placeC (xs.take k) xs[k].object_ = P) := ⟨_, hid rfl⟩
      have HV := hid hV
      clear hV k0 k1 k2 k3 k4 HC H0 bV
      cases hEq : entryOk xs[k] with
      | false =>
        have hE := hid hEq
        have Hn := hid (show openOk xs = false by rw [Hy.out, hS.out, hst.out, hEq]; rfl)
        clear hEq
        go_wp2_with fail
        rw [HV.out]
        clear e0 e1 e2 e3 e4
        refine wp_region_ext V (Below.refl _ _) (by kernel_rfl) (by kernel_rfl) ?_
        repeat (go_big_quiet_step (first | (go_at_call 127; exact call_ext _ (impl_entryOkIs xs[k] _ _ hE)) | (go_at_call 112; exact call_ext _ (impl_placeOfIs _ (xs.take k) _ _ _ (Ext.flat hcut _) hP.out))))
        refine wpQuiet_nil ?_; rintro _ ⟨E, rfl⟩
        go_wp2
        go_ret
        exact ⟨ret_bool Hn.out.symm, HBV.out.trans (E.h.mono HBV.out.size)⟩
      | true =>
        have hE := hid hEq
        have Hst2 := hid (show openAt xs 0 = (decide (P < 0) && openAt xs (k+1)) by rw [hS.out, hst.out, hEq, hP.out, Bool.true_and])
        clear hEq
        by_cases hp : 0 ≤ P
        · have Hn := hid (show openOk xs = false by rw [Hy.out, Hst2.out, decide_eq_false (by omega)]; rfl)
          go_wp2_with fail
          rw [HV.out]
          clear e0 e1 e2 e3 e4
          refine wp_region_ext V (Below.refl _ _) (by kernel_rfl) (by kernel_rfl) ?_
          repeat (go_big_quiet_step (first | (go_at_call 127; exact call_ext _ (impl_entryOkIs xs[k] _ _ hE)) | (go_at_call 112; exact call_ext _ (impl_placeOfIs _ (xs.take k) _ _ _ (Ext.flat hcut _) hP.out))))
          refine wpQuiet_nil ?_; rintro _ ⟨E, rfl⟩
          go_wp2
          go_ret
          exact ⟨ret_bool Hn.out.symm, HBV.out.trans (E.h.mono HBV.out.size)⟩
        · go_wp2_with fail
          rw [HV.out]
          clear e0 e1 e2 e3 e4
          refine wp_region_ext V (Below.refl _ _) (by kernel_rfl) (by kernel_rfl) ?_
          repeat (go_big_quiet_step (first | (go_at_call 127; exact call_ext _ (impl_entryOkIs xs[k] _ _ hE)) | (go_at_call 112; exact call_ext _ (impl_placeOfIs _ (xs.take k) _ _ _ (Ext.flat hcut _) hP.out))))
          refine wpQuiet_nil ?_; rintro _ ⟨E, rfl⟩
          go_wp2
          go_roundw
          case rel => exact ⟨k+1, by omega, by go_num, Same.mk (by rw [Hst2.out, decide_eq_true (by omega), Bool.true_and]), HBV.out.trans (E.h.mono HBV.out.size)⟩
          case measure => simp [intOf]; omega
    · have Hn := hid (show openOk xs = true by rw [Hy.out, hS.out, openAt_end xs k hlt])
      go_wp2
      go_ret
      exact ⟨ret_bool Hn.out.symm, hB⟩
end Go.Proofs.YtbbdchlabdilcabGreat
