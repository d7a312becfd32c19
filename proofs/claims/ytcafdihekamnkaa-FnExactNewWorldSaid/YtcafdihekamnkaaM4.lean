/- Chapter 6's model: an entry that is so, OpenOk, Opened, a list's copy. -/
import Derived.Test.YtcafdihekamnkaaF0
import Derived.Test.YtcafdihekamnkaaProg
import Derived.Test.YtcafdihekamnkaaF6
import Derived.Test.YtcafdihekamnkaaBx
import Derived.Test.YtcafdihekamnkaaBase2
import Derived.Deep.QuietTactic
import Derived.BigQuiet
/- The contracts of the model's small functions. -/
namespace Go.Proofs.Ytcafdihekamnkaa
set_option maxRecDepth 100000
open Go.RowKit Go.Proofs Go.Own

theorem spec_l1In (x a b : Int) (w : World) :
    Calls Try.prog 18 #[.int .i64 x, .int .i64 a, .int .i64 b] w fun e w' => e = .returned (.bool (inB x a b)) ∧ w = w' := by
  go_enter Try.func18, Try.ntmps18
  go_wp2
  all_goals go_ret
  all_goals (simp [inB, *]; try omega)

theorem spec_l1Value (x : Int) (w : World) :
    Calls Try.prog 68 #[.int .i64 x] w fun e w' => e = .returned (.bool (isVal x)) ∧ w = w' := by
  go_enter Try.func68, Try.ntmps68
  go_wp2_with (go_at_call 18; refine (spec_l1In _ _ _ _).mono ?_; rintro e w' ⟨rfl, rfl⟩)
  go_ret
  exact ⟨rfl, rfl⟩

theorem infoInt0 : (Try.prog.info? 3).map (fun i => (i.zero, i.size, i.bytes)) = some (some (.int .i64 0), 1, 8) := by kernel_rfl
theorem spec_l1Copy (v : Value) (xs : List Int) (w : World) (h : Ints w v xs) (hx : xs.length ≤ 1048576) :
    Calls Try.prog 19 #[v] w fun e w' => ∃ v', e = .returned v' ∧ w'.ownsRow w.heap.size 3 1 v' xs.length (xs.flatMap encI) ∧ Below w.heap.size w w' := by
  obtain ⟨i0, hi, hz0, hz1, hz2⟩ := info_parts infoInt0
  have hone := hid (oneCell_enc oneCell_I xs)
  obtain ⟨ad, cap, rfl, hl, hm⟩ := Flat.form h
  have hown : (w.alloc (.cells #[] 3)).ownsRow w.heap.size 3 1 (.slice (some ⟨w.heap.size, 0, none⟩) 0 0) 0 [] := World.ownsRow_made _ _ _ (Nat.le_refl _) (Nat.zero_le _) rfl
  have hB : Below w.heap.size w (w.alloc (.cells #[] 3)) := (Below.refl _ _).alloc (Nat.le_refl _) _
  have h2 := Flat.below h hB
  go_enter Try.func19, Try.ntmps19
  go_wp2_with (at_builtin; refine wpList_append_flat rfl _ _ 22 rfl w.heap.size 3 i0 (.int .i64 0) 1 8 Try.underlying22 hi hz0 hz1 hz2 rfl (by decide) _ _ _ rfl hown _ _ _ rfl h2 hone.out (by unfold maxLen; omega) (by omega) (by simp) ?_)
  intro v' w1 ho hg
  have hB1 := hB.trans (below_of_mark hown hg (Nat.le_refl _) (by simp))
  go_wp2
  go_ret
  exact ⟨_, rfl, ho, hB1⟩


theorem quiet_eq {P : Program} {f : FuncId} {args : Array Value} {w : World} {n : Nat} {v : Value}
    (h : Calls P f args (w.drewN n) fun e w' => e = .returned v ∧ w.drewN n = w') : Calls P f args (w.drewN n) fun e w'' => e = .returned v ∧ ∃ m, w'' = w.drewN m :=
  h.mono fun _ _ ⟨he, hm⟩ => ⟨he, n, hm.symm⟩


/-- A slice cut at k from its beginning. -/
theorem Ints.cut {w : World} {v : Value} {xs : List Int} {b off cap : Nat} (h : Ints w v xs) (hv : v = .slice (some ⟨b, off, none⟩) xs.length cap) (k : Nat) (hk : k ≤ xs.length) : Ints w (.slice (some ⟨b, off, none⟩) k cap) (xs.take k) := by
  obtain ⟨_, a, c, e, h1, h2, _, h3⟩ := h
  rw [hv] at e
  obtain ⟨rfl, rfl⟩ : a = some ⟨b, off, none⟩ ∧ c = cap := by simp at e; exact ⟨e.1.symm, e.2.symm⟩
  have hl : (xs.take k).length = k := by simp; omega
  refine ⟨flatMap_len encI 1 (fun _ => rfl) _, _, _, by rw [hl], by omega, h2, (by intro e; cases e), ?_⟩
  by_cases h0 : k = 0
  · exact .inl (by omega)
  · rcases h3 with h3 | ⟨b', off', ha, hs, hc⟩
    · omega
    · simp only [Option.some.injEq, Addr.mk.injEq, and_true] at ha
      obtain ⟨rfl, rfl⟩ := ha
      refine .inr ⟨b, off, rfl, hs, fun j hj => ?_⟩
      have hj' : j < k := by rw [flatMap_len encI 1 (fun _ => rfl)] at hj; omega
      have hjx : j < (xs.flatMap encI).length := by rw [flatMap_len encI 1 (fun _ => rfl)]; omega
      rw [hc j hjx]
      congr 1
      simp only [encI_map, List.getElem_map, List.getElem_take]

end Go.Proofs.Ytcafdihekamnkaa
namespace Go.Proofs.Ytcafdihekamnkaa
set_option maxRecDepth 100000
open Go.RowKit Go.Proofs Go.Own
set_option linter.unusedVariables false
set_option linter.unusedSimpArgs false
/-- The cells of an entry behind a step. -/
theorem cells5 {w wr : World} {b o : Nat} {v0 v1 v2 v3 v4 : Value} (hB : Below w.heap.size w wr) (hb : b < w.heap.size) (c0 : w.cell? ⟨b, o, none⟩ = some v0) (c1 : w.cell? ⟨b, o + 1, none⟩ = some v1) (c2 : w.cell? ⟨b, o + 2, none⟩ = some v2) (c3 : w.cell? ⟨b, o + 3, none⟩ = some v3) (c4 : w.cell? ⟨b, o + 4, none⟩ = some v4) :
    wr.cell? ⟨b, o, none⟩ = some v0 ∧ wr.cell? ⟨b, o + 1, none⟩ = some v1 ∧ wr.cell? ⟨b, o + 2, none⟩ = some v2 ∧ wr.cell? ⟨b, o + 3, none⟩ = some v3 ∧ wr.cell? ⟨b, o + 4, none⟩ = some v4 :=
  ⟨(hB.cell (p := ⟨b, o, none⟩) hb).trans c0, (hB.cell (p := ⟨b, o + 1, none⟩) hb).trans c1, (hB.cell (p := ⟨b, o + 2, none⟩) hb).trans c2, (hB.cell (p := ⟨b, o + 3, none⟩) hb).trans c3, (hB.cell (p := ⟨b, o + 4, none⟩) hb).trans c4⟩
end Go.Proofs.Ytcafdihekamnkaa
/- Worlds that grow out of a world: facts said once of all of them; a region that draws its order, walked once, in a class of such worlds. -/
namespace Go.Own
open Go.RowKit
/-- A world that has grown out of W: what W has is there as it was. -/
structure Ext (W : World) where
  w : World
  h : Below W.heap.size W w
theorem Ext.size {W : World} (e : Ext W) : W.heap.size ≤ e.w.heap.size := e.h.size
/-- This very world. -/
def Ext.here (W : World) : Ext W := ⟨W, Below.refl _ _⟩
instance (W : World) : Nonempty (Ext W) := ⟨Ext.here W⟩
/-- A world that grows on from a grown one. -/
def Ext.on {W : World} (e : Ext W) {w' : World} (h : Below e.w.heap.size e.w w') : Ext W := ⟨w', e.h.trans (h.mono e.size)⟩
theorem Ext.ex {W : World} (e : Ext W) {w' : World} (h : Below e.w.heap.size e.w w') : ∃ E : Ext W, w' = E.w := ⟨e.on h, rfl⟩
theorem Ext.of {W w' : World} (h : Below W.heap.size W w') : ∃ E : Ext W, w' = E.w := ⟨⟨w', h⟩, rfl⟩
/-- A world grown out of a grown one has grown out of the first. -/
def Ext.back {W V : World} (h : Below W.heap.size W V) (e : Ext V) : Ext W := ⟨e.w, h.trans (e.h.mono h.size)⟩
theorem Ext.back_w {W V : World} (h : Below W.heap.size W V) (e : Ext V) : (e.back h).w = e.w := rfl
theorem Ext.cell {W : World} {b o : Nat} {v : Value} (hb : b < W.heap.size) (h : W.cell? ⟨b, o, none⟩ = some v) : ∀ e : Ext W, e.w.cell? ⟨b, o, none⟩ = some v := fun e => (e.h.cell (p := ⟨b, o, none⟩) hb).trans h
theorem Ext.froz {W : World} {b o : Nat} {v : Bool} (hb : b < W.heap.size) (h : W.frozen? ⟨b, o, none⟩ = v) : ∀ e : Ext W, e.w.frozen? ⟨b, o, none⟩ = v := fun e => (e.h.frozen (p := ⟨b, o, none⟩) hb).trans h
theorem Ext.flat {W : World} {v : Value} {n sz : Nat} {cs : List Value} (h : Flat W v n sz cs) : ∀ e : Ext W, Flat e.w v n sz cs := fun e => Flat.below h e.h
theorem Ext.now {W : World} {p : Addr} {v : Option Value} (h : ∀ e : Ext W, e.w.cell? p = v) : W.cell? p = v := h (Ext.here W)
theorem Ext.lt {W : World} {b : Nat} (h : b < W.heap.size) : ∀ e : Ext W, b < e.w.heap.size := fun e => Nat.lt_of_lt_of_le h e.size
theorem Ext.ne {W : World} {b : Nat} (h : b < W.heap.size) : ∀ e : Ext W, (b == e.w.heap.size) = false := fun e => by have := e.size; simp; omega
/-- A region that draws its order: one walk of the text's order, in all worlds grown out of W. -/
theorem wp_region_ext {P : Program} {id : Nat} {Q : Exit → Act → World → Prop} {a : Act} {w : World} {l : List Oper} (W : World) (hW : Below W.heap.size W w) (hm : P.follows .mixedOrders = true) (hB : Region.lexB .any l.toArray = true)
    (h : wpQuiet P l.toArray (fun w' => ∃ e : Ext W, w' = e.w) (fun a' => ∀ w', (∃ e : Ext W, w' = e.w) → Q .normal a' w') l a) : (Code.region id l.toArray true).wp P Q a w :=
  wp_region_quiet (C := fun w' => ∃ e : Ext W, w' = e.w) hm hB ⟨⟨_, hW.drew⟩, rfl⟩ (by simpa using h)
theorem call_ext {P : Program} {f : FuncId} {args : Array Value} {W : World} (E : Ext W) {v : Value} (h : Calls P f args E.w fun e w' => e = .returned v ∧ Below E.w.heap.size E.w w') : Calls P f args E.w fun e w'' => e = .returned v ∧ ∃ e2 : Ext W, w'' = e2.w :=
  h.mono fun _ _ ⟨he, hb⟩ => ⟨he, E.ex hb⟩
theorem call_ext_same {P : Program} {f : FuncId} {args : Array Value} {W : World} (E : Ext W) {v : Value} (h : Calls P f args E.w fun e w' => e = .returned v ∧ E.w = w') : Calls P f args E.w fun e w'' => e = .returned v ∧ ∃ e2 : Ext W, w'' = e2.w :=
  h.mono fun _ _ ⟨he, hb⟩ => ⟨he, E, hb.symm⟩
/-- A box that is made anew. -/
theorem Ext.alloc {W : World} (e : Ext W) (o : Obj) : Below W.heap.size W (e.w.alloc o) := e.h.alloc (by have := e.size; omega) _
end Go.Own
