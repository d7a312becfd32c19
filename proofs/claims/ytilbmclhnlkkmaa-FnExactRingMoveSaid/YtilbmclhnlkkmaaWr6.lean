/- A region that draws its order, in which some operations write into blocks that were there: by a list of what each writes. Of any program. -/
import Derived.Test.YtilbmclhnlkkmaaWr5
import Derived.Test.YtilbmclhnlkkmaaMid2
namespace Go
open Go.RowKit Go.Own
set_option linter.unusedVariables false
/-- What an operation writes: into which blocks; what is known behind it. -/
structure Chg where
  i : Nat
  S : Nat → Prop
  r : Value → Nat → Nat → World → Prop
  keep : ∀ v lo hi w w', r v lo hi w → hi ≤ w.heap.size → ChgS (fun b => ¬ (lo ≤ b ∧ b < hi) ∧ ¬ S b) w w' → r v lo hi w'
/-- A struct laid whole into a box that was there. -/
def Chg.box (i b : Nat) (cs : List Value) : Chg := ⟨i, fun k => k = b, fun _ _ _ w => BoxF w b cs, fun v lo hi w w' h hs hC => h.chg hC (fun h9 => h9.2 rfl)⟩
/-- A list of the call's own that is appended to: it lies in its own blocks, or in new ones. -/
def Chg.own {α : Type} [A : Enc α] (i : Nat) (T : Nat → Prop) (xs : List α) : Chg := ⟨i, T, fun v lo hi w => ∃ S : Nat → Prop, (∀ k, S k → (T k ∧ k < w.heap.size) ∨ (lo ≤ k ∧ k < hi)) ∧ ownL S w v xs, fun v lo hi w w' ⟨S, h1, h2⟩ hs hC => ⟨S, fun k hk => (h1 k hk).imp (fun h => ⟨h.1, Nat.lt_of_lt_of_le h.2 hC.size⟩) id, h2.keep fun k hk => hC.block k ((h1 k hk).elim (fun h => h.2) (fun h => Nat.lt_of_lt_of_le h.2 hs)) (fun h9 => (h1 k hk).elim (fun h => h9.2 h.1) (fun h => h9.1 h))⟩⟩
def chgS (l : List Chg) (i b : Nat) : Prop := ∃ p ∈ l, p.i = i ∧ p.S b
def chgU (l : List Chg) (b : Nat) : Prop := ∃ p ∈ l, p.S b
def chgR (l : List Chg) (rels : List Rel) (i : Nat) : Value → Nat → Nat → World → Prop := match l.find? (fun p => p.i == i) with
  | some p => p.r
  | none => (relL rels i).r
theorem chgS_nodup {l : List Chg} (h : l.Pairwise (fun p q => p.i ≠ q.i ∧ ∀ b, p.S b → ¬ q.S b)) : ∀ p ∈ l, ∀ q ∈ l, (p.i = q.i → ∀ b, p.S b → q.S b) ∧ (p.i ≠ q.i → ∀ b, p.S b → ¬ q.S b) := by
  induction l with
  | nil => intro p hp; cases hp
  | cons c l ih =>
    obtain ⟨h1, h2⟩ := List.pairwise_cons.1 h
    intro p hp q hq
    rcases List.mem_cons.1 hp with e1 | hp1 <;> rcases List.mem_cons.1 hq with e2 | hq1
    · rw [e1, e2]; exact ⟨fun _ _ h => h, fun h => absurd rfl h⟩
    · rw [e1]; exact ⟨fun e => absurd e (h1 q hq1).1, fun _ b hb => (h1 q hq1).2 b hb⟩
    · rw [e2]; exact ⟨fun e => absurd e.symm (h1 p hp1).1, fun _ b hb hc => (h1 p hp1).2 b hc hb⟩
    · exact ih h2 p hp1 q hq1
theorem chgR_find {l : List Chg} (rels : List Rel) {p : Chg} (h : l.Pairwise (fun p q => p.i ≠ q.i ∧ ∀ b, p.S b → ¬ q.S b)) (hp : p ∈ l) : chgR l rels p.i = p.r := by
  unfold chgR
  have key : l.find? (fun q => q.i == p.i) = some p := by
    induction l with
    | nil => cases hp
    | cons c l ih =>
      obtain ⟨h1, h2⟩ := List.pairwise_cons.1 h
      rcases List.mem_cons.1 hp with rfl | hp
      · simp
      · have hne : c.i ≠ p.i := (h1 p hp).1
        rw [List.find?_cons_of_neg (by simpa using hne)]
        exact ih h2 hp
  rw [key]
theorem chgR_none {l : List Chg} (rels : List Rel) {i : Nat} (h : ∀ p ∈ l, p.i ≠ i) : chgR l rels i = (relL rels i).r := by
  unfold chgR
  have : l.find? (fun p => p.i == i) = none := by
    rw [List.find?_eq_none]
    intro p hp he
    exact h p hp (by simpa using he)
  rw [this]
theorem wp_region_chgs {P : Program} {id : Nat} {Q : Exit → Act → World → Prop} {a : Act} {w : World} {l : List Oper} (cl : List Chg) (rels : List Rel) (deps : List (List Nat)) (kds : List Kd5)
    (hm : P.follows .mixedOrders = true) (hB : Region.lexB .any l.toArray = true)
    (hdep : ((List.range l.length).all fun j => (depL deps j).all fun d => Region.waitsFor .any l.toArray j d) = true) (hkd : kdB5 l.toArray (depL deps) (kdL5 kds) = true) (hl : Nat.ble kds.length l.length = true)
    (hk1 : ((List.range l.length).all fun i => !decide (kdL5 kds i = .change) || cl.any (fun p => p.i == i)) = true) (hk2 : (cl.all fun p => decide (kdL5 kds p.i = .change)) = true)
    (hU : ∀ b, chgU cl b → b < w.heap.size) (hdj : cl.Pairwise (fun p q => p.i ≠ q.i ∧ ∀ b, p.S b → ¬ q.S b))
    (h : wpAll5 P l.toArray (fun w' => ∃ e : ExtS (chgU cl) w, w' = e.w) (fun i => (relL rels i).sh) (chgR cl rels) (chgS cl) w (depL deps) (kdL5 kds) (fun a' m' => ∀ E : ExtS (chgU cl) w, MadeAll5 (chgR cl rels) (chgS cl) w w.heap.size (kdL5 kds) m' E.w → Q .normal a' E.w) l 0 a Made.none) : (Code.region id l.toArray true).wp P Q a w := by
  have hk : ∀ i, kdL5 kds i = .change → ∃ p ∈ cl, p.i = i := fun i e => by
    have hi : i < l.length := by
      rcases Nat.lt_or_ge i l.length with h9 | h9
      · exact h9
      · rw [kdL5_out hl i h9] at e; cases e
    have h8 := List.all_eq_true.1 hk1 i (List.mem_range.2 hi)
    simp only [e, decide_true, Bool.not_true, Bool.false_or, List.any_eq_true, beq_iff_eq] at h8
    exact h8
  refine wp_region_many (chgS cl) (chgU cl) (chgR cl rels) rels deps kds hm hB hdep hkd hl (fun i b ⟨p, hp, _, hb⟩ => ⟨p, hp, hb⟩) hU ?_ ?_ ?_ h
  · rintro i j b - - hij ⟨p, hp, rfl, hb⟩ ⟨q, hq, rfl, hb2⟩
    exact (chgS_nodup hdj p hp q hq).2 hij b hb hb2
  · intro i hi
    unfold chgR
    have : cl.find? (fun p => p.i == i) = none := by
      rw [List.find?_eq_none]
      intro p hp he
      have h9 := List.all_eq_true.1 hk2 p hp
      simp only [decide_eq_true_eq] at h9
      have e : p.i = i := by simpa using he
      rw [e] at h9
      exact hi h9
    rw [this]
  · intro i hi v lo hh w1 w2 hr hs hC
    obtain ⟨p, hp, rfl⟩ := hk i hi
    rw [chgR_find rels hdj hp] at hr ⊢
    exact p.keep v lo hh w1 w2 hr hs (hC.mono fun b hb => ⟨hb.1, fun h9 => hb.2 ⟨p, hp, rfl, h9⟩⟩)
/-- The run of a store of a whole struct into its box. -/
theorem run_put_box {P : Program} {o : Oper} {a : Act} {w : World} (ty : TypeId) (x y : Operand) (ho : o.op = .store ty x y) (b : Nat) (cs vs : List Value) (hb : BoxF w b cs) (hx : a.eval x = .pointer (some ⟨b, 0, none⟩)) (hy : a.eval y = .agg vs.toArray) (hl : cs.length = vs.length)
    (hi : (P.info? ty).map (·.size) = some vs.length) (h1 : vs.all (·.oneCell') = true) : ∃ w', (execOp a.eval o).run P w = .ok .skip w' ∧ ChgS (fun k => k = b) w w' ∧ BoxF w' b vs := by
  refine ⟨w.setCells b 0 vs, ?_, chg_setCells (S := fun k => k = b) b rfl _ 0 w (ChgS.refl _ _), hb.setCells vs hl⟩
  unfold execOp
  have ht : w.there b 0 vs.toArray.size := hb.there (by simp [hl])
  simp only [ho, hx, hy, Instr.storeAt, Instr.sureAddr, Sem.run_bind, Sem.run_pure, Result.andThen_ok, run_storeVar_mid w b 0 ty vs.toArray ht (by simpa using hi) (all_oneCell_toArray (by simpa using h1))]
section
variable {P : Program} {ops : Array Oper} {W : World} {Sh : Nat → Value → Nat → Nat → Prop} {dep : Nat → List Nat} {kd : Nat → Kd5} {Q : Act → Made → Prop} {o : Oper} {rest : List Oper} {i : Nat} {a : Act} {m : Made} {cl : List Chg} {rels : List Rel}
/-- A struct stored whole into a box that was there. -/
theorem wpR_putbox (ty : TypeId) (x y : Operand) (b : Nat) (cs vs : List Value) (hdj : cl.Pairwise (fun p q => p.i ≠ q.i ∧ ∀ b, p.S b → ¬ q.S b)) (hc : Chg.box i b vs ∈ cl) (hb : BoxF W b cs) (ho : o.op = .store ty x y) (hx : a.eval x = .pointer (some ⟨b, 0, none⟩)) (hy : a.eval y = .agg vs.toArray) (hl : cs.length = vs.length)
    (hi : (P.info? ty).map (·.size) = some vs.length) (h1 : vs.all (·.oneCell') = true)
    (hw : Region.wanted o (yielded ops a.tmps) = true) (hk : kd i = .change) (hsh : Sh i = (Rel.val undef).sh)
    (h2 : ∀ lo hi, wpAll5 P ops (fun w' => ∃ e : ExtS (chgU cl) W, w' = e.w) Sh (chgR cl rels) (chgS cl) W dep kd Q rest (i + 1) (a.put o.dst undef) (m.upd i (.agg vs.toArray, lo, hi))) : wpAll5 P ops (fun w' => ∃ e : ExtS (chgU cl) W, w' = e.w) Sh (chgR cl rels) (chgS cl) W dep kd Q (o :: rest) i a m := by
  have hR : chgR cl rels i = (Chg.box i b vs).r := chgR_find rels hdj hc
  have hSb : ∀ k, chgS cl i k ↔ k = b := fun k => by
    constructor
    · rintro ⟨q, hq, e, hb9⟩
      exact (chgS_nodup hdj q hq _ hc).1 e k hb9
    · rintro rfl
      exact ⟨_, hc, rfl, rfl⟩
  refine wpR_put5 (.agg vs.toArray) (chgR cl rels i) ?_ hw hk hsh rfl (fun v => ?_) (fun w hC hS => ?_) h2
  · rintro w1 w2 ⟨E, rfl⟩ hC
    exact ⟨⟨w2, E.h.trans (hC.mono fun k ⟨p, hp, _, hb9⟩ => ⟨p, hp, hb9⟩)⟩, rfl⟩
  · unfold Oper.told; rw [ho]; exact hy
  · obtain ⟨E, rfl⟩ := hC
    have hb2 : BoxF E.w b cs := hb.same (hS b ((hSb b).2 rfl)) E.size
    obtain ⟨w', h3, h4, h5⟩ := run_put_box (P := P) (o := o) (a := a) ty x y ho b cs vs hb2 hx hy hl hi h1
    exact ⟨w', h3, h4.mono (fun k hk => (hSb k).2 hk), by rw [hR]; exact h5⟩
end
end Go
