/- A region that draws its order: a list of the call's own, of flat data, is appended to. Of any program. -/
import Derived.Test.YtilbmclhnlkkmaaWr6
namespace Go
open Go.RowKit Go.Own
set_option linter.unusedVariables false
/-- A slice. -/
def Rel.slc : Rel := ⟨fun v _ _ => ∃ (a : Option Addr) (n c : Nat), v = .slice a n c, fun _ _ _ _ => True, ⟨_, 0, 0, Option.none, 0, 0, rfl⟩, fun _ _ _ _ _ h _ _ => h⟩
theorem run_append_flat_at {α : Type} [A : FlatEnc α] {P : Program} {o : Oper} {a : Act} {w : World} (s x : Operand) (t : TypeId) (ho : o.op = Op.call { callee := Callee.builtin Builtin.append, args := #[s, x], argTypes := #[t, t] })
    (i : TypeInfo) (z : Value) (size bytes : Nat) (ht : P.underlying t = some (.slice A.ty)) (hi : P.info? A.ty = some i) (hz : i.zero = some z) (hsize : i.size = size) (hby : i.bytes = bytes) (hzs : z.cells.size = size) (hsz : 0 < size) (hAs : A.sz = size)
    (T : Nat → Prop) (v u : Value) (xs ys : List α) (hs : a.eval s = v) (hx : a.eval x = u) (hown : ownL T w v xs) (hu : rdsL w u ys) (hm : 0 < ys.length) (h1 : ∀ c ∈ ys.flatMap A.enc, c.oneCell' = true)
    (h63 : xs.length + ys.length ≤ maxLen) (hbytes : (xs.length + ys.length) * bytes ≤ 140737488355328) :
    ∃ (a9 : Option Addr) (n9 c9 : Nat) (w' : World), (execOp a.eval o).run P w = .ok (.value (.slice a9 n9 c9)) w' ∧ ChgS T w w' ∧ ∃ S : Nat → Prop, (∀ k, S k → (T k ∧ k < w.heap.size) ∨ (w.heap.size ≤ k ∧ k < w'.heap.size)) ∧ ownL S w' (.slice a9 n9 c9) (xs ++ ys) := by
  subst hAs
  obtain ⟨hrow, hT⟩ := own_flat.1 hown
  have hu2 := rds_flat.1 hu
  rcases hu2.src with ⟨-, e2, e3⟩ | ⟨ad, cap, rfl, hl, hc⟩
  · omega
  obtain ⟨v', w', hrun, r1, r2, _⟩ := run_append_own (P := P) (w := w) 0 t o.type A.ty i z A.sz bytes ht hi hz hsize hby hzs hsz v xs.length _ hrow ad ys.length cap _ hl hc h1 h63 hbytes (Nat.zero_le _)
  have hp := append_place (P := P) 0 t o.type A.ty i z A.sz bytes ht hi hz hsize hby v xs.length _ hrow ad ys.length cap _ hl hc h1 h63 hbytes hm hrun
  have r3 : w'.ownsRow 0 A.ty A.sz v' (xs ++ ys).length ((xs ++ ys).flatMap A.enc) := by rw [List.length_append, List.flatMap_append]; exact r1
  obtain ⟨a9, n9, c9, rfl⟩ := owns_form3 r1
  refine ⟨a9, n9, c9, w', ?_, ChgS.of_grown r2 (fun k e => hT k e), fun k => Blk (.slice a9 n9 c9) k, fun k hk => ?_, own_flat.2 ⟨r3, fun k hk => hk⟩⟩
  · simp [execOp, ho, resolve, invoke, builtin, hs, hx, hrun, Result.andThen]
  · have hlt := World.ownsRow.lt r3 k hk
    rcases hp k hk with h | h
    · exact .inl ⟨hT k h, (World.ownsRow.lt hrow k h).2⟩
    · exact .inr ⟨by omega, hlt.2⟩
section
variable {P : Program} {ops : Array Oper} {W : World} {Sh : Nat → Value → Nat → Nat → Prop} {dep : Nat → List Nat} {kd : Nat → Kd5} {Q : Act → Made → Prop} {o : Oper} {rest : List Oper} {i : Nat} {a : Act} {m : Made} {cl : List Chg} {rels : List Rel}
/-- An append to a list of the call's own. -/
theorem wpR_append6 {α : Type} [A : FlatEnc α] (s x : Operand) (t : TypeId) (ho : o.op = Op.call { callee := Callee.builtin Builtin.append, args := #[s, x], argTypes := #[t, t] })
    (i0 : TypeInfo) (z : Value) (size bytes : Nat) (ht : P.underlying t = some (.slice A.ty)) (hi : P.info? A.ty = some i0) (hz : i0.zero = some z) (hsize : i0.size = size) (hby : i0.bytes = bytes) (hzs : z.cells.size = size) (hsz : 0 < size) (hAs : A.sz = size)
    (T : Nat → Prop) (v u : Value) (xs ys : List α) (hs : a.eval s = v) (hx : a.eval x = u) (hown : ownL T W v xs) (hT : ∀ k, T k → k < W.heap.size)
    (hu : ∀ w, (∃ e : ExtS (chgU cl) W, w = e.w) → Deps (chgR cl rels) dep i m w → rdsL w u ys) (hm : 0 < ys.length) (h1 : ∀ c ∈ ys.flatMap A.enc, c.oneCell' = true)
    (h63 : xs.length + ys.length ≤ maxLen) (hbytes : (xs.length + ys.length) * bytes ≤ 140737488355328)
    (hdj : cl.Pairwise (fun p q => p.i ≠ q.i ∧ ∀ b, p.S b → ¬ q.S b)) (hc : Chg.own i T (xs ++ ys) ∈ cl)
    (hw : Region.wanted o (yielded ops a.tmps) = true) (hk : kd i = .change) (hsh : Sh i = Rel.slc.sh)
    (h2 : ∀ a9 n9 c9 lo hh, wpAll5 P ops (fun w' => ∃ e : ExtS (chgU cl) W, w' = e.w) Sh (chgR cl rels) (chgS cl) W dep kd Q rest (i + 1) (a.put o.dst (.slice a9 n9 c9)) (m.upd i (.slice a9 n9 c9, lo, hh))) : wpAll5 P ops (fun w' => ∃ e : ExtS (chgU cl) W, w' = e.w) Sh (chgR cl rels) (chgS cl) W dep kd Q (o :: rest) i a m := by
  have hR : chgR cl rels i = (Chg.own i T (xs ++ ys)).r := chgR_find rels hdj hc
  have hSb : ∀ k, chgS cl i k ↔ T k := fun k => by
    constructor
    · rintro ⟨q, hq, e, hb9⟩
      exact (chgS_nodup hdj q hq _ hc).1 e k hb9
    · intro hk9
      exact ⟨_, hc, rfl, hk9⟩
  have ht9 : ∀ y, o.told a y = y := fun y => by unfold Oper.told; rw [ho]
  refine ⟨?_, fun v' u' hv' => ?_⟩
  · unfold Obl5; rw [if_pos hw, hk]
    intro w hC hd hS
    have hC0 := hC
    obtain ⟨E, rfl⟩ := hC
    have hown2 : ownL T E.w v xs := hown.keep fun b hb => hS b ((hSb b).2 hb)
    obtain ⟨a9, n9, c9, w', h3, h4, S9, h5, h6⟩ := run_append_flat_at (P := P) (o := o) (a := a) s x t ho i0 z size bytes ht hi hz hsize hby hzs hsz hAs T v u xs ys hs hx hown2 (hu _ hC0 hd) hm h1 h63 hbytes
    rw [h3]
    have h4' : ChgS (chgS cl i) E.w w' := h4.mono fun k hk => (hSb k).2 hk
    refine ⟨⟨⟨w', E.h.trans (h4'.mono fun k ⟨p, hp, _, hb9⟩ => ⟨p, hp, hb9⟩)⟩, rfl⟩, h4', ?_, ?_⟩
    · rw [hsh]; exact ⟨a9, n9, c9, rfl⟩
    · rw [hR, ht9]
      exact ⟨S9, fun k hk => (h5 k hk).imp (fun h => ⟨h.1, Nat.lt_of_lt_of_le h.2 h4.size⟩) id, h6⟩
  · unfold Outs5 at hv'
    rw [if_pos hw, hk] at hv'
    obtain ⟨lo, hh, rfl, hs9⟩ := hv'
    rw [hsh] at hs9
    obtain ⟨a9, n9, c9, rfl⟩ := hs9
    rw [ht9]
    exact h2 a9 n9 c9 lo hh
/-- A field of a struct that lies in a box that was there. -/
def Chg.cell (i b j : Nat) (cs : List Value) : Chg := ⟨i, fun k => k = b, fun v _ _ w => BoxF w b (cs.set j v), fun v lo hi w w' h hs hC => h.chg hC (fun h9 => h9.2 rfl)⟩
theorem run_put_cell {P : Program} {o : Oper} {a : Act} {w : World} (ty : TypeId) (x y : Operand) (ho : o.op = .store ty x y) (b j : Nat) (cs : List Value) (v : Value) (hb : BoxF w b cs) (hx : a.eval x = .pointer (some ⟨b, j, none⟩)) (hy : a.eval y = v) (hj : j < cs.length)
    (hi : (P.info? ty).map (·.size) = some 1) (h1 : v.oneCell' = true) (hv : v.cells = #[v]) : ∃ w', (execOp a.eval o).run P w = .ok .skip w' ∧ ChgS (fun k => k = b) w w' ∧ BoxF w' b (cs.set j v) := by
  have hc : (w.cell? ⟨b, j, none⟩).isSome = true := by rw [hb.1.2 j hj, List.getElem?_eq_getElem hj]; rfl
  refine ⟨w.setCell ⟨b, j, none⟩ v, ?_, (ChgS.refl _ w).set _ _ rfl, hb.set j hj v⟩
  unfold execOp
  simp only [ho, hx, hy, Instr.storeAt, Instr.sureAddr, Sem.run_bind, Sem.run_pure, Result.andThen_ok, run_storeVar_one w b j ty v hc (hb.2 j hj) hi h1 hv]
/-- A field stored into a box that was there. -/
theorem wpR_putcell (ty : TypeId) (x y : Operand) (b j : Nat) (cs : List Value) (v : Value) (hdj : cl.Pairwise (fun p q => p.i ≠ q.i ∧ ∀ b, p.S b → ¬ q.S b)) (hc : Chg.cell i b j cs ∈ cl) (hb : BoxF W b cs) (ho : o.op = .store ty x y) (hx : a.eval x = .pointer (some ⟨b, j, none⟩)) (hy : a.eval y = v) (hj : j < cs.length)
    (hi : (P.info? ty).map (·.size) = some 1) (h1 : v.oneCell' = true) (hv : v.cells = #[v])
    (hw : Region.wanted o (yielded ops a.tmps) = true) (hk : kd i = .change) (hsh : Sh i = (Rel.val undef).sh)
    (h2 : ∀ lo hi, wpAll5 P ops (fun w' => ∃ e : ExtS (chgU cl) W, w' = e.w) Sh (chgR cl rels) (chgS cl) W dep kd Q rest (i + 1) (a.put o.dst undef) (m.upd i (v, lo, hi))) : wpAll5 P ops (fun w' => ∃ e : ExtS (chgU cl) W, w' = e.w) Sh (chgR cl rels) (chgS cl) W dep kd Q (o :: rest) i a m := by
  have hR : chgR cl rels i = (Chg.cell i b j cs).r := chgR_find rels hdj hc
  have hSb : ∀ k, chgS cl i k ↔ k = b := fun k => by
    constructor
    · rintro ⟨q, hq, e, hb9⟩
      exact (chgS_nodup hdj q hq _ hc).1 e k hb9
    · rintro rfl
      exact ⟨_, hc, rfl, rfl⟩
  refine wpR_put5 v (chgR cl rels i) ?_ hw hk hsh rfl (fun u => ?_) (fun w hC hS => ?_) h2
  · rintro w1 w2 ⟨E, rfl⟩ hC
    exact ⟨⟨w2, E.h.trans (hC.mono fun k ⟨p, hp, _, hb9⟩ => ⟨p, hp, hb9⟩)⟩, rfl⟩
  · unfold Oper.told; rw [ho]; exact hy
  · obtain ⟨E, rfl⟩ := hC
    have hb2 : BoxF E.w b cs := hb.same (hS b ((hSb b).2 rfl)) E.size
    obtain ⟨w', h3, h4, h5⟩ := run_put_cell (P := P) (o := o) (a := a) ty x y ho b j cs v hb2 hx hy hj hi h1 hv
    exact ⟨w', h3, h4.mono (fun k hk => (hSb k).2 hk), by rw [hR]; exact h5⟩
end
end Go
