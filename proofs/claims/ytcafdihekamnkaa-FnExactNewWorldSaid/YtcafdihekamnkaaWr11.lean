/- Five lists in an answer; boxes of five cells. Of any program. (printed by tools/mk_wr11.py) -/
import Derived.Test.YtcafdihekamnkaaWr3
import Derived.Test.YtcafdihekamnkaaEnc5
namespace Go.Own
open Go.RowKit
set_option linter.unusedVariables false
/-- 5 lists of the call's own, apart from each other, in a value of some form. -/
def G5 {α0 : Type} [A0 : Enc α0] {α1 : Type} [A1 : Enc α1] {α2 : Type} [A2 : Enc α2] {α3 : Type} [A3 : Enc α3] {α4 : Type} [A4 : Enc α4] (mk : Value → Value → Value → Value → Value → Value) (x0 : List α0) (x1 : List α1) (x2 : List α2) (x3 : List α3) (x4 : List α4) (S : Nat → Prop) (w : World) (v : Value) : Prop := ∃ (u0 u1 u2 u3 u4 : Value) (S0 S1 S2 S3 S4 : Nat → Prop), v = mk u0 u1 u2 u3 u4 ∧ ownL S0 w u0 x0 ∧ ownL S1 w u1 x1 ∧ ownL S2 w u2 x2 ∧ ownL S3 w u3 x3 ∧ ownL S4 w u4 x4 ∧ (∀ k, S0 k → S k) ∧ (∀ k, S1 k → S k) ∧ (∀ k, S2 k → S k) ∧ (∀ k, S3 k → S k) ∧ (∀ k, S4 k → S k) ∧ (∀ k, S0 k → ¬ S1 k) ∧ (∀ k, S0 k → ¬ S2 k) ∧ (∀ k, S0 k → ¬ S3 k) ∧ (∀ k, S0 k → ¬ S4 k) ∧ (∀ k, S1 k → ¬ S2 k) ∧ (∀ k, S1 k → ¬ S3 k) ∧ (∀ k, S1 k → ¬ S4 k) ∧ (∀ k, S2 k → ¬ S3 k) ∧ (∀ k, S2 k → ¬ S4 k) ∧ (∀ k, S3 k → ¬ S4 k)
theorem G5_keep {α0 : Type} [A0 : Enc α0] {α1 : Type} [A1 : Enc α1] {α2 : Type} [A2 : Enc α2] {α3 : Type} [A3 : Enc α3] {α4 : Type} [A4 : Enc α4] (mk : Value → Value → Value → Value → Value → Value) (x0 : List α0) (x1 : List α1) (x2 : List α2) (x3 : List α3) (x4 : List α4) (S : Nat → Prop) (w w' : World) (v : Value) (h : G5 mk x0 x1 x2 x3 x4 S w v) (hk : ∀ k, S k → w'.heap[k]? = w.heap[k]?) : G5 mk x0 x1 x2 x3 x4 S w' v := by
  obtain ⟨u0, u1, u2, u3, u4, S0, S1, S2, S3, S4, e, o0, o1, o2, o3, o4, s0, s1, s2, s3, s4, d01, d02, d03, d04, d12, d13, d14, d23, d24, d34⟩ := h
  exact ⟨u0, u1, u2, u3, u4, S0, S1, S2, S3, S4, e, o0.keep fun k h => hk k (s0 k h), o1.keep fun k h => hk k (s1 k h), o2.keep fun k h => hk k (s2 k h), o3.keep fun k h => hk k (s3 k h), o4.keep fun k h => hk k (s4 k h), s0, s1, s2, s3, s4, d01, d02, d03, d04, d12, d13, d14, d23, d24, d34⟩
def Rel.g5 {α0 : Type} [A0 : Enc α0] {α1 : Type} [A1 : Enc α1] {α2 : Type} [A2 : Enc α2] {α3 : Type} [A3 : Enc α3] {α4 : Type} [A4 : Enc α4] (N : Nat) (mk : Value → Value → Value → Value → Value → Value) (x0 : List α0) (x1 : List α1) (x2 : List α2) (x3 : List α3) (x4 : List α4) : Go.Rel := Go.Rel.own N (fun v => ∃ (a0 : Option Addr) (m0 c0 : Nat) (a1 : Option Addr) (m1 c1 : Nat) (a2 : Option Addr) (m2 c2 : Nat) (a3 : Option Addr) (m3 c3 : Nat) (a4 : Option Addr) (m4 c4 : Nat), v = mk (.slice a0 m0 c0) (.slice a1 m1 c1) (.slice a2 m2 c2) (.slice a3 m3 c3) (.slice a4 m4 c4)) (G5 mk x0 x1 x2 x3 x4) ⟨_, .none, 0, 0, .none, 0, 0, .none, 0, 0, .none, 0, 0, .none, 0, 0, rfl⟩ (fun S w w' v => G5_keep mk x0 x1 x2 x3 x4 S w w' v)
theorem Rel.g5_of {α0 : Type} [A0 : Enc α0] {α1 : Type} [A1 : Enc α1] {α2 : Type} [A2 : Enc α2] {α3 : Type} [A3 : Enc α3] {α4 : Type} [A4 : Enc α4] {N : Nat} {mk : Value → Value → Value → Value → Value → Value} {x0 : List α0} {x1 : List α1} {x2 : List α2} {x3 : List α3} {x4 : List α4} {w w' : World} {u0 u1 u2 u3 u4 : Value} {S0 S1 S2 S3 S4 : Nat → Prop} (hN : N ≤ w.heap.size) (o0 : ownL S0 w' u0 x0) (o1 : ownL S1 w' u1 x1) (o2 : ownL S2 w' u2 x2) (o3 : ownL S3 w' u3 x3) (o4 : ownL S4 w' u4 x4) (r0 : ∀ k, S0 k → Rg w.heap.size w'.heap.size k) (r1 : ∀ k, S1 k → Rg w.heap.size w'.heap.size k) (r2 : ∀ k, S2 k → Rg w.heap.size w'.heap.size k) (r3 : ∀ k, S3 k → Rg w.heap.size w'.heap.size k) (r4 : ∀ k, S4 k → Rg w.heap.size w'.heap.size k) (d01 : ∀ k, S0 k → ¬ S1 k) (d02 : ∀ k, S0 k → ¬ S2 k) (d03 : ∀ k, S0 k → ¬ S3 k) (d04 : ∀ k, S0 k → ¬ S4 k) (d12 : ∀ k, S1 k → ¬ S2 k) (d13 : ∀ k, S1 k → ¬ S3 k) (d14 : ∀ k, S1 k → ¬ S4 k) (d23 : ∀ k, S2 k → ¬ S3 k) (d24 : ∀ k, S2 k → ¬ S4 k) (d34 : ∀ k, S3 k → ¬ S4 k) : (Rel.g5 N mk x0 x1 x2 x3 x4).sh (mk u0 u1 u2 u3 u4) w.heap.size w'.heap.size ∧ (Rel.g5 N mk x0 x1 x2 x3 x4).r (mk u0 u1 u2 u3 u4) w.heap.size w'.heap.size w' := by
  obtain ⟨a0, m0, c0, rfl⟩ := ownL_shape o0
  obtain ⟨a1, m1, c1, rfl⟩ := ownL_shape o1
  obtain ⟨a2, m2, c2, rfl⟩ := ownL_shape o2
  obtain ⟨a3, m3, c3, rfl⟩ := ownL_shape o3
  obtain ⟨a4, m4, c4, rfl⟩ := ownL_shape o4
  refine ⟨⟨a0, m0, c0, a1, m1, c1, a2, m2, c2, a3, m3, c3, a4, m4, c4, rfl⟩, hN, fun k => S0 k ∨ S1 k ∨ S2 k ∨ S3 k ∨ S4 k, ?_, _, _, _, _, _, S0, S1, S2, S3, S4, rfl, o0, o1, o2, o3, o4, fun k h => .inl h, fun k h => .inr (.inl h), fun k h => .inr (.inr (.inl h)), fun k h => .inr (.inr (.inr (.inl h))), fun k h => .inr (.inr (.inr (.inr (h)))), d01, d02, d03, d04, d12, d13, d14, d23, d24, d34⟩
  intro k h
  rcases h with h | h | h | h | h
  · exact r0 k h
  · exact r1 k h
  · exact r2 k h
  · exact r3 k h
  · exact r4 k h
theorem boxset5 {w : World} {lo : Nat} {cs0 : List Value} (hn : cs0.length = 5) (h : BoxF w lo cs0) (a b c d e : Value) : BoxF (((((w.setCell ⟨lo, 0, none⟩ a).setCell ⟨lo, 1, none⟩ b).setCell ⟨lo, 2, none⟩ c).setCell ⟨lo, 3, none⟩ d).setCell ⟨lo, 4, none⟩ e) lo [a, b, c, d, e] ∧ ChgS (fun b => b = lo) w (((((w.setCell ⟨lo, 0, none⟩ a).setCell ⟨lo, 1, none⟩ b).setCell ⟨lo, 2, none⟩ c).setCell ⟨lo, 3, none⟩ d).setCell ⟨lo, 4, none⟩ e) ∧ (((((w.setCell ⟨lo, 0, none⟩ a).setCell ⟨lo, 1, none⟩ b).setCell ⟨lo, 2, none⟩ c).setCell ⟨lo, 3, none⟩ d).setCell ⟨lo, 4, none⟩ e).heap.size = w.heap.size := by
  match cs0, hn with
  | [x, y, z, s, t], _ => exact ⟨((((h.set 0 (by simp) a).set 1 (by simp) b).set 2 (by simp) c).set 3 (by simp) d).set 4 (by simp) e, (((((ChgS.refl (fun k => k = lo) w).set _ _ rfl).set _ _ rfl).set _ _ rfl).set _ _ rfl).set _ _ rfl, by simp [World.setCell]⟩
theorem box_any5 {w : World} {lo : Nat} {cs0 : List Value} (hn : cs0.length = 5) (h : BoxF w lo cs0) : ∃ a b c d e, w.cell? ⟨lo, 0, none⟩ = some a ∧ w.cell? ⟨lo, 1, none⟩ = some b ∧ w.cell? ⟨lo, 2, none⟩ = some c ∧ w.cell? ⟨lo, 3, none⟩ = some d ∧ w.cell? ⟨lo, 4, none⟩ = some e ∧ w.frozen? ⟨lo, 0, none⟩ = false ∧ w.frozen? ⟨lo, 1, none⟩ = false ∧ w.frozen? ⟨lo, 2, none⟩ = false ∧ w.frozen? ⟨lo, 3, none⟩ = false ∧ w.frozen? ⟨lo, 4, none⟩ = false := by
  match cs0, hn with
  | [x, y, z, s, t], _ => exact ⟨x, y, z, s, t, h.1.2 0 (by simp), h.1.2 1 (by simp), h.1.2 2 (by simp), h.1.2 3 (by simp), h.1.2 4 (by simp), h.2 0 (by simp), h.2 1 (by simp), h.2 2 (by simp), h.2 3 (by simp), h.2 4 (by simp)⟩
end Go.Own
namespace Go
open Go.RowKit Go.Own
theorem run_copy_at {α : Type} [A : FlatEnc α] {P : Program} {o : Oper} {a : Act} {w : World} (s x : Operand) (t : TypeId) (ho : o.op = Op.call { callee := Callee.builtin Builtin.append, args := #[s, x], argTypes := #[t, t] })
    (i : TypeInfo) (z : Value) (size bytes : Nat) (ht : P.underlying t = some (.slice A.ty)) (hi : P.info? A.ty = some i) (hz : i.zero = some z) (hsize : i.size = size) (hby : i.bytes = bytes) (hzs : z.cells.size = size) (hsz : 0 < size) (hAs : A.sz = size)
    (u : Value) (ys : List α) (hs : a.eval s = .slice none 0 0) (hx : a.eval x = u) (hu : rdsL w u ys) (hm : 0 < ys.length) (h1 : ∀ c ∈ ys.flatMap A.enc, c.oneCell' = true)
    (h63 : ys.length ≤ maxLen) (hbytes : ys.length * bytes ≤ 140737488355328) :
    ∃ (a9 : Option Addr) (n9 c9 : Nat) (w' : World), (execOp a.eval o).run P w = .ok (.value (.slice a9 n9 c9)) w' ∧ Below w.heap.size w w' ∧ ownL (Rg w.heap.size w'.heap.size) w' (.slice a9 n9 c9) ys := by
  subst hAs
  have hu2 := rds_flat.1 hu
  rcases hu2.src with ⟨-, e2, e3⟩ | ⟨ad, cap, rfl, hl, hc⟩
  · omega
  obtain ⟨v', w', hrun, r1, r2, _⟩ := run_append_own (P := P) (w := w) w.heap.size t o.type A.ty i z A.sz bytes ht hi hz hsize hby hzs hsz (.slice none 0 0) 0 [] (World.ownsRow_nil w _ _ _) ad ys.length cap _ hl hc h1 (by omega) (by rw [Nat.zero_add]; exact hbytes) (Nat.le_refl _)
  have r3 : w'.ownsRow w.heap.size A.ty A.sz v' ys.length (ys.flatMap A.enc) := by simpa using r1
  obtain ⟨a9, n9, c9, rfl⟩ := owns_form3 r1
  refine ⟨a9, n9, c9, w', ?_, (Below.refl _ _).grown r2 (Nat.le_refl _) (by simp [Value.ownBlock]), own_flat.2 ⟨owns_base r3 (fun _ _ => Nat.zero_le _), fun k hk => owns_in r3 k hk⟩⟩
  simp [execOp, ho, resolve, invoke, builtin, hs, hx, hrun, Result.andThen]
section
variable {P : Program} {ops : Array Oper} {W : World} {C : World → Prop} {Sh : Nat → Value → Nat → Nat → Prop} {R : Nat → Value → Nat → Nat → World → Prop} {S : Nat → Prop} {dep : Nat → List Nat} {kd : Nat → Kd} {Q : Act → Made → Prop} {o : Oper} {rest : List Oper} {i : Nat} {a : Act} {m : Made}
/-- A list copied: appended to nil. -/
theorem wpR_copy {α : Type} [A : FlatEnc α] (cl : Cls W C) (s x : Operand) (t : TypeId) (ho : o.op = Op.call { callee := Callee.builtin Builtin.append, args := #[s, x], argTypes := #[t, t] })
    (i0 : TypeInfo) (z : Value) (size bytes : Nat) (ht : P.underlying t = some (.slice A.ty)) (hi : P.info? A.ty = some i0) (hz : i0.zero = some z) (hsize : i0.size = size) (hby : i0.bytes = bytes) (hzs : z.cells.size = size) (hsz : 0 < size) (hAs : A.sz = size)
    (u : Value) (ys : List α) (hs : a.eval s = .slice none 0 0) (hx : a.eval x = u) (hu : ∀ w, C w → rdsL w u ys) (hm : 0 < ys.length) (h1 : ∀ c ∈ ys.flatMap A.enc, c.oneCell' = true)
    (h63 : ys.length ≤ maxLen) (hbytes : ys.length * bytes ≤ 140737488355328)
    (hw : Region.wanted o (yielded ops a.tmps) = true) (hk : kd i = .make) (hsh : Sh i = (Rel.g1 W.heap.size (fun u => u) ys).sh) (hrr : R i = (Rel.g1 W.heap.size (fun u => u) ys).r)
    (h2 : ∀ a9 n9 c9 lo hh, wpAll P ops C Sh R S W dep kd Q rest (i + 1) (a.put o.dst (.slice a9 n9 c9)) (m.upd i (.slice a9 n9 c9, lo, hh))) : wpAll P ops C Sh R S W dep kd Q (o :: rest) i a m := by
  refine wpR_make cl hw hk (fun w hC hd => ?_) (fun v lo hh hs9 => ?_)
  · obtain ⟨a9, n9, c9, w', h3, h4, h5⟩ := run_copy_at (P := P) (o := o) (a := a) (w := w) s x t ho i0 z size bytes ht hi hz hsize hby hzs hsz hAs u ys hs hx (hu _ hC) hm h1 h63 hbytes
    rw [h3]
    have z9 := Rel.g1_of (mk := fun u => u) (cl.size w hC) h5 (fun k h => h)
    exact ⟨h4, by rw [hsh]; exact z9.1, by rw [hrr]; exact z9.2⟩
  · rw [hsh] at hs9
    obtain ⟨a9, n9, c9, rfl⟩ := hs9
    exact h2 a9 n9 c9 lo hh
end
end Go
