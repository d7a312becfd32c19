/- An append of one datum to a list of the call's own that lies in a box: what there is then. Of any program. -/
import Derived.Test.YtdgmbcmgjadoiaaEnc4
namespace Go.Own
open Go.RowKit
set_option linter.unusedVariables false
theorem cell_same {w w' : World} {b o : Nat} (h : w'.heap[b]? = w.heap[b]?) : w'.cell? ⟨b, o, none⟩ = w.cell? ⟨b, o, none⟩ := by simp [World.cell?, h]
theorem frozen_same {w w' : World} {b o : Nat} (h : w'.heap[b]? = w.heap[b]?) : w'.frozen? ⟨b, o, none⟩ = w.frozen? ⟨b, o, none⟩ := by simp [World.frozen?, h]
theorem BoxF.same {w w' : World} {b : Nat} {cs : List Value} (h : BoxF w b cs) (e : w'.heap[b]? = w.heap[b]?) (hs : w.heap.size ≤ w'.heap.size) : BoxF w' b cs :=
  ⟨⟨Nat.lt_of_lt_of_le h.1.1 hs, fun j hj => (cell_same e).trans (h.1.2 j hj)⟩, fun j hj => (frozen_same e).trans (h.2 j hj)⟩
theorem BoxF.chg {w w' : World} {S : Nat → Prop} {b : Nat} {cs : List Value} (h : BoxF w b cs) (C : ChgS S w w') (hn : ¬ S b) : BoxF w' b cs := h.same (C.block b h.1.1 hn) C.size
theorem ChgS.set {S : Nat → Prop} {w w' : World} (h : ChgS S w w') (p : Addr) (v : Value) (hp : S p.block) : ChgS S w (w'.setCell p v) :=
  ⟨h.os, h.tape, h.output, by simpa [World.setCell] using h.size, fun k hk hs => (heap_setCell_other _ _ k _ (fun e => hs (by rw [e]; exact hp))).trans (h.block k hk hs)⟩
theorem ChgS.alloc {S : Nat → Prop} {w w' : World} (h : ChgS S w w') (o : Obj) : ChgS S w (w'.alloc o) := h.trans (ChgS.of_below ((Below.refl _ _).alloc (Nat.le_refl _) _) S)
theorem ownL.chg {α : Type} [A : Enc α] {S T : Nat → Prop} {w w' : World} {v : Value} {xs : List α} (h : ownL S w v xs) (C : ChgS T w w') (hs : ∀ b, S b → b < w.heap.size ∧ ¬ T b) : ownL S w' v xs := h.keep fun b hb => C.block b (hs b hb).1 (hs b hb).2
section
variable {P : Program}
/-- As step_append_flat, with the place of the row. -/
theorem step_append_at {ops : Array Oper} {o : Oper} {a : Act} {w : World} {K : Act → World → Prop} {Q : Exit → Act → World → Prop} {E : Prop}
    (hg : o.guard = none) (s x : Operand) (t : TypeId) (hop : o.op = Op.call { callee := Callee.builtin Builtin.append, args := #[s, x], argTypes := #[t, t] })
    (base : Nat) (e : TypeId) (i : TypeInfo) (z : Value) (size bytes : Nat) (ht : P.underlying t = some (.slice e)) (hi : P.info? e = some i) (hz : i.zero = some z)
    (hsize : i.size = size) (hby : i.bytes = bytes) (hzs : z.cells.size = size) (hsz : 0 < size)
    (v : Value) (n : Nat) (xs : List Value) (hs : a.eval s = v) (hown : w.ownsRow base e size v n xs)
    (u : Value) (m : Nat) (news : List Value) (hx : a.eval x = u) (hu : Flat w u m size news) (hm : 0 < m) (h1 : ∀ c ∈ news, c.oneCell' = true)
    (h63 : n + m ≤ maxLen) (hbytes : (n + m) * bytes ≤ 140737488355328) (hbase : base ≤ w.heap.size)
    (hK : ∀ v' w', w'.ownsRow base e size v' (n + m) (xs ++ news) → w.grownBy w' v.ownBlock → (∀ k, v'.ownBlock = some k → v.ownBlock = some k ∨ k = w.heap.size) → K (a.put o.dst v') w') :
    if Region.wanted o (yielded ops a.tmps) = true then Oper.wp P o a w K Q else E := by
  have hw : Region.wanted o (yielded ops a.tmps) = true := by simp [Region.wanted, hg]
  rw [if_pos hw]
  rcases hu.src with ⟨rfl, rfl, rfl⟩ | ⟨ad, cap, rfl, hl, hc⟩
  · omega
  · obtain ⟨v', w', hrun, r1, r2, _⟩ := run_append_own (P := P) (w := w) base t o.type e i z size bytes ht hi hz hsize hby hzs hsz v n xs hown ad m cap news hl hc h1 h63 hbytes hbase
    have hp := append_place (P := P) base t o.type e i z size bytes ht hi hz hsize hby v n xs hown ad m cap news hl hc h1 h63 hbytes hm hrun
    unfold Oper.wp
    simp [execOp, hop, resolve, invoke, builtin, hs, hx, hrun, Result.andThen]
    exact hK v' w' r1 r2 hp
end
/-- A list of the call's own lies in cell j of a box (block M); a datum is made; its cells are laid as a literal; the list is appended to, and laid in its cell. -/
theorem append_box {α : Type} [A : Enc α] {S T5 : Nat → Prop} {V w5 : World} {M j dm : Nat} {da : Option Addr} {dc : Nat} {bs : List Value} {xs : List α} {x : α} {c : List Value}
    (OD : ownL S V (.slice da dm dc) xs) (hS : ∀ b, S b → b < V.heap.size ∧ b ≠ M) (hM : BoxF V M bs) (hj : j < bs.length) (b5 : Below V.heap.size V w5) (o5 : A.own T5 w5 c x) (hT : ∀ b, T5 b → V.heap.size ≤ b ∧ b < w5.heap.size) :
    dm = xs.length ∧ ∃ css : List (List Value), (w5.alloc (.cells c.toArray A.ty)).ownsRow 0 A.ty A.sz (.slice da dm dc) dm css.flatten ∧ Flat (w5.alloc (.cells c.toArray A.ty)) (.slice (some ⟨w5.heap.size, 0, none⟩) 1 1) 1 A.sz c ∧
    ∀ v8 w8, w8.ownsRow 0 A.ty A.sz v8 (dm + 1) (css.flatten ++ c) → (w5.alloc (.cells c.toArray A.ty)).grownBy w8 (Value.slice da dm dc).ownBlock → (∀ k, v8.ownBlock = some k → (Value.slice da dm dc).ownBlock = some k ∨ k = (w5.alloc (.cells c.toArray A.ty)).heap.size) →
    ∃ ya yc, v8 = .slice ya (dm + 1) yc ∧ BoxF w8 M bs ∧ BoxF (w8.setCell ⟨M, j, none⟩ v8) M (bs.set j v8) ∧ ownL (fun b => S b ∨ (V.heap.size ≤ b ∧ b < w8.heap.size)) (w8.setCell ⟨M, j, none⟩ v8) v8 (xs ++ [x]) ∧ ChgS (fun b => b = M ∨ S b) V (w8.setCell ⟨M, j, none⟩ v8) ∧ ChgS S V w8 ∧ (w8.setCell ⟨M, j, none⟩ v8).heap.size = w8.heap.size ∧ V.heap.size + 1 ≤ w8.heap.size := by
  have hlen : dm = xs.length := by
    obtain ⟨a, cap, e, _, _⟩ := ownL_len OD
    have h9 := congrArg (fun v => match v with | Value.slice _ n _ => n | _ => 0) e
    simpa using h9
  refine ⟨hlen, ?_⟩
  have hs5 := b5.size
  obtain ⟨L5, hL5⟩ : ∃ X, w5.alloc (.cells c.toArray A.ty) = X := ⟨_, rfl⟩
  have b5L : Below w5.heap.size w5 L5 := by rw [← hL5]; exact (Below.refl _ _).alloc (Nat.le_refl _) _
  have hsL : L5.heap.size = w5.heap.size + 1 := by rw [← hL5]; simp
  have bVL : Below V.heap.size V L5 := b5.trans (b5L.mono hs5)
  obtain ⟨css, hown, hblk, hsn⟩ := ownL_snoc (OD.keep fun b hb => bVL.block b (hS b hb).1)
  have hcl : c.length = A.sz := A.rds_len (A.own_rds o5)
  rw [hL5]
  rw [← hlen] at hown hsn
  refine ⟨css, hown, ?_, fun v8 w8 o8 g8 p8 => ?_⟩
  · rw [← hL5]
    have := Flat.of_owns (owns_litN w5 A.ty A.sz 1 c.toArray 0 (Nat.zero_le _) (by simpa using hcl) (by decide))
    simpa using this
  obtain ⟨ya, yc, rfl, _, _⟩ := owns_form o8
  have hs8 := g8.size
  have cV8 : ChgS S V w8 := (ChgS.of_below bVL S).trans (ChgS.of_grown g8 fun b e => hblk b e)
  have BM8 : BoxF w8 M bs := hM.chg cV8 fun h => (hS M h).2 rfl
  have OT8 : A.own T5 w8 c x := A.own_keep o5 fun b hb => by
    have h1 := hT b hb
    rw [g8.block b (by omega) (fun e => by have := (hS b (hblk b e.symm)).1; omega), b5L.block b h1.2]
  have P8 : ∀ b, Blk (Value.slice ya (dm + 1) yc) b → S b ∨ b = w5.heap.size + 1 := fun b hb => (p8 b hb).imp (hblk b) (fun e => by omega)
  have O8 := hsn w8 (Value.slice ya (dm + 1) yc) c x T5 o8 (fun b hb => (p8 b hb).imp id fun e h => by have := (hS b h).1; omega) (fun b hb hn => g8.block b (by have := (hS b hb).1; omega) (fun e => hn e.symm)) OT8
    (fun b hb => ⟨fun h => by have := (hS b h).1; have := (hT b hb).1; omega, fun h => (P8 b h).elim (fun h9 => by have := (hS b h9).1; have := (hT b hb).1; omega) (fun h9 => by have := (hT b hb).2; omega)⟩)
  have hMV := hM.1.1
  have Lo : ∀ b, (S b ∨ T5 b ∨ Blk (Value.slice ya (dm + 1) yc) b) → b ≠ M ∧ (S b ∨ (V.heap.size ≤ b ∧ b < w8.heap.size)) := fun b hb => by
    rcases hb with h | h | h
    · exact ⟨(hS b h).2, .inl h⟩
    · have h1 := hT b h
      exact ⟨by omega, .inr ⟨h1.1, by omega⟩⟩
    · have hlt := (owns_in o8 b h).2
      rcases P8 b h with h9 | h9
      · exact ⟨(hS b h9).2, .inl h9⟩
      · exact ⟨by omega, .inr ⟨by omega, hlt⟩⟩
  refine ⟨ya, yc, rfl, BM8, BM8.set j hj _, (O8.keep fun b hb => heap_setCell_other _ _ b _ (Lo b hb).1).mono fun b hb => (Lo b hb).2, ?_, cV8, by simp [World.setCell], by omega⟩
  exact (cV8.mono fun b hb => .inr hb).set _ _ (.inl rfl)
end Go.Own
