/- Cuts of slices, and an append within the room as one step of a region that draws: of any program. -/
import Derived.Test.YtdgmbcmgjadoiaaBase
import Derived.Deep.RegionLaw
namespace Go.Own
open Go.RowKit

/-- 's[i:]': a value whose elements are those from i on. -/
theorem slice_from {P : Program} {t e : TypeId} {ti : TypeInfo} {sz : Nat} (ht : P.underlying t = some (.slice e)) (hi : P.info? e = some ti) (hs : ti.size = sz) {N : Nat} {w : World} {v : Value} {n : Nat} {cs : List Value} (h : FlatB N w v n sz cs) (i : Nat) (hin : i ≤ n) :
    ∃ v', (∀ w', (Instr.slice t v (some (.int .i64 (i : Int))) none none).run P w' = .ok v' w') ∧ FlatB N w v' (n - i) sz (cs.drop (i * sz)) := by
  obtain ⟨hl, a, cap, rfl, h1, h2, h0, h3⟩ := h
  refine ⟨.slice (if cap = i then a else a.map (·.add (i * sz))) (n - i) (cap - i), fun w' => ?_, ?_, _, cap - i, rfl, by omega, by omega, fun hn => ?_, ?_⟩
  · have e1 : (0 : Int) ≤ (i : Int) := by omega
    have e2 : (i : Int) ≤ (n : Int) := by omega
    simp [Instr.slice, run_underlying ht, Instr.sliceBounds, Instr.sliceBound, asIntOf, sizeOf, typeInfo, hi, hs]
    intro h; omega
  · rw [List.length_drop, hl, Nat.sub_mul]
  · by_cases e : cap = i
    · omega
    · rw [if_neg e] at hn
      cases a with
      | none => have := h0 rfl; omega
      | some ad => cases hn
  · by_cases hz : n - i = 0
    · exact .inl hz
    · rcases h3 with h3 | ⟨b, off, rfl, hs', hc⟩
      · omega
      · refine .inr ⟨b, off + i * sz, ?_, hs', fun j hj => ?_⟩
        · rw [if_neg (by omega)]
          simp [Addr.add_lit]
        · rw [List.length_drop] at hj
          rw [show off + i * sz + j = off + (i * sz + j) from by omega, hc (i * sz + j) (by omega)]
          simp

theorem drop_flatMap {α : Type} (f : α → List Value) (sz : Nat) (hsz : ∀ x, (f x).length = sz) : ∀ (xs : List α) (i : Nat), (xs.flatMap f).drop (i * sz) = (xs.drop i).flatMap f
  | [], i => by simp
  | x :: xs, 0 => by simp
  | x :: xs, i+1 => by
    have e : (i + 1) * sz = sz + i * sz := by rw [Nat.add_mul]; omega
    have e2 : (f x ++ xs.flatMap f).drop sz = xs.flatMap f := by rw [← hsz x]; exact List.drop_left
    rw [List.flatMap_cons, e, ← List.drop_drop, e2, List.drop_succ_cons]
    exact drop_flatMap f sz hsz xs i

/-- An append within the room of a row that the call made, as one step of a region that draws. -/
theorem step_append_fits {P : Program} {ops : Array Oper} {o : Oper} {a : Act} {w : World} {K : Act → World → Prop} {Q : Exit → Act → World → Prop} {E : Prop}
    (hg : o.guard = none) (s x : Operand) (t : TypeId) (hop : o.op = Op.call { callee := Callee.builtin Builtin.append, args := #[s, x], argTypes := #[t, t] })
    (base : Nat) (e : TypeId) (i : TypeInfo) (size : Nat) (h1 : P.underlying t = some (.slice e)) (h2 : P.info? e = some i) (h4 : i.size = size)
    (g k cap : Nat) (xs : List Value) (hs : a.eval s = .slice (some ⟨g, 0, none⟩) k cap) (hown : w.ownsRow base e size (.slice (some ⟨g, 0, none⟩) k cap) k xs) (ad : Addr) (m c : Nat) (news : List Value) (hx : a.eval x = .slice (some ad) m c) (hn : news.length = m * size)
    (hc : ∀ j u, news[j]? = some u → w.cell? (ad.add j) = some u) (h1c : ∀ u ∈ news, u.oneCell' = true) (b1 : k + m ≤ cap)
    (hK : ∀ w', w'.ownsRow base e size (.slice (some ⟨g, 0, none⟩) (k + m) cap) (k + m) (xs ++ news) → w.grownBy w' (some g) → K (a.put o.dst (.slice (some ⟨g, 0, none⟩) (k + m) cap)) w') :
    if Region.wanted o (yielded ops a.tmps) = true then Oper.wp P o a w K Q else E := by
  have hw : Region.wanted o (yielded ops a.tmps) = true := by simp [Region.wanted, hg]
  rw [if_pos hw]
  obtain ⟨w', hrun, r1, r2⟩ := run_append_fits (P := P) w base t o.type e i size h1 h2 h4 g k cap xs hown ad m c news hn hc h1c b1
  unfold Oper.wp
  simp [execOp, hop, resolve, invoke, builtin, hs, hx, hrun, Result.andThen]
  exact hK w' r1 r2
end Go.Own
