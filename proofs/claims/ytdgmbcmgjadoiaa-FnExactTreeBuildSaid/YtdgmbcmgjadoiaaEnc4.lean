/- Appends to lists of whatever data; what a datum's cells come to lie in; shapes. Of any program. -/
import Derived.Test.YtdgmbcmgjadoiaaEnc2
import Derived.Test.YtdgmbcmgjadoiaaSl2
namespace Go.Own
open Go.RowKit
section
variable {P : Program}
/-- Where an append's row lies: where it lay, or in a block of its own. -/
theorem append_place {w : World} (base : Nat) (t ty e : TypeId) (i : TypeInfo) (z : Value) (size bytes : Nat) (ht : P.underlying t = some (.slice e)) (hi : P.info? e = some i) (hz : i.zero = some z)
    (hsize : i.size = size) (hby : i.bytes = bytes)
    (v : Value) (n : Nat) (xs : List Value) (hown : w.ownsRow base e size v n xs)
    (a : Addr) (m c : Nat) (news : List Value) (hl : news.length = m * size) (hnews : ∀ j u, news[j]? = some u → w.cell? (a.add j) = some u) (h1 : ∀ u ∈ news, u.oneCell' = true)
    (h63 : n + m ≤ maxLen) (hbytes : (n + m) * bytes ≤ 140737488355328) (hm : 0 < m) {v' : Value} {w' : World}
    (hr : (Builtin.append_ #[t, t] ty #[v, .slice (some a) m c]).run P w = .ok v' w') : ∀ k, v'.ownBlock = some k → v.ownBlock = some k ∨ k = w.heap.size := by
  subst hsize
  subst hby
  have hsmall : n + m ≤ 9223372036854775807 := by simp only [maxLen] at h63; omega
  rcases hown.2 with ⟨rfl, rfl⟩ | ⟨g, cap, cur, rfl, hbg, hg, hnc, hcm, hcs, htake⟩
  · have h := run_append_nil (P := P) w t ty e i z ht hi hz a m c news hl hnews (by omega) (by omega) (by have hb := hbytes; simp only [Nat.zero_add] at hb; omega)
    rw [h] at hr
    obtain ⟨rfl, -⟩ := Result.ok.inj hr
    intro k hk
    exact .inr (Option.some.inj hk).symm
  · by_cases hroom : n + m ≤ cap
    · have hfit : n * i.size + news.length ≤ cur.size := by rw [hl, hcs, ← Nat.add_mul]; exact Nat.mul_le_mul_right _ hroom
      have h := run_append_room (P := P) w t ty e i ht hi g n cap cur hg a m c news hl hnews h1 hroom hfit
      rw [h] at hr
      obtain ⟨rfl, -⟩ := Result.ok.inj hr
      intro k hk
      exact .inl hk
    · have holds : ∀ j u, xs[j]? = some u → w.cell? ((⟨g, 0, none⟩ : Addr).add j) = some u := hown.cells (g := g) rfl
      have h := run_append_grow (P := P) w t ty e i z ht hi hz ⟨g, 0, none⟩ n cap xs hown.1 holds a m c news hl hnews (by omega) (by omega) (growslice_fits (by omega) hbytes)
      rw [h] at hr
      obtain ⟨rfl, -⟩ := Result.ok.inj hr
      intro k hk
      exact .inr (Option.some.inj hk).symm
theorem wpList_append_at {w : World} {ops : Array Oper} {rest : List Oper} {o : Oper} {a : Act} {Q : Exit → Act → World → Prop} (hgd : o.guard = none) (s x : Operand) (t : TypeId)
    (ho : o.op = .call { callee := .builtin .append, args := #[s, x], argTypes := #[t, t] })
    (base : Nat) (e : TypeId) (i : TypeInfo) (z : Value) (size bytes : Nat) (ht : P.underlying t = some (.slice e)) (hi : P.info? e = some i) (hz : i.zero = some z)
    (hsize : i.size = size) (hby : i.bytes = bytes) (hzs : z.cells.size = size) (hsz : 0 < size)
    (v : Value) (n : Nat) (xs : List Value) (hs : a.eval s = v) (hown : w.ownsRow base e size v n xs)
    (u : Value) (m : Nat) (news : List Value) (hx : a.eval x = u) (hu : Flat w u m size news) (hm : 0 < m) (h1 : ∀ c ∈ news, c.oneCell' = true)
    (h63 : n + m ≤ maxLen) (hbytes : (n + m) * bytes ≤ 140737488355328) (hbase : base ≤ w.heap.size)
    (h : ∀ v' w', w'.ownsRow base e size v' (n + m) (xs ++ news) → w.grownBy w' v.ownBlock → (∀ k, v'.ownBlock = some k → v.ownBlock = some k ∨ k = w.heap.size) → wpList P ops Q rest (a.put o.dst v') w') : wpList P ops Q (o :: rest) a w := by
  rcases hu.src with ⟨rfl, rfl, rfl⟩ | ⟨ad, cap, rfl, hl, hc⟩
  · omega
  · obtain ⟨v', w', hrun, r1, r2, _⟩ := run_append_own (P := P) (w := w) base t o.type e i z size bytes ht hi hz hsize hby hzs hsz v n xs hown ad m cap news hl hc h1 h63 hbytes hbase
    have hp := append_place (P := P) base t o.type e i z size bytes ht hi hz hsize hby v n xs hown ad m cap news hl hc h1 h63 hbytes hm hrun
    refine wpList_plain hgd fun K hK => ?_
    unfold Oper.wp
    simp [execOp, ho, resolve, invoke, builtin, hs, hx, hrun, Result.andThen]
    exact hK _ _ (h v' w' r1 r2 hp)
end
/-- A list that is of the call's own, at an append of one element. -/
theorem ownL_snoc {α : Type} [A : Enc α] {S : Nat → Prop} {w : World} {v : Value} {xs : List α} (h : ownL S w v xs) : ∃ css : List (List Value), w.ownsRow 0 A.ty A.sz v xs.length css.flatten ∧ (∀ k, Blk v k → S k) ∧
    ∀ (w' : World) (v' : Value) (c : List Value) (x : α) (T : Nat → Prop), w'.ownsRow 0 A.ty A.sz v' (xs.length + 1) (css.flatten ++ c) → (∀ k, Blk v' k → Blk v k ∨ ¬ S k) → (∀ k, S k → ¬ Blk v k → w'.heap[k]? = w.heap[k]?) → A.own T w' c x → (∀ k, T k → ¬ S k ∧ ¬ Blk v' k) →
      ownL (fun k => S k ∨ T k ∨ Blk v' k) w' v' (xs ++ [x]) := by
  obtain ⟨v0, css, R, e, h1, h2, h3, h4, h5, h6⟩ := h
  obtain rfl : v = v0 := by simpa using e
  refine ⟨css, h2, h3, fun w' v' c x T r1 r2 r3 r4 r5 => ?_⟩
  refine ⟨v', css ++ [c], fun i k => (i < xs.length ∧ R i k) ∨ (i = xs.length ∧ T k), rfl, by simp [h1], ?_, fun k hk => .inr (.inr hk), ?_, ?_, ?_⟩
  · rw [List.flatten_append, List.length_append]; simpa using r1
  · rintro i k (⟨hi, hk⟩ | ⟨hi, hk⟩)
    · obtain ⟨a1, a2⟩ := h4 i k hk
      exact ⟨.inl a1, fun hb => (r2 k hb).elim a2 fun hn => hn a1⟩
    · exact ⟨.inr (.inl hk), (r5 k hk).2⟩
  · rintro i j k hne (⟨hi, hk⟩ | ⟨hi, hk⟩) (⟨hj, hk2⟩ | ⟨hj, hk2⟩)
    · exact h5 i j k hne hk hk2
    · exact (r5 k hk2).1 (h4 i k hk).1
    · exact (r5 k hk).1 (h4 j k hk2).1
    · omega
  · intro i hi hi2
    by_cases hlt : i < xs.length
    · rw [List.getElem_append_left (by omega), List.getElem_append_left hlt]
      refine A.own_mono (A.own_keep (h6 i (by omega) hlt) fun k hk => r3 k (h4 i k hk).1 (h4 i k hk).2) fun k hk => .inl ⟨hlt, hk⟩
    · have e1 : i = xs.length := by simp at hi2; omega
      subst e1
      rw [List.getElem_append_right (by omega), List.getElem_append_right (by omega)]
      simp only [h1, Nat.sub_self, List.getElem_cons_zero]
      exact A.own_mono r4 fun k hk => by simp [hk]
/-- No element, no block. -/
theorem ownL_nil {α : Type} [A : Enc α] (S : Nat → Prop) (w : World) : ownL (α := α) S w (.slice none 0 0) [] :=
  ⟨_, [], fun _ _ => False, rfl, rfl, World.ownsRow_nil w 0 A.ty A.sz, fun k hk => by simp [Blk, Value.ownBlock] at hk, fun _ _ h => h.elim, fun _ _ _ _ h => h.elim, fun i hi => by simp at hi⟩
theorem ownL_shape {α : Type} [A : Enc α] {S : Nat → Prop} {w : World} {v : Value} {xs : List α} (h : ownL S w v xs) : ∃ a m c, v = .slice a m c := by
  obtain ⟨a, c, e, _⟩ := ownL_len h; exact ⟨a, _, c, e⟩
theorem rdsL_shape {α : Type} [A : Enc α] {w : World} {v : Value} {xs : List α} (h : rdsL w v xs) : ∃ a m c, v = .slice a m c := by
  obtain ⟨a, c, e, _⟩ := rdsL_open h; exact ⟨a, _, c, e⟩
theorem cell_chg {w w' : World} {S : Nat → Prop} {b o : Nat} (C : ChgS S w w') (hb : b < w.heap.size) (hn : ¬ S b) : w'.cell? ⟨b, o, none⟩ = w.cell? ⟨b, o, none⟩ := by
  have := C.block b hb hn
  simp [World.cell?, this]
theorem Box.chg {w w' : World} {S : Nat → Prop} {b : Nat} {cs : List Value} (h : Box w b cs) (C : ChgS S w w') (hn : ¬ S b) : Box w' b cs :=
  ⟨Nat.lt_of_lt_of_le h.1 C.size, fun j hj => (cell_chg C h.1 hn).trans (h.2 j hj)⟩
end Go.Own
