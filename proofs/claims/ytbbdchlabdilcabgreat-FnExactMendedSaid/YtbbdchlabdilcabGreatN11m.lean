/- Chapter 11's data in memory: threads in a list, marked. (printed by tools/mk_n11m.py) -/
import Derived.Test.YtbbdchlabdilcabGreatN11
namespace Go.Own
open Go.RowKit
/-- An element of an owned row that is being written: its cells. -/
structure RowAt (w : World) (ty sz g n cap j : Nat) (css : List (List Value)) (cs : List Value) : Prop where
  row : w.ownsRow 0 ty sz (.slice (some ⟨g, 0, none⟩) n cap) n (css.set j cs).flatten
  lens : ∀ c ∈ css, c.length = sz
  len : cs.length = sz
  at_ : j < css.length
theorem RowAt.cell {w : World} {ty sz g n cap j : Nat} {css : List (List Value)} {cs : List Value} (h : RowAt w ty sz g n cap j css cs) (q : Nat) (hq : q < sz) : w.cell? ⟨g, j * sz + q, none⟩ = cs[q]? := by
  have hl := h.row.1
  have hs := set_lens h.lens j cs h.len
  have hfl : (css.set j cs).flatten.length = css.length * sz := by rw [flatten_len sz _ hs, List.length_set]
  have h3 : (j + 1) * sz ≤ css.length * sz := Nat.mul_le_mul_right _ h.at_
  rw [Nat.add_mul] at h3
  rw [h.row.cellAt (j * sz + q) (by omega), flatten_get sz (css.set j cs) hs j (by rw [List.length_set]; exact h.at_) q hq, List.getElem_set_self]
theorem RowAt.frozen {w : World} {ty sz g n cap j : Nat} {css : List (List Value)} {cs : List Value} (h : RowAt w ty sz g n cap j css cs) (q : Nat) : w.frozen? ⟨g, j * sz + q, none⟩ = false := h.row.frozenAt _
theorem RowAt.put {w : World} {ty sz g n cap j : Nat} {css : List (List Value)} {cs : List Value} (h : RowAt w ty sz g n cap j css cs) (q : Nat) (hq : q < sz) (u : Value) : RowAt (w.setCell ⟨g, j * sz + q, none⟩ u) ty sz g n cap j css (cs.set q u) := by
  have hs := set_lens h.lens j cs h.len
  have z := owns_cell h.row hs j q (by rw [List.length_set]; exact h.at_) hq u
  rw [List.getElem_set_self, set_set_same] at z
  exact ⟨z, h.lens, by rw [List.length_set]; exact h.len, h.at_⟩
theorem RowAt.keep {w w' : World} {ty sz g n cap j : Nat} {css : List (List Value)} {cs : List Value} (h : RowAt w ty sz g n cap j css cs) (hk : w'.heap[g]? = w.heap[g]?) : RowAt w' ty sz g n cap j css cs :=
  ⟨owns_same h.row fun b hb => by obtain rfl : g = b := Option.some.inj hb; exact hk, h.lens, h.len, h.at_⟩
theorem RowAt.start {w : World} {ty sz g n cap j : Nat} {css : List (List Value)} {cs : List Value} (hr : w.ownsRow 0 ty sz (.slice (some ⟨g, 0, none⟩) n cap) n css.flatten) (hl : ∀ c ∈ css, c.length = sz) (hj : j < css.length) (he : css[j] = cs) : RowAt w ty sz g n cap j css cs := by
  subst he
  exact ⟨by rw [List.set_getElem_self]; exact hr, hl, hl _ (List.getElem_mem hj), hj⟩
theorem RowAt.lt {w : World} {ty sz g n cap j : Nat} {css : List (List Value)} {cs : List Value} (h : RowAt w ty sz g n cap j css cs) (hn : css.length = n) : g < w.heap.size := by
  have h1 := h.at_
  rcases h.row.2 with ⟨_, e⟩ | _
  · omega
  · exact World.ownsRow.lt h.row _ rfl |>.2
end Go.Own
namespace Go.Proofs.YtbbdchlabdilcabGreat
set_option maxRecDepth 100000
open Go.RowKit Go.Proofs Go.Own
set_option linter.unusedVariables false
set_option linter.unusedSimpArgs false
def cntTh (t : ThreadD) : Nat := 11 + cntInstrS t.prog_ + cntEntryS t.open_ + cntFrameS t.stack_
def kTh1 (t : ThreadD) (k : Int) : Int := k + 1 + cntInstrS t.prog_
def kTh2 (t : ThreadD) (k : Int) : Int := kTh1 t k + 5 + cntEntryS t.open_
def kTh3 (t : ThreadD) (k : Int) : Int := kTh2 t k + 1 + cntFrameS t.stack_
def markTh (t : ThreadD) (k : Int) : ThreadD := ⟨k, markInstrSD t.prog_ (k + 1), kTh1 t k, kTh1 t k + 1, kTh1 t k + 2, kTh1 t k + 3, kTh1 t k + 4, markEntrySD t.open_ (kTh1 t k + 5), kTh2 t k, markFrameSD t.stack_ (kTh2 t k + 1), kTh3 t k, kTh3 t k + 1, kTh3 t k + 2, kTh3 t k + 3⟩
theorem kTh_end (t : ThreadD) (k : Int) : kTh3 t k + 4 = k + cntTh t := by unfold kTh3 kTh2 kTh1 cntTh; omega
def cntThreadS (ts : List ThreadD) : Nat := (ts.map cntTh).sum
theorem cntThs_take (xs : List ThreadD) (i : Nat) (h : i < xs.length) : cntThreadS (xs.take (i+1)) = cntThreadS (xs.take i) + cntTh xs[i] := by
  unfold cntThreadS
  rw [List.take_succ_eq_append_getElem h, List.map_append, List.sum_append]
  simp
theorem cntThs_take_le (xs : List ThreadD) (i : Nat) : cntThreadS (xs.take i) ≤ cntThreadS xs := by
  unfold cntThreadS
  conv => rhs; rw [← List.take_append_drop i xs, List.map_append, List.sum_append]
  omega
theorem cntTh_le (t : ThreadD) : cntTh t ≤ 11 + 5 * szThreadD t := by unfold cntTh szThreadD cntInstrS cntEntryS cntFrameS; omega
theorem cntThs_sum (xs : List ThreadD) : cntThreadS xs ≤ 11 * xs.length + 5 * tSum xs := by
  induction xs with
  | nil => simp [cntThreadS, tSum]
  | cons t ts ih =>
    unfold cntThreadS tSum at ih ⊢
    simp only [List.map_cons, List.sum_cons, List.length_cons]
    have := cntTh_le t
    omega
theorem cntThreadS_le {xs : List ThreadD} (h : ThreadSB xs) : cntThreadS xs ≤ 100000000 := by
  have := cntThs_sum xs
  unfold ThreadSB szThreadSD at h
  omega
def markThreadSD (xs : List ThreadD) (k : Int) : List ThreadD := (List.range xs.length).map fun i => match xs[i]? with | some d => markTh d (k + cntThreadS (xs.take i)) | none => ⟨0, [], 0, 0, 0, 0, 0, [], 0, [], 0, 0, 0, 0⟩
theorem markThs_len (xs : List ThreadD) (k : Int) : (markThreadSD xs k).length = xs.length := by simp [markThreadSD]
theorem markThs_get (xs : List ThreadD) (k : Int) (i : Nat) (h : i < xs.length) : (markThreadSD xs k)[i]'(by rw [markThs_len]; exact h) = markTh xs[i] (k + cntThreadS (xs.take i)) := by
  simp [markThreadSD, List.getElem?_eq_getElem h]
set_option maxHeartbeats 16000000 in
theorem markThreadS_v (S : Nat → Prop) (v : Value) (xs : List ThreadD) (k : Int) (w : World) (hS : ∀ b, S b → b < w.heap.size) (hn : ∀ i, (h : i < xs.length) → ThreadB xs[i]) (h0 : 0 ≤ k) (h1 : k + cntThreadS xs ≤ 1000000000000) (h : ownL S w v xs) :
    Calls Tryz.prog 29 #[v, .int .i64 k] w fun r w' => r = .returned (.int .i64 (k + cntThreadS xs)) ∧ ownL S w' v (markThreadSD xs k) ∧ ChgS S w w' := by
  obtain ⟨a, cap, rfl, hl, hm⟩ := ownL_len h
  have Hn := hid hn
  have HS := hid hS
  clear hn hS
  have hlen : xs.length ≤ 9223372036854775807 := by omega
  go_enter Tryz.func29, Tryz.ntmps29
  go_wp2
  go_loopw [1, 5] (fun kk i wr => ∃ (j : Nat) (X : List ThreadD), j ≤ xs.length ∧ i = .int .i64 j ∧ kk = .int .i64 (k + cntThreadS (xs.take j)) ∧ X.length = xs.length ∧ Hid (∀ q (h : q < X.length) (h2 : q < xs.length), X[q] = if q < j then markTh xs[q] (k + cntThreadS (xs.take q)) else xs[q]) ∧ ownL S wr (.slice a xs.length cap) X ∧ ChgS S w wr) (fun _ i _ => xs.length - (intOf i).toNat)
  case atStart => exact ⟨0, xs, by omega, rfl, by simp [cntThreadS], rfl, hid fun q h h2 => by rw [if_neg (by omega)], h, ChgS.refl _ _⟩
  case round =>
    clear h
    obtain ⟨j, X, hj, rfl, rfl, hX, hXs, hO, hG⟩ := hrel
    by_cases hlt : j < xs.length
    · have hXj : X[j]'(by omega) = xs[j] := by rw [hXs.out j (by omega) hlt, if_neg (by omega)]
      obtain ⟨g, cap2, css, Ri, hic, hv, hcl, hcs, hrow, hSg, hRi, hown, hfin⟩ := ownL_at hO j (by omega)
      rw [hXj] at hown
      obtain ⟨v0, v1, v2, S0, S1, S2, hcj, M0_0, M1_0, M2_0, si0, si1, si2, dd01, dd02, dd12⟩ := hown
      obtain ⟨rfl, rfl⟩ : a = some ⟨g, 0, none⟩ ∧ cap = cap2 := by simp only [Value.slice.injEq] at hv; exact ⟨hv.1, hv.2.2⟩
      clear hv
      rw [hX] at hrow hfin
      obtain ⟨hb0, hb1, hb2⟩ := threadB_parts (Hn.out j hlt)
      have hc0 := cntInstrS_le hb0
      have hc1 := cntEntryS_le hb1
      have hc2 := cntFrameS_le hb2
      have hK2 := cntThs_take xs j hlt
      have hK3 := cntThs_take_le xs (j+1)
      have hK0 : 0 ≤ k + (cntThreadS (xs.take j) : Int) := by omega
      have hK1 : k + (cntThreadS (xs.take j) : Int) ≤ 1000000000000 := by omega
      generalize hKd : k + (cntThreadS (xs.take j) : Int) = K at *
      have ne0 : ∀ b, S0 b → b ≠ g := fun b hb => (hRi b (si0 b hb)).2
      have ne1 : ∀ b, S1 b → b ≠ g := fun b hb => (hRi b (si1 b hb)).2
      have ne2 : ∀ b, S2 b → b ≠ g := fun b hb => (hRi b (si2 b hb)).2
      have RA0 : RowAt wr 82 14 g xs.length cap j css [Value.int .i64 xs[j].id_, v0, Value.int .i64 xs[j].at_, Value.int .i64 xs[j].reg0_, Value.int .i64 xs[j].reg1_, Value.int .i64 xs[j].reg2_, Value.int .i64 xs[j].reg3_, v1, Value.int .i64 xs[j].check_, v2, Value.int .i64 xs[j].mine_, Value.int .i64 xs[j].state_, Value.int .i64 xs[j].commits_, Value.int .i64 xs[j].fails_] := RowAt.start hrow hcs hic hcj
      have CG0 : ChgS (fun b => b = g ∨ Ri b) wr wr := ChgS.refl _ _
      obtain ⟨K1, hK1d⟩ : ∃ Y, Y = kTh1 xs[j] K := ⟨_, rfl⟩
      obtain ⟨K2, hK2d⟩ : ∃ Y, Y = kTh2 xs[j] K := ⟨_, rfl⟩
      obtain ⟨K3, hK3d⟩ : ∃ Y, Y = kTh3 xs[j] K := ⟨_, rfl⟩
      have hq1 : K + 1 + (cntInstrS xs[j].prog_ : Int) = K1 := hK1d.symm
      have hq2 : K1 + 5 + (cntEntryS xs[j].open_ : Int) = K2 := by rw [hK1d, hK2d]; rfl
      have hq3 : K2 + 1 + (cntFrameS xs[j].stack_ : Int) = K3 := by rw [hK2d, hK3d]; rfl
      have hq4 : K3 + 4 = K + (cntTh xs[j] : Int) := by rw [hK3d]; exact kTh_end _ _
      have HK1d := hid hK1d
      have HK2d := hid hK2d
      have HK3d := hid hK3d
      have HO := hid hXs
      have i1 : K + 1 + (cntInstrS xs[j].prog_ : Int) = K1 := hq1
      have b1a : 0 ≤ K1 := by omega
      have b1b : K1 ≤ 1000100000000 := by omega
      have b2a : 0 ≤ K2 := by omega
      have b2b : K2 ≤ 1000300000000 := by omega
      have b3a : 0 ≤ K3 := by omega
      have b3b : K3 ≤ 1000500000000 := by omega
      clear hK1d hK2d hK3d hXs hO hrow i1
      have p1 : wr.cell? ⟨g, j * 14, none⟩ = some (Value.int .i64 xs[j].id_) := RA0.cell 0 (by omega)
      have f1 : wr.frozen? ⟨g, j * 14, none⟩ = false := RA0.frozen 0
      obtain ⟨w1, hw1⟩ : ∃ X, wr.setCell ⟨g, j * 14, none⟩ (Value.int .i64 K) = X := ⟨_, rfl⟩
      have RA1 : RowAt w1 82 14 g xs.length cap j css [Value.int .i64 K, v0, Value.int .i64 xs[j].at_, Value.int .i64 xs[j].reg0_, Value.int .i64 xs[j].reg1_, Value.int .i64 xs[j].reg2_, Value.int .i64 xs[j].reg3_, v1, Value.int .i64 xs[j].check_, v2, Value.int .i64 xs[j].mine_, Value.int .i64 xs[j].state_, Value.int .i64 xs[j].commits_, Value.int .i64 xs[j].fails_] := by rw [← hw1]; exact RA0.put 0 (by omega) _
      have M0_1 := M0_0.keep (w' := w1) (fun b hb => by rw [← hw1]; exact heap_setCell_other _ _ b _ (ne0 b hb))
      have M1_1 := M1_0.keep (w' := w1) (fun b hb => by rw [← hw1]; exact heap_setCell_other _ _ b _ (ne1 b hb))
      have M2_1 := M2_0.keep (w' := w1) (fun b hb => by rw [← hw1]; exact heap_setCell_other _ _ b _ (ne2 b hb))
      have CG1 := CG0.set ⟨g, j * 14, none⟩ (Value.int .i64 K) (.inl rfl)
      rw [hw1] at CG1
      have l1_1 : w1.cell? ⟨g, j * 14 + 1, none⟩ = some (v0) := RA1.cell 1 (by omega)
      go_wp2_with fail
      try clear hw1
      refine (markInstrS_o S0 xs[j].prog_ v0 (K + 1) _ (fun b hb => Nat.lt_of_lt_of_le (HS.out b (hRi b (si0 b hb)).1) (Nat.le_trans hG.size CG1.size)) hb0 (by omega) (by omega) M0_1).mono ?_
      rintro e w2 ⟨rfl, M0_2, D2⟩
      have RA2 := RA1.keep (D2.block g (Nat.lt_of_lt_of_le (HS.out g hSg) (Nat.le_trans hG.size CG1.size)) (fun h => ne0 g h rfl))
      have M1_2 := M1_1.keep (fun b hb => D2.block b (Nat.lt_of_lt_of_le (HS.out b (hRi b (si1 b hb)).1) (Nat.le_trans hG.size CG1.size)) (fun h => dd01 b h hb))
      have M2_2 := M2_1.keep (fun b hb => D2.block b (Nat.lt_of_lt_of_le (HS.out b (hRi b (si2 b hb)).1) (Nat.le_trans hG.size CG1.size)) (fun h => dd02 b h hb))
      have CG2 := CG1.trans (D2.mono fun b hb => .inr (si0 b hb))
      rw [hq1]
      have p3 : w2.cell? ⟨g, j * 14 + 2, none⟩ = some (Value.int .i64 xs[j].at_) := RA2.cell 2 (by omega)
      have f3 : w2.frozen? ⟨g, j * 14 + 2, none⟩ = false := RA2.frozen 2
      obtain ⟨w3, hw3⟩ : ∃ X, w2.setCell ⟨g, j * 14 + 2, none⟩ (Value.int .i64 K1) = X := ⟨_, rfl⟩
      have RA3 : RowAt w3 82 14 g xs.length cap j css [Value.int .i64 K, v0, Value.int .i64 K1, Value.int .i64 xs[j].reg0_, Value.int .i64 xs[j].reg1_, Value.int .i64 xs[j].reg2_, Value.int .i64 xs[j].reg3_, v1, Value.int .i64 xs[j].check_, v2, Value.int .i64 xs[j].mine_, Value.int .i64 xs[j].state_, Value.int .i64 xs[j].commits_, Value.int .i64 xs[j].fails_] := by rw [← hw3]; exact RA2.put 2 (by omega) _
      have M0_3 := M0_2.keep (w' := w3) (fun b hb => by rw [← hw3]; exact heap_setCell_other _ _ b _ (ne0 b hb))
      have M1_3 := M1_2.keep (w' := w3) (fun b hb => by rw [← hw3]; exact heap_setCell_other _ _ b _ (ne1 b hb))
      have M2_3 := M2_2.keep (w' := w3) (fun b hb => by rw [← hw3]; exact heap_setCell_other _ _ b _ (ne2 b hb))
      have CG3 := CG2.set ⟨g, j * 14 + 2, none⟩ (Value.int .i64 K1) (.inl rfl)
      rw [hw3] at CG3
      have p4 : w3.cell? ⟨g, j * 14 + 3, none⟩ = some (Value.int .i64 xs[j].reg0_) := RA3.cell 3 (by omega)
      have f4 : w3.frozen? ⟨g, j * 14 + 3, none⟩ = false := RA3.frozen 3
      obtain ⟨w4, hw4⟩ : ∃ X, w3.setCell ⟨g, j * 14 + 3, none⟩ (Value.int .i64 (K1 + 1)) = X := ⟨_, rfl⟩
      have RA4 : RowAt w4 82 14 g xs.length cap j css [Value.int .i64 K, v0, Value.int .i64 K1, Value.int .i64 (K1 + 1), Value.int .i64 xs[j].reg1_, Value.int .i64 xs[j].reg2_, Value.int .i64 xs[j].reg3_, v1, Value.int .i64 xs[j].check_, v2, Value.int .i64 xs[j].mine_, Value.int .i64 xs[j].state_, Value.int .i64 xs[j].commits_, Value.int .i64 xs[j].fails_] := by rw [← hw4]; exact RA3.put 3 (by omega) _
      have M0_4 := M0_3.keep (w' := w4) (fun b hb => by rw [← hw4]; exact heap_setCell_other _ _ b _ (ne0 b hb))
      have M1_4 := M1_3.keep (w' := w4) (fun b hb => by rw [← hw4]; exact heap_setCell_other _ _ b _ (ne1 b hb))
      have M2_4 := M2_3.keep (w' := w4) (fun b hb => by rw [← hw4]; exact heap_setCell_other _ _ b _ (ne2 b hb))
      have CG4 := CG3.set ⟨g, j * 14 + 3, none⟩ (Value.int .i64 (K1 + 1)) (.inl rfl)
      rw [hw4] at CG4
      have p5 : w4.cell? ⟨g, j * 14 + 4, none⟩ = some (Value.int .i64 xs[j].reg1_) := RA4.cell 4 (by omega)
      have f5 : w4.frozen? ⟨g, j * 14 + 4, none⟩ = false := RA4.frozen 4
      obtain ⟨w5, hw5⟩ : ∃ X, w4.setCell ⟨g, j * 14 + 4, none⟩ (Value.int .i64 (K1 + 2)) = X := ⟨_, rfl⟩
      have RA5 : RowAt w5 82 14 g xs.length cap j css [Value.int .i64 K, v0, Value.int .i64 K1, Value.int .i64 (K1 + 1), Value.int .i64 (K1 + 2), Value.int .i64 xs[j].reg2_, Value.int .i64 xs[j].reg3_, v1, Value.int .i64 xs[j].check_, v2, Value.int .i64 xs[j].mine_, Value.int .i64 xs[j].state_, Value.int .i64 xs[j].commits_, Value.int .i64 xs[j].fails_] := by rw [← hw5]; exact RA4.put 4 (by omega) _
      have M0_5 := M0_4.keep (w' := w5) (fun b hb => by rw [← hw5]; exact heap_setCell_other _ _ b _ (ne0 b hb))
      have M1_5 := M1_4.keep (w' := w5) (fun b hb => by rw [← hw5]; exact heap_setCell_other _ _ b _ (ne1 b hb))
      have M2_5 := M2_4.keep (w' := w5) (fun b hb => by rw [← hw5]; exact heap_setCell_other _ _ b _ (ne2 b hb))
      have CG5 := CG4.set ⟨g, j * 14 + 4, none⟩ (Value.int .i64 (K1 + 2)) (.inl rfl)
      rw [hw5] at CG5
      have p6 : w5.cell? ⟨g, j * 14 + 5, none⟩ = some (Value.int .i64 xs[j].reg2_) := RA5.cell 5 (by omega)
      have f6 : w5.frozen? ⟨g, j * 14 + 5, none⟩ = false := RA5.frozen 5
      obtain ⟨w6, hw6⟩ : ∃ X, w5.setCell ⟨g, j * 14 + 5, none⟩ (Value.int .i64 (K1 + 3)) = X := ⟨_, rfl⟩
      have RA6 : RowAt w6 82 14 g xs.length cap j css [Value.int .i64 K, v0, Value.int .i64 K1, Value.int .i64 (K1 + 1), Value.int .i64 (K1 + 2), Value.int .i64 (K1 + 3), Value.int .i64 xs[j].reg3_, v1, Value.int .i64 xs[j].check_, v2, Value.int .i64 xs[j].mine_, Value.int .i64 xs[j].state_, Value.int .i64 xs[j].commits_, Value.int .i64 xs[j].fails_] := by rw [← hw6]; exact RA5.put 5 (by omega) _
      have M0_6 := M0_5.keep (w' := w6) (fun b hb => by rw [← hw6]; exact heap_setCell_other _ _ b _ (ne0 b hb))
      have M1_6 := M1_5.keep (w' := w6) (fun b hb => by rw [← hw6]; exact heap_setCell_other _ _ b _ (ne1 b hb))
      have M2_6 := M2_5.keep (w' := w6) (fun b hb => by rw [← hw6]; exact heap_setCell_other _ _ b _ (ne2 b hb))
      have CG6 := CG5.set ⟨g, j * 14 + 5, none⟩ (Value.int .i64 (K1 + 3)) (.inl rfl)
      rw [hw6] at CG6
      have p7 : w6.cell? ⟨g, j * 14 + 6, none⟩ = some (Value.int .i64 xs[j].reg3_) := RA6.cell 6 (by omega)
      have f7 : w6.frozen? ⟨g, j * 14 + 6, none⟩ = false := RA6.frozen 6
      obtain ⟨w7, hw7⟩ : ∃ X, w6.setCell ⟨g, j * 14 + 6, none⟩ (Value.int .i64 (K1 + 4)) = X := ⟨_, rfl⟩
      have RA7 : RowAt w7 82 14 g xs.length cap j css [Value.int .i64 K, v0, Value.int .i64 K1, Value.int .i64 (K1 + 1), Value.int .i64 (K1 + 2), Value.int .i64 (K1 + 3), Value.int .i64 (K1 + 4), v1, Value.int .i64 xs[j].check_, v2, Value.int .i64 xs[j].mine_, Value.int .i64 xs[j].state_, Value.int .i64 xs[j].commits_, Value.int .i64 xs[j].fails_] := by rw [← hw7]; exact RA6.put 6 (by omega) _
      have M0_7 := M0_6.keep (w' := w7) (fun b hb => by rw [← hw7]; exact heap_setCell_other _ _ b _ (ne0 b hb))
      have M1_7 := M1_6.keep (w' := w7) (fun b hb => by rw [← hw7]; exact heap_setCell_other _ _ b _ (ne1 b hb))
      have M2_7 := M2_6.keep (w' := w7) (fun b hb => by rw [← hw7]; exact heap_setCell_other _ _ b _ (ne2 b hb))
      have CG7 := CG6.set ⟨g, j * 14 + 6, none⟩ (Value.int .i64 (K1 + 4)) (.inl rfl)
      rw [hw7] at CG7
      go_wp2
      go_loopw [1, 6] (fun kk jj wq => (jj = .int .i64 0 ∧ kk = .int .i64 (K1 + 1) ∧ wq = w3) ∨ (jj = .int .i64 1 ∧ kk = .int .i64 (K1 + 2) ∧ wq = w4) ∨ (jj = .int .i64 2 ∧ kk = .int .i64 (K1 + 3) ∧ wq = w5) ∨ (jj = .int .i64 3 ∧ kk = .int .i64 (K1 + 4) ∧ wq = w6) ∨ (jj = .int .i64 4 ∧ kk = .int .i64 (K1 + 5) ∧ wq = w7)) (fun _ jj _ => 4 - (intOf jj).toNat)
      case atStart => exact .inl ⟨rfl, rfl, rfl⟩
      case round =>
        rcases hrel with ⟨rfl, rfl, rfl⟩ | ⟨rfl, rfl, rfl⟩ | ⟨rfl, rfl, rfl⟩ | ⟨rfl, rfl, rfl⟩ | ⟨rfl, rfl, hwl⟩
        · go_wp2
          go_roundw
          case rel => exact .inr (.inl ⟨by first | rfl | trivial | go_num, by first | rfl | trivial | go_num, by first | rfl | assumption | trivial⟩)
          case measure => simp [intOf]
        · go_wp2
          go_roundw
          case rel => exact .inr (.inr (.inl ⟨by first | rfl | trivial | go_num, by first | rfl | trivial | go_num, by first | rfl | assumption | trivial⟩))
          case measure => simp [intOf]
        · go_wp2
          go_roundw
          case rel => exact .inr (.inr (.inr (.inl ⟨by first | rfl | trivial | go_num, by first | rfl | trivial | go_num, by first | rfl | assumption | trivial⟩)))
          case measure => simp [intOf]
        · go_wp2
          go_roundw
          case rel => exact .inr (.inr (.inr (.inr (⟨by first | rfl | trivial | go_num, by first | rfl | trivial | go_num, by first | rfl | assumption | trivial⟩))))
          case measure => simp [intOf]
        · have hwl := hwl.symm
          subst hwl
          have l7_7 : w7.cell? ⟨g, j * 14 + 7, none⟩ = some (v1) := RA7.cell 7 (by omega)
          go_wp2_with fail
          try clear hw3 hw4 hw5 hw6 hw7
          refine (markEntryS_o S1 xs[j].open_ v1 (K1 + 5) _ (fun b hb => Nat.lt_of_lt_of_le (HS.out b (hRi b (si1 b hb)).1) (Nat.le_trans hG.size CG7.size)) hb1 (by omega) (by omega) M1_7).mono ?_
          rintro e w8 ⟨rfl, M1_8, D8⟩
          have RA8 := RA7.keep (D8.block g (Nat.lt_of_lt_of_le (HS.out g hSg) (Nat.le_trans hG.size CG7.size)) (fun h => ne1 g h rfl))
          have M0_8 := M0_7.keep (fun b hb => D8.block b (Nat.lt_of_lt_of_le (HS.out b (hRi b (si0 b hb)).1) (Nat.le_trans hG.size CG7.size)) (fun h => dd01 b hb h))
          have M2_8 := M2_7.keep (fun b hb => D8.block b (Nat.lt_of_lt_of_le (HS.out b (hRi b (si2 b hb)).1) (Nat.le_trans hG.size CG7.size)) (fun h => dd12 b h hb))
          have CG8 := CG7.trans (D8.mono fun b hb => .inr (si1 b hb))
          rw [hq2]
          have p9 : w8.cell? ⟨g, j * 14 + 8, none⟩ = some (Value.int .i64 xs[j].check_) := RA8.cell 8 (by omega)
          have f9 : w8.frozen? ⟨g, j * 14 + 8, none⟩ = false := RA8.frozen 8
          obtain ⟨w9, hw9⟩ : ∃ X, w8.setCell ⟨g, j * 14 + 8, none⟩ (Value.int .i64 K2) = X := ⟨_, rfl⟩
          have RA9 : RowAt w9 82 14 g xs.length cap j css [Value.int .i64 K, v0, Value.int .i64 K1, Value.int .i64 (K1 + 1), Value.int .i64 (K1 + 2), Value.int .i64 (K1 + 3), Value.int .i64 (K1 + 4), v1, Value.int .i64 K2, v2, Value.int .i64 xs[j].mine_, Value.int .i64 xs[j].state_, Value.int .i64 xs[j].commits_, Value.int .i64 xs[j].fails_] := by rw [← hw9]; exact RA8.put 8 (by omega) _
          have M0_9 := M0_8.keep (w' := w9) (fun b hb => by rw [← hw9]; exact heap_setCell_other _ _ b _ (ne0 b hb))
          have M1_9 := M1_8.keep (w' := w9) (fun b hb => by rw [← hw9]; exact heap_setCell_other _ _ b _ (ne1 b hb))
          have M2_9 := M2_8.keep (w' := w9) (fun b hb => by rw [← hw9]; exact heap_setCell_other _ _ b _ (ne2 b hb))
          have CG9 := CG8.set ⟨g, j * 14 + 8, none⟩ (Value.int .i64 K2) (.inl rfl)
          rw [hw9] at CG9
          have l9_9 : w9.cell? ⟨g, j * 14 + 9, none⟩ = some (v2) := RA9.cell 9 (by omega)
          go_wp2_with fail
          try clear hw9
          refine (markFrameS_o S2 xs[j].stack_ v2 (K2 + 1) _ (fun b hb => Nat.lt_of_lt_of_le (HS.out b (hRi b (si2 b hb)).1) (Nat.le_trans hG.size CG9.size)) hb2 (by omega) (by omega) M2_9).mono ?_
          rintro e w10 ⟨rfl, M2_10, D10⟩
          have RA10 := RA9.keep (D10.block g (Nat.lt_of_lt_of_le (HS.out g hSg) (Nat.le_trans hG.size CG9.size)) (fun h => ne2 g h rfl))
          have M0_10 := M0_9.keep (fun b hb => D10.block b (Nat.lt_of_lt_of_le (HS.out b (hRi b (si0 b hb)).1) (Nat.le_trans hG.size CG9.size)) (fun h => dd02 b hb h))
          have M1_10 := M1_9.keep (fun b hb => D10.block b (Nat.lt_of_lt_of_le (HS.out b (hRi b (si1 b hb)).1) (Nat.le_trans hG.size CG9.size)) (fun h => dd12 b hb h))
          have CG10 := CG9.trans (D10.mono fun b hb => .inr (si2 b hb))
          rw [hq3]
          have z2 : K3 + 1 + 1 = K3 + 2 := by omega
          have z3 : K3 + 2 + 1 = K3 + 3 := by omega
          have z4 : K3 + 3 + 1 = K3 + 4 := by omega
          have p11 : w10.cell? ⟨g, j * 14 + 10, none⟩ = some (Value.int .i64 xs[j].mine_) := RA10.cell 10 (by omega)
          have f11 : w10.frozen? ⟨g, j * 14 + 10, none⟩ = false := RA10.frozen 10
          obtain ⟨w11, hw11⟩ : ∃ X, w10.setCell ⟨g, j * 14 + 10, none⟩ (Value.int .i64 K3) = X := ⟨_, rfl⟩
          have RA11 : RowAt w11 82 14 g xs.length cap j css [Value.int .i64 K, v0, Value.int .i64 K1, Value.int .i64 (K1 + 1), Value.int .i64 (K1 + 2), Value.int .i64 (K1 + 3), Value.int .i64 (K1 + 4), v1, Value.int .i64 K2, v2, Value.int .i64 K3, Value.int .i64 xs[j].state_, Value.int .i64 xs[j].commits_, Value.int .i64 xs[j].fails_] := by rw [← hw11]; exact RA10.put 10 (by omega) _
          have M0_11 := M0_10.keep (w' := w11) (fun b hb => by rw [← hw11]; exact heap_setCell_other _ _ b _ (ne0 b hb))
          have M1_11 := M1_10.keep (w' := w11) (fun b hb => by rw [← hw11]; exact heap_setCell_other _ _ b _ (ne1 b hb))
          have M2_11 := M2_10.keep (w' := w11) (fun b hb => by rw [← hw11]; exact heap_setCell_other _ _ b _ (ne2 b hb))
          have CG11 := CG10.set ⟨g, j * 14 + 10, none⟩ (Value.int .i64 K3) (.inl rfl)
          rw [hw11] at CG11
          have p12 : w11.cell? ⟨g, j * 14 + 11, none⟩ = some (Value.int .i64 xs[j].state_) := RA11.cell 11 (by omega)
          have f12 : w11.frozen? ⟨g, j * 14 + 11, none⟩ = false := RA11.frozen 11
          obtain ⟨w12, hw12⟩ : ∃ X, w11.setCell ⟨g, j * 14 + 11, none⟩ (Value.int .i64 (K3 + 1)) = X := ⟨_, rfl⟩
          have RA12 : RowAt w12 82 14 g xs.length cap j css [Value.int .i64 K, v0, Value.int .i64 K1, Value.int .i64 (K1 + 1), Value.int .i64 (K1 + 2), Value.int .i64 (K1 + 3), Value.int .i64 (K1 + 4), v1, Value.int .i64 K2, v2, Value.int .i64 K3, Value.int .i64 (K3 + 1), Value.int .i64 xs[j].commits_, Value.int .i64 xs[j].fails_] := by rw [← hw12]; exact RA11.put 11 (by omega) _
          have M0_12 := M0_11.keep (w' := w12) (fun b hb => by rw [← hw12]; exact heap_setCell_other _ _ b _ (ne0 b hb))
          have M1_12 := M1_11.keep (w' := w12) (fun b hb => by rw [← hw12]; exact heap_setCell_other _ _ b _ (ne1 b hb))
          have M2_12 := M2_11.keep (w' := w12) (fun b hb => by rw [← hw12]; exact heap_setCell_other _ _ b _ (ne2 b hb))
          have CG12 := CG11.set ⟨g, j * 14 + 11, none⟩ (Value.int .i64 (K3 + 1)) (.inl rfl)
          rw [hw12] at CG12
          have p13 : w12.cell? ⟨g, j * 14 + 12, none⟩ = some (Value.int .i64 xs[j].commits_) := RA12.cell 12 (by omega)
          have f13 : w12.frozen? ⟨g, j * 14 + 12, none⟩ = false := RA12.frozen 12
          obtain ⟨w13, hw13⟩ : ∃ X, w12.setCell ⟨g, j * 14 + 12, none⟩ (Value.int .i64 (K3 + 2)) = X := ⟨_, rfl⟩
          have RA13 : RowAt w13 82 14 g xs.length cap j css [Value.int .i64 K, v0, Value.int .i64 K1, Value.int .i64 (K1 + 1), Value.int .i64 (K1 + 2), Value.int .i64 (K1 + 3), Value.int .i64 (K1 + 4), v1, Value.int .i64 K2, v2, Value.int .i64 K3, Value.int .i64 (K3 + 1), Value.int .i64 (K3 + 2), Value.int .i64 xs[j].fails_] := by rw [← hw13]; exact RA12.put 12 (by omega) _
          have M0_13 := M0_12.keep (w' := w13) (fun b hb => by rw [← hw13]; exact heap_setCell_other _ _ b _ (ne0 b hb))
          have M1_13 := M1_12.keep (w' := w13) (fun b hb => by rw [← hw13]; exact heap_setCell_other _ _ b _ (ne1 b hb))
          have M2_13 := M2_12.keep (w' := w13) (fun b hb => by rw [← hw13]; exact heap_setCell_other _ _ b _ (ne2 b hb))
          have CG13 := CG12.set ⟨g, j * 14 + 12, none⟩ (Value.int .i64 (K3 + 2)) (.inl rfl)
          rw [hw13] at CG13
          have p14 : w13.cell? ⟨g, j * 14 + 13, none⟩ = some (Value.int .i64 xs[j].fails_) := RA13.cell 13 (by omega)
          have f14 : w13.frozen? ⟨g, j * 14 + 13, none⟩ = false := RA13.frozen 13
          obtain ⟨w14, hw14⟩ : ∃ X, w13.setCell ⟨g, j * 14 + 13, none⟩ (Value.int .i64 (K3 + 3)) = X := ⟨_, rfl⟩
          have RA14 : RowAt w14 82 14 g xs.length cap j css [Value.int .i64 K, v0, Value.int .i64 K1, Value.int .i64 (K1 + 1), Value.int .i64 (K1 + 2), Value.int .i64 (K1 + 3), Value.int .i64 (K1 + 4), v1, Value.int .i64 K2, v2, Value.int .i64 K3, Value.int .i64 (K3 + 1), Value.int .i64 (K3 + 2), Value.int .i64 (K3 + 3)] := by rw [← hw14]; exact RA13.put 13 (by omega) _
          have M0_14 := M0_13.keep (w' := w14) (fun b hb => by rw [← hw14]; exact heap_setCell_other _ _ b _ (ne0 b hb))
          have M1_14 := M1_13.keep (w' := w14) (fun b hb => by rw [← hw14]; exact heap_setCell_other _ _ b _ (ne1 b hb))
          have M2_14 := M2_13.keep (w' := w14) (fun b hb => by rw [← hw14]; exact heap_setCell_other _ _ b _ (ne2 b hb))
          have CG14 := CG13.set ⟨g, j * 14 + 13, none⟩ (Value.int .i64 (K3 + 3)) (.inl rfl)
          rw [hw14] at CG14
          have R9 := hid (show ownL S w14 (.slice (some ⟨g, 0, none⟩) xs.length cap) (X.set j (markTh xs[j] K)) from by
            refine hfin w14 [Value.int .i64 K, v0, Value.int .i64 K1, Value.int .i64 (K1 + 1), Value.int .i64 (K1 + 2), Value.int .i64 (K1 + 3), Value.int .i64 (K1 + 4), v1, Value.int .i64 K2, v2, Value.int .i64 K3, Value.int .i64 (K3 + 1), Value.int .i64 (K3 + 2), Value.int .i64 (K3 + 3)] (markTh xs[j] K) RA14.row (fun b hs hb hr => ?_) ?_
            · rw [CG14.block b (Nat.lt_of_lt_of_le (HS.out b hs) hG.size) (fun h => h.elim hb hr)]
            · refine ⟨v0, v1, v2, S0, S1, S2, ?_, M0_14, ?_, ?_, si0, si1, si2, dd01, dd02, dd12⟩
              · unfold markTh; rw [← HK1d.out, ← HK2d.out, ← HK3d.out]
              · have z := M1_14; rw [HK1d.out] at z; exact z
              · have z := M2_14; rw [HK2d.out] at z; exact z)
          have hG9 := hid (hG.trans (CG14.mono fun b hb => hb.elim (fun e => e ▸ hSg) (fun h => (hRi b h).1)))
          have hXs2 := hid (show ∀ q (h : q < (X.set j (markTh xs[j] K)).length) (h2 : q < xs.length), (X.set j (markTh xs[j] K))[q] = if q < j + 1 then markTh xs[q] (k + cntThreadS (xs.take q)) else xs[q] from fun q h h2 => by
            by_cases e : j = q
            · subst e; rw [List.getElem_set_self, if_pos (by omega), hKd]
            · rw [List.getElem_set_ne e, HO.out q (by simpa using h) h2]
              by_cases hq : q < j
              · rw [if_pos hq, if_pos (by omega)]
              · rw [if_neg hq, if_neg (by omega)])
          have hKn := hid (show K3 + 4 = k + (cntThreadS (xs.take (j+1)) : Int) by omega)
          have hXl := hid hX
          clear RA0 CG0 RA1 CG1 RA2 CG2 RA3 CG3 RA4 CG4 RA5 CG5 RA6 CG6 RA7 CG7 RA8 CG8 RA9 CG9 RA10 CG10 RA11 CG11 RA12 CG12 RA13 CG13 RA14 CG14 hfin hXj hX hcs hRi hq4
          go_wp2
          go_roundw
          case rel => exact ⟨j+1, X.set j (markTh xs[j] K), by omega, by go_num, by rw [← hKn.out], by simpa using hXl.out, hXs2, R9.out, hG9.out⟩
          case measure => simp [intOf]; omega
    · obtain rfl : j = xs.length := by omega
      have hXe := hid (show X = markThreadSD xs k by
        apply List.ext_getElem (by rw [hX, markThs_len])
        intro q h h2
        have hq : q < xs.length := by omega
        rw [hXs.out q h hq, if_pos hq, markThs_get xs k q hq])
      have hKe := hid (show cntThreadS (xs.take xs.length) = cntThreadS xs by rw [List.take_length])
      have HO := hid hO
      clear hO hXs
      go_wp2
      go_ret
      exact ⟨ret_int (by rw [hKe.out]), by rw [← hXe.out]; exact HO.out, hG⟩
theorem markThreadS_o (S : Nat → Prop) (xs : List ThreadD) (v : Value) (k : Int) (w : World) (hS : ∀ b, S b → b < w.heap.size) (hb : ThreadSB xs) (h0 : 0 ≤ k) (h1 : k ≤ 900000000000) (o : ownL S w v xs) :
    Calls Tryz.prog 29 #[v, .int .i64 k] w fun r w' => r = .returned (.int .i64 (k + cntThreadS xs)) ∧ ownL S w' v (markThreadSD xs k) ∧ ChgS S w w' :=
  markThreadS_v S v xs k w hS (fun i hi => threadSB_at hb i hi) h0 (by have := cntThreadS_le hb; omega) o
end Go.Proofs.YtbbdchlabdilcabGreat
