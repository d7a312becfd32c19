/- Chapter 16: sets in memory: lists of lists of numbers. -/
import Derived.Test.YtdgmbcmgjadoiaaN16o
import Derived.Test.YtdgmbcmgjadoiaaF16
import Derived.StillTailTactics
namespace Go.Proofs.Ytdgmbcmgjadoiaa
set_option maxRecDepth 100000
open Go.RowKit Go.Proofs Go.Own
set_option linter.unusedVariables false
set_option linter.unusedSimpArgs false
instance encRow : Enc RowD where
  sz := 1
  ty := 22
  rds w cs p := ∃ v : Value, cs = [v] ∧ rdsL w v p.xs_
  own S w cs p := ∃ v : Value, cs = [v] ∧ ownL S w v p.xs_
  rds_len := by rintro w cs d ⟨v, rfl, _⟩; rfl
  rds_below := by rintro w w' cs d ⟨v, rfl, h⟩ hb; exact ⟨v, rfl, rdsL.below h hb⟩
  own_keep := by rintro S w w' cs d ⟨v, rfl, h⟩ hk; exact ⟨v, rfl, ownL.keep h hk⟩
  own_mono := by rintro S T w cs d ⟨v, rfl, h⟩ hk; exact ⟨v, rfl, ownL.mono h hk⟩
  own_rds := by rintro S w cs d ⟨v, rfl, h⟩; exact ⟨v, rfl, ownL.rds h⟩
def pSum (xs : List RowD) : Nat := (xs.map (·.xs_.length)).sum
theorem pSum_take (xs : List RowD) (i : Nat) (h : i < xs.length) : pSum (xs.take (i+1)) = pSum (xs.take i) + xs[i].xs_.length := by
  unfold pSum
  rw [List.take_succ_eq_append_getElem h, List.map_append, List.sum_append]
  simp
theorem pSum_take_le (xs : List RowD) (i : Nat) : pSum (xs.take i) ≤ pSum xs := by
  unfold pSum
  conv => rhs; rw [← List.take_append_drop i xs, List.map_append, List.sum_append]
  omega
theorem pSum_at (xs : List RowD) (i : Nat) (h : i < xs.length) : xs[i].xs_.length ≤ pSum xs := by
  have h1 := pSum_take xs i h
  have h2 := pSum_take_le xs (i+1)
  omega
def szIntSSD (xs : List RowD) : Nat := xs.length + pSum xs
def IntSSB (xs : List RowD) : Prop := szIntSSD xs ≤ 1048576
theorem intSSB_at {xs : List RowD} (h : IntSSB xs) (i : Nat) (hi : i < xs.length) : IntSB xs[i].xs_ := by
  have := pSum_at xs i hi
  unfold IntSSB szIntSSD at h; unfold IntSB; omega
theorem infoRow : (Try.prog.info? 22).map (fun i => (i.zero, i.size, i.bytes)) = some (some (.slice none 0 0), 1, 24) := by kernel_rfl
set_option maxHeartbeats 4000000 in
theorem toIntSS_v (v : Value) (xs : List RowD) (w : World) (hx : xs.length ≤ 1048576) (hxs : ∀ i, (h : i < xs.length) → IntSB xs[i].xs_) (h : rdsL w v xs) :
    Calls Try.prog 19 #[v] w fun e w' => ∃ u, e = .returned u ∧ ownL (Rg w.heap.size w'.heap.size) w' u xs ∧ Below w.heap.size w w' := by
  obtain ⟨ad, cap, rfl, hl, hm, hc⟩ := rdsL_open h
  clear h
  have HC := hid hc
  have Hxs := hid hxs
  clear hc hxs
  have hlen : xs.length ≤ 9223372036854775807 := by omega
  obtain ⟨i0, hi, hz0, hz1, hz2⟩ := info_parts infoRow
  go_enter Try.func19, Try.ntmps19
  go_wp2_with (at_make; refine wpList_make_full _ rfl _ _ 34 rfl (w.heap.size) 22 i0 (.slice none 0 0) 1 Try.underlying34 hi hz0 hz1 _ _ _ _ xs.length rfl rfl rfl rfl (by rw [hz2]; omega) (by unfold maxLen; omega) (Nat.le_refl _) ?_)
  intro w1 hown hgrow
  have hB := (Below.refl w.heap.size w).grown hgrow (Nat.le_refl _) (by simp)
  have hz1' := hB.size
  obtain ⟨css, hF⟩ := FillL.begin (A := encRow) (base := w.heap.size) (lo := w.heap.size + 1) (mid := w1.heap.size) (xs := xs) hown (fun b hb => by have e : w.heap.size = b := Option.some.inj hb; omega) (Nat.le_refl _)
  have hmid : w.heap.size + 1 ≤ w1.heap.size := (owns_lt hown).2
  clear hown hgrow
  go_wp2
  go_loopw [4] (fun i wr => ∃ (k mid : Nat) (css : List (List Value)), k ≤ xs.length ∧ i = .int .i64 k ∧ FillL (A := encRow) w.heap.size (w.heap.size + 1) mid wr (.slice (some ⟨w.heap.size, 0, none⟩) xs.length xs.length) xs css k ∧ w.heap.size + 1 ≤ mid ∧ Below w.heap.size w wr) (fun i _ => xs.length - (intOf i).toNat)
  case atStart => exact ⟨0, w1.heap.size, css, by omega, rfl, hF, hmid, hB⟩
  case round =>
    clear hF hB hmid hz1'
    obtain ⟨k, mid, css, hk, rfl, hF, hmid, hB⟩ := hrel
    by_cases hlt : k < xs.length
    · obtain ⟨bb, off, cs, rfl, hbs, ⟨v0, rfl, h0⟩, hcell⟩ := HC.out k hlt
      have c0 : w.cell? ⟨bb, off + k, none⟩ = some v0 := by
        have z := hcell 0 (show 0 < 1 by omega)
        rw [show off + (k * encRow.sz + 0) = off + k by show off + (k * 1 + 0) = off + k; omega] at z; exact z
      have e0 := (hB.cell (p := ⟨bb, off + k, none⟩) hbs).trans c0
      have hR0 := hid (rdsL.below h0 hB)
      have hHF := hid hF
      have hml := hid hmid
      clear c0 hcell HC hF hmid h0
      go_wp2_with fail
      refine (toIntS_o xs[k].xs_ v0 _ hR0.out (Hxs.out k hlt)).mono ?_
      rintro e w2 ⟨u0, S0, rfl, m0, g0, b2⟩
      obtain ⟨ua, uc, rfl, -, -⟩ := ownL_len m0
      have hB2 := hB.trans (b2.mono hB.size)
      have hF2 := hid (hHF.out.below b2)
      obtain ⟨⟨y0, d0⟩, f0⟩ := hF2.out.cell k 0 hlt (show 0 < 1 by omega)
      rw [show k * encRow.sz + 0 = k by show k * 1 + 0 = k; omega] at d0 f0
      have hsz : w.heap.size ≤ w2.heap.size := hB2.size
      obtain ⟨W9, hW9⟩ : ∃ X, w2.setCell ⟨w.heap.size, k, none⟩ (Value.slice ua xs[k].xs_.length uc) = X := ⟨_, rfl⟩
      have hF3 : FillL (A := encRow) w.heap.size (w.heap.size + 1) mid W9 (.slice (some ⟨w.heap.size, 0, none⟩) xs.length xs.length) xs (css.set k [Value.slice ua xs[k].xs_.length uc]) k := by
        have z := hF2.out.putAll k (Nat.le_refl _) hlt [Value.slice ua xs[k].xs_.length uc] rfl
        rw [show k * encRow.sz = k by show k * 1 = k; omega] at z
        rw [← hW9]; exact z
      have hB9 : Below w.heap.size w W9 := by
        rw [← hW9]; exact hB2.setCell (Nat.le_refl _) _
      have hs9 : W9.heap.size = w2.heap.size := by rw [← hW9]; simp [World.setCell]
      have hk9 : ∀ q, Rg wr.heap.size w2.heap.size q → W9.heap[q]? = w2.heap[q]? := fun q hq => by
        rw [← hW9]
        have hm1 := hml.out
        have hm2 : mid ≤ wr.heap.size := hHF.out.2.2.2.2.1
        have hne : q ≠ w.heap.size := by have := hq.1; omega
        rw [heap_setCell_other _ _ q _ hne]
      have hlc : k < (css.set k [Value.slice ua xs[k].xs_.length uc]).length := by rw [hF3.len]; exact hlt
      have hF4 := hid (hF3.next hlc hlt (a := wr.heap.size) (b := w2.heap.size) (hHF.out.2.2.2.2.1) (by have := hml.out; have : mid ≤ wr.heap.size := hHF.out.2.2.2.2.1; omega) b2.size (by omega) (by rw [List.getElem_set_self]; exact ⟨_, rfl, (m0.keep fun q hq => hk9 q (g0 q hq)).mono g0⟩))
      have hm4 := hid (show w.heap.size + 1 ≤ w2.heap.size by have h1 := hml.out; have h2 : mid ≤ wr.heap.size := hHF.out.2.2.2.2.1; have h3 := b2.size; omega)
      have HW := hid hW9
      have HB9 := hid hB9
      clear hW9 hF3 hB9 hk9 hlc hHF hml hF2 m0 hR0 e0
      go_wp2
      rw [HW.out]
      go_roundw
      case rel => exact ⟨k+1, w2.heap.size, _, by omega, by go_num, hF4.out, hm4.out, HB9.out⟩
      case measure => simp [intOf]; omega
    · obtain rfl : k = xs.length := by omega
      have hD := hid (hF.done (Nat.le_add_right _ 1))
      clear hF HC
      go_wp2
      go_ret
      exact ⟨_, rfl, hD.out, hB⟩
theorem rowCell {w : World} {v : Value} {xs : List RowD} (h : rdsL w v xs) : ∃ a cap, v = .slice a xs.length cap ∧ xs.length ≤ cap ∧ cap ≤ 9223372036854775807 ∧ ∀ k, (hk : k < xs.length) → ∃ bb off v0, a = some ⟨bb, off, none⟩ ∧ bb < w.heap.size ∧ rdsL w v0 xs[k].xs_ ∧ w.cell? ⟨bb, off + k, none⟩ = some v0 := by
  obtain ⟨a, cap, e, hl, hm, hc⟩ := rdsL_open h
  refine ⟨a, cap, e, hl, hm, fun k hk => ?_⟩
  obtain ⟨bb, off, cs, ea, hbs, ⟨v0, rfl, h0⟩, hcell⟩ := hc k hk
  refine ⟨bb, off, v0, ea, hbs, h0, ?_⟩
  have z := hcell 0 (show 0 < 1 by omega)
  rw [show off + (k * encRow.sz + 0) = off + k by show off + (k * 1 + 0) = off + k; omega] at z; exact z
set_option maxHeartbeats 4000000 in
theorem eqIntSS_v (v u : Value) (xs : List RowD) (w : World) (h : rdsL w v xs) (g : rdsL w u xs) :
    Calls Try.prog 21 #[v, u] w fun e w' => e = .returned (.bool true) ∧ Below w.heap.size w w' := by
  obtain ⟨ad, cap, rfl, hl, hm, hc⟩ := rowCell h
  obtain ⟨ad2, cap2, rfl, hl2, hm2, hc2⟩ := rowCell g
  clear h g
  have HC := hid hc
  have GC := hid hc2
  clear hc hc2
  have hlen : xs.length ≤ 9223372036854775807 := by omega
  go_enter Try.func21, Try.ntmps21
  go_wp2
  go_loopw [5] (fun i wr => ∃ k : Nat, k ≤ xs.length ∧ i = .int .i64 k ∧ Below w.heap.size w wr) (fun i _ => xs.length - (intOf i).toNat)
  case atStart => exact ⟨0, by omega, rfl, Below.refl _ _⟩
  case round =>
    obtain ⟨k, hk, rfl, hB⟩ := hrel
    by_cases hlt : k < xs.length
    · obtain ⟨bb, off, v0, rfl, hbs, h0, c0⟩ := HC.out k hlt
      obtain ⟨bb2, off2, u0, rfl, hbs2, g0, d0⟩ := GC.out k hlt
      have e0 := (hB.cell (p := ⟨bb, off + k, none⟩) hbs).trans c0
      have i0 := (hB.cell (p := ⟨bb2, off2 + k, none⟩) hbs2).trans d0
      have hR0 := hid (rdsL.below h0 hB)
      have hT0 := hid (rdsL.below g0 hB)
      clear c0 d0 HC GC h0 g0
      go_wp2
      go_still_tail 8, (by kernel_rfl)
      go_wp2_with fail
      have hD : Below wr.heap.size wr wr.drew := (Below.refl _ _).drew
      refine (eqIntS_o xs[k].xs_ v0 u0 _ (rdsL.below hR0.out hD) (rdsL.below hT0.out hD)).mono ?_
      rintro e w1 ⟨rfl, hB1⟩
      have hB3 := hid (show Below w.heap.size w w1 from hB.drew.trans (hB1.mono (by have := hB.size; simp; omega)))
      clear hR0 hT0 e0 i0
      go_wp2
      go_roundw
      case rel => exact ⟨k+1, by omega, by go_num, hB3.out⟩
      case measure => simp [intOf]; omega
    · go_wp2
      go_ret
      exact ⟨rfl, hB⟩
set_option maxHeartbeats 4000000 in
theorem szIntSS_v (v : Value) (xs : List RowD) (k : Int) (w : World) (h0 : 0 ≤ k) (h1 : k ≤ 1048576) (h : rdsL w v xs) :
    Calls Try.prog 17 #[v, .int .i64 k] w fun e w' => e = .returned (.int .i64 (szR k (szIntSSD xs))) ∧ Below w.heap.size w w' := by
  obtain ⟨a, cap, rfl, hl, hm, hc⟩ := rowCell h
  clear h
  have HC := hid hc
  clear hc
  have hlen : xs.length ≤ 9223372036854775807 := by omega
  have hsz := hid (show szIntSSD xs = xs.length + pSum xs from rfl)
  by_cases hk : k < (xs.length : Int)
  · have hn := hid (show (szR k (szIntSSD xs)) = -1 from if_pos (by rw [hsz.out]; omega))
    have hk2 : k - (xs.length : Int) < 0 := by omega
    go_enter Try.func17, Try.ntmps17
    go_wp2
    go_ret
    exact ⟨ret_int hn.out.symm, Below.refl _ _⟩
  have hk2 : ¬ (k - (xs.length : Int) < 0) := by omega
  go_enter Try.func17, Try.ntmps17
  go_wp2
  go_loopw [1, 5] (fun kk i wr => ∃ j : Nat, j ≤ xs.length ∧ i = .int .i64 j ∧ kk = .int .i64 (k - xs.length - pSum (xs.take j)) ∧ (pSum (xs.take j) : Int) ≤ k - xs.length ∧ Below w.heap.size w wr) (fun _ i _ => xs.length - (intOf i).toNat)
  case atStart => exact ⟨0, by omega, rfl, by simp [pSum], by simp [pSum]; omega, Below.refl _ _⟩
  case round =>
    obtain ⟨j, hj, rfl, rfl, hle, hB⟩ := hrel
    by_cases hlt : j < xs.length
    · obtain ⟨bb, off, v0, rfl, hbs, r0, c0⟩ := HC.out j hlt
      have hst := pSum_take xs j hlt
      have hst2 := pSum_take_le xs (j+1)
      have e0 := (hB.cell (p := ⟨bb, off + j, none⟩) hbs).trans c0
      generalize hQ : k - (xs.length : Int) - (pSum (xs.take j) : Int) = Q at *
      have hQ0 : 0 ≤ Q := by omega
      have hQ1 : Q ≤ 1048576 := by omega
      have hR0 := hid (rdsL.below r0 hB)
      clear c0 HC r0
      go_wp2_with fail
      refine (szIntS_o xs[j].xs_ v0 Q _ hQ0 hQ1 hR0.out).mono ?_
      rintro e w3 ⟨rfl, b3⟩
      have hB3 := hid (hB.trans (b3.mono hB.size))
      have hzz := hid (show (szIntSD xs[j].xs_ : Int) = xs[j].xs_.length from rfl)
      clear e0 hR0
      by_cases hq : Q < (szIntSD xs[j].xs_ : Int)
      · have hn := hid (show (szR k (szIntSSD xs)) = -1 from if_pos (by have := hzz.out; rw [hsz.out]; omega))
        rw [szR_of, if_pos hq]
        go_wp2
        go_ret
        exact ⟨ret_int hn.out.symm, hB3.out⟩
      · rw [szR_of, if_neg hq]
        have hKn := hid (show Q - (szIntSD xs[j].xs_ : Int) = k - xs.length - pSum (xs.take (j+1)) by have := hzz.out; omega)
        have hle2 := hid (show (pSum (xs.take (j+1)) : Int) ≤ k - xs.length by have := hzz.out; omega)
        have hpos : ¬ (Q - (szIntSD xs[j].xs_ : Int) < 0) := by omega
        go_wp2
        go_roundw
        case rel => exact ⟨j+1, by omega, by go_num, by rw [← hKn.out], hle2.out, hB3.out⟩
        case measure => simp [intOf]; omega
    · obtain rfl : j = xs.length := by omega
      have hKe : pSum (xs.take xs.length) = pSum xs := by rw [List.take_length]
      have hn := hid (show (szR k (szIntSSD xs)) = k - xs.length - pSum (xs.take xs.length) by rw [szR, if_neg (by rw [hsz.out]; omega), hsz.out, hKe]; omega)
      clear hKe
      go_wp2
      go_ret
      exact ⟨ret_int hn.out.symm, hB⟩
-- marks
def cntIntSS (xs : List RowD) : Nat := (xs.map fun p => cntIntS p.xs_).sum
theorem cntIntSS_take (xs : List RowD) (i : Nat) (h : i < xs.length) : cntIntSS (xs.take (i+1)) = cntIntSS (xs.take i) + cntIntS xs[i].xs_ := by
  unfold cntIntSS
  rw [List.take_succ_eq_append_getElem h, List.map_append, List.sum_append]
  simp
theorem cntIntSS_take_le (xs : List RowD) (i : Nat) : cntIntSS (xs.take i) ≤ cntIntSS xs := by
  unfold cntIntSS
  conv => rhs; rw [← List.take_append_drop i xs, List.map_append, List.sum_append]
  omega
theorem cntIntSS_sum (xs : List RowD) : cntIntSS xs = pSum xs := by
  induction xs with
  | nil => rfl
  | cons t ts ih =>
    unfold cntIntSS pSum at ih ⊢
    simp only [List.map_cons, List.sum_cons]
    unfold cntIntS at ih ⊢
    omega
theorem cntIntSS_le {xs : List RowD} (h : IntSSB xs) : cntIntSS xs ≤ 100000000 := by
  rw [cntIntSS_sum]
  unfold IntSSB szIntSSD at h
  omega
def markIntSSD (xs : List RowD) (k : Int) : List RowD := (List.range xs.length).map fun i => match xs[i]? with | some d => ⟨markIntSD d.xs_ (k + cntIntSS (xs.take i))⟩ | none => ⟨[]⟩
theorem markIntSSD_len (xs : List RowD) (k : Int) : (markIntSSD xs k).length = xs.length := by simp [markIntSSD]
theorem markIntSSD_get (xs : List RowD) (k : Int) (i : Nat) (h : i < xs.length) : (markIntSSD xs k)[i]'(by rw [markIntSSD_len]; exact h) = ⟨markIntSD xs[i].xs_ (k + cntIntSS (xs.take i))⟩ := by
  simp [markIntSSD, List.getElem?_eq_getElem h]
set_option maxHeartbeats 4000000 in
theorem markIntSS_v (S : Nat → Prop) (v : Value) (xs : List RowD) (k : Int) (w : World) (hS : ∀ b, S b → b < w.heap.size) (hn : ∀ i, (h : i < xs.length) → IntSB xs[i].xs_) (h0 : 0 ≤ k) (h1 : k + cntIntSS xs ≤ 1000000000000) (h : ownL S w v xs) :
    Calls Try.prog 24 #[v, .int .i64 k] w fun r w' => r = .returned (.int .i64 (k + cntIntSS xs)) ∧ ownL S w' v (markIntSSD xs k) ∧ ChgS S w w' := by
  obtain ⟨a, cap, rfl, hl, hm⟩ := ownL_len h
  have Hn := hid hn
  have HS := hid hS
  clear hn hS
  have hlen : xs.length ≤ 9223372036854775807 := by omega
  go_enter Try.func24, Try.ntmps24
  go_wp2
  go_loopw [1, 5] (fun kk i wr => ∃ (j : Nat) (X : List RowD), j ≤ xs.length ∧ i = .int .i64 j ∧ kk = .int .i64 (k + cntIntSS (xs.take j)) ∧ X.length = xs.length ∧ Hid (∀ q (h : q < X.length) (h2 : q < xs.length), X[q] = if q < j then ⟨markIntSD xs[q].xs_ (k + cntIntSS (xs.take q))⟩ else xs[q]) ∧ ownL S wr (.slice a xs.length cap) X ∧ ChgS S w wr) (fun _ i _ => xs.length - (intOf i).toNat)
  case atStart => exact ⟨0, xs, by omega, rfl, by simp [cntIntSS], rfl, hid fun q h h2 => by rw [if_neg (by omega)], h, ChgS.refl _ _⟩
  case round =>
    clear h
    obtain ⟨j, X, hj, rfl, rfl, hX, hXs, hO, hG⟩ := hrel
    by_cases hlt : j < xs.length
    · have hXj : X[j]'(by omega) = xs[j] := by rw [hXs.out j (by omega) hlt, if_neg (by omega)]
      obtain ⟨g, cap2, css, Ri, hic, hv, hcl, hcs, hrow, hSg, hRi, hown, hfin⟩ := ownL_at hO j (by omega)
      rw [hXj] at hown
      obtain ⟨v0, hcj, hE⟩ := hown
      obtain ⟨rfl, rfl⟩ : a = some ⟨g, 0, none⟩ ∧ cap = cap2 := by simp only [Value.slice.injEq] at hv; exact ⟨hv.1, hv.2.2⟩
      clear hv
      have hK0 : 0 ≤ k + (cntIntSS (xs.take j) : Int) := by omega
      have hK2 := cntIntSS_take xs j hlt
      have hK3 := cntIntSS_take_le xs (j+1)
      have hKm : k + (cntIntSS (xs.take j) : Int) ≤ 1000000000000 := by omega
      generalize hKd : k + (cntIntSS (xs.take j) : Int) = K at *
      rw [hX] at hrow hfin
      have p0 : wr.cell? ⟨g, j, none⟩ = some v0 := by
        have z := hrow.cellAt j (by show j < xs.length * 1; omega)
        rw [z]
        have y := flatten_get 1 css hcs j hic 0 (by omega)
        rw [show j * 1 + 0 = j by omega, hcj] at y
        exact y
      have hne : ∀ b, Ri b → b ≠ g := fun b hb => (hRi b hb).2
      have hSW : ∀ b, S b → b < wr.heap.size := fun b hb => by have := HS.out b hb; have := hG.size; omega
      have HE := hid hE
      have HR := hid hrow
      clear hE hrow hO
      go_wp2_with fail
      refine (markIntS_o Ri xs[j].xs_ v0 K _ (fun b hb => hSW b (hRi b hb).1) (Hn.out j hlt) hK0 (by omega) HE.out).mono ?_
      rintro e w3 ⟨rfl, m3, g3⟩
      have R3 : ownL S w3 (.slice (some ⟨g, 0, none⟩) xs.length cap) (X.set j ⟨markIntSD xs[j].xs_ K⟩) := by
        refine hfin w3 [v0] ⟨markIntSD xs[j].xs_ K⟩ ?_ (fun b hs hb hr => g3.block b (hSW b hs) hr) ⟨_, rfl, m3⟩
        rw [← hcj, List.set_getElem_self]
        exact owns_same HR.out fun b hb => by
            obtain rfl : g = b := Option.some.inj hb
            exact g3.block g (hSW g hSg) (fun e => hne g e rfl)
      have hG3 := hid (hG.trans (g3.mono (fun b hb => (hRi b hb).1)))
      have hXs2 := hid (show ∀ q (h : q < (X.set j ⟨markIntSD xs[j].xs_ K⟩).length) (h2 : q < xs.length), (X.set j ⟨markIntSD xs[j].xs_ K⟩)[q] = if q < j + 1 then ⟨markIntSD xs[q].xs_ (k + cntIntSS (xs.take q))⟩ else xs[q] from fun q h h2 => by
        by_cases e : j = q
        · subst e; rw [List.getElem_set_self, if_pos (by omega), hKd]
        · rw [List.getElem_set_ne e, hXs.out q (by simpa using h) h2]
          by_cases hq : q < j
          · rw [if_pos hq, if_pos (by omega)]
          · rw [if_neg hq, if_neg (by omega)])
      have hR3 := hid R3
      have hKn := hid (show K + (cntIntS xs[j].xs_ : Int) = k + (cntIntSS (xs.take (j+1)) : Int) by omega)
      have hXl := hid hX
      clear R3 m3 g3 hSW hfin hXj hne p0 hXs hX hG hcs hRi
      go_wp2
      go_roundw
      case rel => exact ⟨j+1, X.set j ⟨markIntSD xs[j].xs_ K⟩, by omega, by go_num, by rw [← hKn.out], by simpa using hXl.out, hXs2, hR3.out, hG3.out⟩
      case measure => simp [intOf]; omega
    · obtain rfl : j = xs.length := by omega
      have hXe := hid (show X = markIntSSD xs k by
        apply List.ext_getElem (by rw [hX, markIntSSD_len])
        intro q h h2
        have hq : q < xs.length := by omega
        rw [hXs.out q h hq, if_pos hq, markIntSSD_get xs k q hq])
      have hKe := hid (show cntIntSS (xs.take xs.length) = cntIntSS xs by rw [List.take_length])
      have HO := hid hO
      clear hO hXs
      go_wp2
      go_ret
      exact ⟨ret_int (by rw [hKe.out]), by rw [← hXe.out]; exact HO.out, hG⟩
set_option maxHeartbeats 4000000 in
theorem heldIntSS_v (v : Value) (xs : List RowD) (k : Int) (w : World) (hn : ∀ i, (h : i < xs.length) → IntSB xs[i].xs_) (h0 : 0 ≤ k) (h1 : k + cntIntSS xs ≤ 1000000000000) (h : rdsL w v (markIntSSD xs k)) :
    Calls Try.prog 25 #[v, .int .i64 k] w fun r w' => r = .returned (.int .i64 (k + cntIntSS xs)) ∧ Below w.heap.size w w' := by
  obtain ⟨a, cap, rfl, hl, hm, hc⟩ := rowCell h
  clear h
  have Hn := hid hn
  have HC := hid hc
  clear hn hc
  rw [markIntSSD_len] at hl
  have hML := hid (markIntSSD_len xs k)
  have hlen : xs.length ≤ 9223372036854775807 := by omega
  rw [hML.out]
  go_enter Try.func25, Try.ntmps25
  go_wp2
  go_loopw [1, 5] (fun kk i wr => ∃ j : Nat, j ≤ xs.length ∧ i = .int .i64 j ∧ kk = .int .i64 (k + cntIntSS (xs.take j)) ∧ Below w.heap.size w wr) (fun _ i _ => xs.length - (intOf i).toNat)
  case atStart => exact ⟨0, by omega, rfl, by simp [cntIntSS], Below.refl _ _⟩
  case round =>
    obtain ⟨j, hj, rfl, rfl, hB⟩ := hrel
    by_cases hlt : j < xs.length
    · obtain ⟨bb, off, v0, rfl, hbs, h2, c0⟩ := HC.out j (by rw [hML.out]; exact hlt)
      rw [markIntSSD_get xs k j hlt] at h2
      dsimp only at h2
      have hK0 : 0 ≤ k + (cntIntSS (xs.take j) : Int) := by omega
      have hK2 := cntIntSS_take xs j hlt
      have hK3 := cntIntSS_take_le xs (j+1)
      generalize hKd : k + (cntIntSS (xs.take j) : Int) = K at *
      have e0 := (hB.cell (p := ⟨bb, off + j, none⟩) hbs).trans c0
      have hR := hid (rdsL.below h2 hB)
      have hKb : K ≤ 1000000000000 := by omega
      clear c0 HC h2
      go_wp2_with fail
      refine (heldIntS_o xs[j].xs_ v0 K _ (Hn.out j hlt) hK0 (by omega) hR.out).mono ?_
      rintro e w3 ⟨rfl, b3⟩
      have hB3 := hid (hB.trans (b3.mono hB.size))
      have hKn := hid (show (K + (cntIntS xs[j].xs_ : Int)) = k + (cntIntSS (xs.take (j+1)) : Int) by omega)
      have hpos : ¬ (K + (cntIntS xs[j].xs_ : Int) < 0) := by omega
      clear hR e0
      go_wp2
      go_roundw
      case rel => exact ⟨j+1, by omega, by go_num, by rw [← hKn.out], hB3.out⟩
      case measure => simp [intOf]; omega
    · obtain rfl : j = xs.length := by omega
      have hKe := hid (show cntIntSS (xs.take xs.length) = cntIntSS xs by rw [List.take_length])
      go_wp2
      go_ret
      exact ⟨ret_int (by rw [hKe.out]), hB⟩
theorem heldIntSS_o (xs : List RowD) (v : Value) (k : Int) (w : World) (hb : IntSSB xs) (h0 : 0 ≤ k) (h1 : k ≤ 900000000000) (r : rdsL w v (markIntSSD xs k)) :
    Calls Try.prog 25 #[v, .int .i64 k] w fun r w' => r = .returned (.int .i64 (k + cntIntSS xs)) ∧ Below w.heap.size w w' :=
  heldIntSS_v v xs k w (fun i hi => intSSB_at hb i hi) h0 (by have := cntIntSS_le hb; omega) r
theorem toIntSS_o (xs : List RowD) (v : Value) (w : World) (r : rdsL w v xs) (hb : IntSSB xs) :
    Calls Try.prog 19 #[v] w fun e w' => ∃ u : Value, ∃ S : Nat → Prop, e = .returned u ∧ ownL S w' u xs ∧ (∀ b, S b → Rg w.heap.size w'.heap.size b) ∧ Below w.heap.size w w' := by
  refine (toIntSS_v v xs w (by unfold IntSSB szIntSSD at hb; omega) (fun i hi => intSSB_at hb i hi) r).mono ?_
  rintro e w' ⟨u, rfl, o, b⟩
  exact ⟨u, _, rfl, o, fun _ h => h, b⟩
theorem eqIntSS_o (xs : List RowD) (v u : Value) (w : World) (r : rdsL w v xs) (g : rdsL w u xs) :
    Calls Try.prog 21 #[v, u] w fun e w' => e = .returned (.bool true) ∧ Below w.heap.size w w' := eqIntSS_v v u xs w r g
theorem szIntSS_o (xs : List RowD) (v : Value) (k : Int) (w : World) (h0 : 0 ≤ k) (h1 : k ≤ 1048576) (r : rdsL w v xs) :
    Calls Try.prog 17 #[v, .int .i64 k] w fun e w' => e = .returned (.int .i64 (szR k (szIntSSD xs))) ∧ Below w.heap.size w w' := szIntSS_v v xs k w h0 h1 r
theorem markIntSS_o (S : Nat → Prop) (xs : List RowD) (v : Value) (k : Int) (w : World) (hS : ∀ b, S b → b < w.heap.size) (hb : IntSSB xs) (h0 : 0 ≤ k) (h1 : k ≤ 900000000000) (o : ownL S w v xs) :
    Calls Try.prog 24 #[v, .int .i64 k] w fun r w' => r = .returned (.int .i64 (k + cntIntSS xs)) ∧ ownL S w' v (markIntSSD xs k) ∧ ChgS S w w' :=
  markIntSS_v S v xs k w hS (fun i hi => intSSB_at hb i hi) h0 (by have := cntIntSS_le hb; omega) o
end Go.Proofs.Ytdgmbcmgjadoiaa
