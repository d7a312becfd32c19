/- Chapter 7's data in memory: what the laws' helpers do, each in the one form that the laws' walks take (lawgen3.py). -/
import Derived.Test.YtbbdchlabdilcabGreatN7
/- Chapter 7's data in memory: descriptors marked and found marked; told how many. -/
namespace Go.Proofs.YtbbdchlabdilcabGreat
set_option maxRecDepth 100000
open Go.RowKit Go.Proofs Go.Own
set_option linter.unusedVariables false
set_option linter.unusedSimpArgs false
def markEn (k : Int) (i : Nat) : Entry := ⟨k + 5 * i, k + 5 * i + 1, k + 5 * i + 2, k + 5 * i + 3, (k + 5 * i + 4) % 3 == 0⟩
def markEs (k : Int) (n : Nat) : List Entry := (List.range n).map (markEn k)
theorem markEs_len (k : Int) (n : Nat) : (markEs k n).length = n := by simp [markEs]
theorem markEs_enc (k : Int) (n : Nat) : (markEs k n).flatMap Entry.enc = markV markEntry (n * 5) k := by
  apply List.ext_getElem?
  intro t
  have hl : ((markEs k n).flatMap Entry.enc).length = n * 5 := by rw [flatMap_len Entry.enc 5 (fun _ => rfl), markEs_len]
  by_cases h : t < n * 5
  · have e := flatMap_get Entry.enc 5 (fun _ => rfl) (markEs k n) (t / 5) (by rw [markEs_len]; omega) (t % 5) (by omega)
    rw [show t / 5 * 5 + t % 5 = t by omega] at e
    rw [e, markV_get _ _ _ _ h]
    have hm : (markEs k n)[t / 5]'(by rw [markEs_len]; omega) = markEn k (t / 5) := by simp [markEs]
    rw [hm]
    have h5 : t % 5 < 5 := by omega
    have hq : (t : Int) = 5 * ((t / 5 : Nat) : Int) + ((t % 5 : Nat) : Int) := by omega
    unfold markEntry markEn Entry.enc
    generalize t % 5 = r at *
    match r, h5 with
    | 0, _ => rw [if_neg (by omega)]; simp; omega
    | 1, _ => rw [if_neg (by omega)]; simp; omega
    | 2, _ => rw [if_neg (by omega)]; simp; omega
    | 3, _ => rw [if_neg (by omega)]; simp; omega
    | 4, _ => rw [if_pos rfl]; simp only [List.getElem?_cons_succ, List.getElem?_cons_zero, Option.some.injEq, Value.bool.injEq]; rw [show k + (t : Int) = k + 5 * ((t / 5 : Nat) : Int) + 4 by omega]
  · rw [List.getElem?_eq_none (by omega), List.getElem?_eq_none (by rw [markV_length]; omega)]
def cntD (d : DescD) : Nat := 2 + 5 * d.entries_.length
def cntDs (ds : List DescD) : Nat := (ds.map cntD).sum
theorem cntDs_take (xs : List DescD) (i : Nat) (h : i < xs.length) : cntDs (xs.take (i+1)) = cntDs (xs.take i) + cntD xs[i] := by
  unfold cntDs
  rw [List.take_succ_eq_append_getElem h, List.map_append, List.sum_append]
  simp
theorem cntDs_take_le (xs : List DescD) (i : Nat) : cntDs (xs.take i) ≤ cntDs xs := by
  unfold cntDs
  conv => rhs; rw [← List.take_append_drop i xs, List.map_append, List.sum_append]
  omega
def markD (d : DescD) (k : Int) : DescD := ⟨k, k + 1, markEs (k + 2) d.entries_.length⟩
def markDs (xs : List DescD) (k : Int) : List DescD := (List.range xs.length).map fun i => match xs[i]? with | some d => markD d (k + cntDs (xs.take i)) | none => ⟨0, 0, []⟩
theorem markDs_len (xs : List DescD) (k : Int) : (markDs xs k).length = xs.length := by simp [markDs]
theorem markDs_get (xs : List DescD) (k : Int) (i : Nat) (h : i < xs.length) : (markDs xs k)[i]'(by rw [markDs_len]; exact h) = markD xs[i] (k + cntDs (xs.take i)) := by
  simp [markDs, List.getElem?_eq_getElem h]
set_option maxHeartbeats 4000000 in
theorem markDescS_v (S : Nat → Prop) (v : Value) (xs : List DescD) (k : Int) (w : World) (hS : ∀ b, S b → b < w.heap.size) (hn : ∀ i, (h : i < xs.length) → xs[i].entries_.length ≤ 1099511627776) (h0 : 0 ≤ k) (h1 : k + cntDs xs ≤ 1125899906842624) (h : ownL S w v xs) :
    Calls Tryz.prog 58 #[v, .int .i64 k] w fun r w' => r = .returned (.int .i64 (k + cntDs xs)) ∧ ownL S w' v (markDs xs k) ∧ ChgS S w w' := by
  obtain ⟨a, cap, rfl, hl, hm⟩ := ownL_len h
  have Hn := hid hn
  have HS := hid hS
  clear hn hS
  have hlen : xs.length ≤ 9223372036854775807 := by omega
  go_enter Tryz.func58, Tryz.ntmps58
  go_wp2
  go_loopw [1, 5] (fun kk i wr => ∃ (j : Nat) (X : List DescD), j ≤ xs.length ∧ i = .int .i64 j ∧ kk = .int .i64 (k + cntDs (xs.take j)) ∧ X.length = xs.length ∧ Hid (∀ q (h : q < X.length) (h2 : q < xs.length), X[q] = if q < j then markD xs[q] (k + cntDs (xs.take q)) else xs[q]) ∧ ownL S wr (.slice a xs.length cap) X ∧ ChgS S w wr) (fun _ i _ => xs.length - (intOf i).toNat)
  case atStart => exact ⟨0, xs, by omega, rfl, by simp [cntDs], rfl, hid fun q h h2 => by rw [if_neg (by omega)], h, ChgS.refl _ _⟩
  case round =>
    clear h
    obtain ⟨j, X, hj, rfl, rfl, hX, hXs, hO, hG⟩ := hrel
    by_cases hlt : j < xs.length
    · have hXj : X[j]'(by omega) = xs[j] := by rw [hXs.out j (by omega) hlt, if_neg (by omega)]
      obtain ⟨g, cap2, css, Ri, hic, hv, hcl, hcs, hrow, hSg, hRi, hown, hfin⟩ := ownL_at hO j (by omega)
      rw [hXj] at hown
      obtain ⟨v2, hcj, hE⟩ := hown
      obtain ⟨hrow2, hblk2⟩ := ownEntrys.1 hE
      obtain ⟨rfl, rfl⟩ : a = some ⟨g, 0, none⟩ ∧ cap = cap2 := by simp only [Value.slice.injEq] at hv; exact ⟨hv.1, hv.2.2⟩
      clear hv
      have hK0 : 0 ≤ k + (cntDs (xs.take j) : Int) := by omega
      have hK2 := cntDs_take xs j hlt
      have hK3 := cntDs_take_le xs (j+1)
      unfold cntD at hK2
      generalize hKd : k + (cntDs (xs.take j) : Int) = K at *
      have hfl := hrow.1
      rw [hX] at hfl hrow hfin
      have hjz : j * 3 + 3 ≤ xs.length * 3 := by omega
      change css.flatten.length = xs.length * 3 at hfl
      have p0 := hrow.cellAt (j * 3) (by show _ < xs.length * 3; omega)
      have p1 := hrow.cellAt (j * 3 + 1) (by show _ < xs.length * 3; omega)
      have p2 := hrow.cellAt (j * 3 + 2) (by show _ < xs.length * 3; omega)
      have q0 : css.flatten[j * 3]? = css[j][0]? := flatten_get 3 css hcs j hic 0 (by omega)
      have q1 : css.flatten[j * 3 + 1]? = css[j][1]? := flatten_get 3 css hcs j hic 1 (by omega)
      have q2 : css.flatten[j * 3 + 2]? = css[j][2]? := flatten_get 3 css hcs j hic 2 (by omega)
      rw [q0, hcj] at p0
      rw [q1, hcj] at p1
      rw [q2, hcj] at p2
      have f0 := hrow.frozenAt (j * 3)
      have f1 := hrow.frozenAt (j * 3 + 1)
      simp only [List.getElem?_cons_succ, List.getElem?_cons_zero] at p0 p1 p2
      clear q0 q1 q2
      obtain ⟨W2, hW2⟩ : ∃ X, (wr.setCell ⟨g, j * 3, none⟩ (.int .i64 K)).setCell ⟨g, j * 3 + 1, none⟩ (.int .i64 (K + 1)) = X := ⟨_, rfl⟩
      have r1 : W2.ownsRow 0 85 3 (.slice (some ⟨g, 0, none⟩) xs.length cap) xs.length (css.set j [Value.int .i64 K, Value.int .i64 (K + 1), v2]).flatten := by
        have z1 := owns_cell hrow hcs j 0 hic (by show 0 < 3; omega) (.int .i64 K)
        have z2 := owns_cell z1 (set_lens hcs j _ (by rw [List.length_set]; exact hcs _ (List.getElem_mem hic))) j 1 (by simpa using hic) (by show 1 < 3; omega) (.int .i64 (K + 1))
        rw [set_set_same, List.getElem_set_self, hcj] at z2
        rw [← hW2]; exact z2
      have hne : ∀ b, v2.ownBlock = some b → b ≠ g := fun b hb => (hRi b (hblk2 b hb)).2
      have hheap : ∀ b, b ≠ g → W2.heap[b]? = wr.heap[b]? := fun b hb => by
        rw [← hW2, heap_setCell_other _ _ b _ hb, heap_setCell_other _ _ b _ hb]
      have hs2 : W2.heap.size = wr.heap.size := by rw [← hW2]; simp [World.setCell]
      have r2 : W2.ownsRow 0 121 5 v2 xs[j].entries_.length (xs[j].entries_.flatMap Entry.enc) := owns_same hrow2 fun b hb => hheap b (hne b hb)
      have hc2 : W2.cell? ⟨g, j * 3 + 2, none⟩ = some v2 := by
        rw [← hW2, World.cell?_setCell_other _ _ _ _ (by simp), World.cell?_setCell_other _ _ _ _ (by simp)]; exact p2
      have hchg : ChgS S wr W2 := by
        rw [← hW2]; exact (ChgS.of_grown (grownBy_setCell _ _ _) (fun b hb => by have e : g = b := Option.some.inj hb; subst e; exact hSg)).trans (ChgS.of_grown (grownBy_setCell _ _ _) (fun b hb => by have e : g = b := Option.some.inj hb; subst e; exact hSg))
      obtain ⟨va, vm, vc, rfl⟩ := owns_form3 r2
      have R1 := hid r1
      have R2 := hid r2
      have HW := hid hW2
      have hKa : 0 ≤ K + 2 := by omega
      have hKb : K + 2 ≤ 1125899906842624 := by omega
      have hKc : K + 1 + 1 = K + 2 := by omega
      clear hW2 r1 r2 hrow hrow2 hfl hE hO
      go_wp2_with fail
      try rw [HW.out]
      refine (markEntryS_c 0 121 _ xs[j].entries_.length _ (K + 2) W2 (Hn.out j hlt) hKa hKb R2.out).mono ?_
      rintro e w3 ⟨rfl, r3, g3⟩
      have hSW : ∀ b, S b → b < W2.heap.size := fun b hb => by have := HS.out b hb; have := hG.size; omega
      have hgb : ∀ b, b ≠ g → ¬ Ri b → S b → w3.heap[b]? = wr.heap[b]? := fun b hb hr hs => by
        rw [g3.block b (hSW b hs) (fun e => hr (hblk2 b e.symm)), hheap b hb]
      have R3 : ownL S w3 (.slice (some ⟨g, 0, none⟩) xs.length cap) (X.set j (markD xs[j] K)) := by
        refine hfin w3 [Value.int .i64 K, Value.int .i64 (K + 1), Value.slice va vm vc] (markD xs[j] K) ?_ (fun b hs hb hr => hgb b hb hr hs) ⟨_, rfl, ownEntrys.2 ⟨?_, hblk2⟩⟩
        · exact owns_same R1.out fun b hb => by
            obtain rfl : g = b := Option.some.inj hb
            exact g3.block g (hSW g hSg) (fun e => hne g e.symm rfl)
        · show w3.ownsRow 0 _ 5 _ (markEs (K + 2) xs[j].entries_.length).length ((markEs (K + 2) xs[j].entries_.length).flatMap Entry.enc)
          rw [markEs_len, markEs_enc]
          exact r3
      have hG3 := hid (hG.trans (hchg.trans (ChgS.of_grown g3 (fun b hb => (hRi b (hblk2 b hb)).1))))
      have hXs2 := hid (show ∀ q (h : q < (X.set j (markD xs[j] K)).length) (h2 : q < xs.length), (X.set j (markD xs[j] K))[q] = if q < j + 1 then markD xs[q] (k + cntDs (xs.take q)) else xs[q] from fun q h h2 => by
        by_cases e : j = q
        · subst e; rw [List.getElem_set_self, if_pos (by omega), hKd]
        · rw [List.getElem_set_ne e, hXs.out q (by simpa using h) h2]
          by_cases hq : q < j
          · rw [if_pos hq, if_pos (by omega)]
          · rw [if_neg hq, if_neg (by omega)])
      have hR3 := hid R3
      have hKn := hid (show (K + 2 + 5 * (xs[j].entries_.length : Int)) = k + (cntDs (xs.take (j+1)) : Int) by omega)
      have hXl := hid hX
      clear R3 R1 R2 r3 g3 hgb hSW hfin hXj hheap hne hchg hc2 p0 p1 p2 f0 f1 hXs hX hG hcs hRi hblk2
      go_wp2
      go_roundw
      case rel => exact ⟨j+1, X.set j (markD xs[j] K), by omega, by go_num, by rw [← hKn.out], by simpa using hXl.out, hXs2, hR3.out, hG3.out⟩
      case measure => simp [intOf]; omega
    · obtain rfl : j = xs.length := by omega
      have hXe := hid (show X = markDs xs k by
        apply List.ext_getElem (by rw [hX, markDs_len])
        intro q h h2
        have hq : q < xs.length := by omega
        rw [hXs.out q h hq, if_pos hq, markDs_get xs k q hq])
      have hKe := hid (show cntDs (xs.take xs.length) = cntDs xs by rw [List.take_length])
      have HO := hid hO
      clear hO hXs
      go_wp2
      go_ret
      exact ⟨ret_int (by rw [hKe.out]), by rw [← hXe.out]; exact HO.out, hG⟩
end Go.Proofs.YtbbdchlabdilcabGreat
/- Chapter 7's data in memory: stores, the laws' own copies of them. -/
namespace Go.Proofs.YtbbdchlabdilcabGreat
set_option maxRecDepth 100000
open Go.RowKit Go.Proofs Go.Own
set_option linter.unusedVariables false
set_option linter.unusedSimpArgs false
def eSum (xs : List DescD) : Nat := (xs.map (·.entries_.length)).sum
theorem eSum_take (xs : List DescD) (i : Nat) (h : i < xs.length) : eSum (xs.take (i+1)) = eSum (xs.take i) + xs[i].entries_.length := by
  unfold eSum
  rw [List.take_succ_eq_append_getElem h, List.map_append, List.sum_append]
  simp
theorem eSum_take_le (xs : List DescD) (i : Nat) : eSum (xs.take i) ≤ eSum xs := by
  unfold eSum
  conv => rhs; rw [← List.take_append_drop i xs, List.map_append, List.sum_append]
  omega
theorem eSum_at (xs : List DescD) (i : Nat) (h : i < xs.length) : xs[i].entries_.length ≤ eSum xs := by
  have h1 := eSum_take xs i h
  have h2 := eSum_take_le xs (i+1)
  omega
/-- What is left of a size; -1 where it is too little. -/
def szR (k n : Int) : Int := if k < n then -1 else k - n
def szD (xs : List DescD) : Nat := xs.length + eSum xs
set_option maxHeartbeats 4000000 in
theorem szDescS_v (v : Value) (xs : List DescD) (k : Int) (w : World) (h0 : 0 ≤ k) (h1 : k ≤ 1048576) (h : rdsL w v xs) :
    Calls Tryz.prog 32 #[v, .int .i64 k] w fun e w' => e = .returned (.int .i64 (szR k (szD xs))) ∧ Below w.heap.size w w' := by
  obtain ⟨a, cap, rfl, hl, hm, hc⟩ := rdsL_open h
  clear h
  have HC := hid hc
  clear hc
  have hlen : xs.length ≤ 9223372036854775807 := by omega
  have hsz := hid (show szD xs = xs.length + eSum xs from rfl)
  by_cases hk : k < (xs.length : Int)
  · have hn := hid (show (szR k (szD xs)) = -1 from if_pos (by rw [hsz.out]; omega))
    have hk2 : k - (xs.length : Int) < 0 := by omega
    go_enter Tryz.func32, Tryz.ntmps32
    go_wp2
    go_ret
    exact ⟨ret_int hn.out.symm, Below.refl _ _⟩
  have hk2 : ¬ (k - (xs.length : Int) < 0) := by omega
  go_enter Tryz.func32, Tryz.ntmps32
  go_wp2
  go_loopw [1, 5] (fun kk i wr => ∃ j : Nat, j ≤ xs.length ∧ i = .int .i64 j ∧ kk = .int .i64 (k - xs.length - eSum (xs.take j)) ∧ (eSum (xs.take j) : Int) ≤ k - xs.length ∧ Below w.heap.size w wr) (fun _ i _ => xs.length - (intOf i).toNat)
  case atStart => exact ⟨0, by omega, rfl, by simp [eSum], by simp [eSum]; omega, Below.refl _ _⟩
  case round =>
    obtain ⟨j, hj, rfl, rfl, hle, hB⟩ := hrel
    by_cases hlt : j < xs.length
    · obtain ⟨bb, off, cs, rfl, hbs, ⟨v2, rfl, h2⟩, hcell⟩ := HC.out j hlt
      have hst := eSum_take xs j hlt
      have hst2 := eSum_take_le xs (j+1)
      have c0 : w.cell? ⟨bb, off + j * 3, none⟩ = some (.int .i64 xs[j].owner_) := hcell 0 (show 0 < 3 by omega)
      have c1 : w.cell? ⟨bb, off + j * 3 + 1, none⟩ = some (.int .i64 xs[j].status_) := hcell 1 (show 1 < 3 by omega)
      have c2 : w.cell? ⟨bb, off + j * 3 + 2, none⟩ = some v2 := hcell 2 (show 2 < 3 by omega)
      have e0 := (hB.cell (p := ⟨bb, off + j * 3, none⟩) hbs).trans c0
      have e1 := (hB.cell (p := ⟨bb, off + j * 3 + 1, none⟩) hbs).trans c1
      have e2 := (hB.cell (p := ⟨bb, off + j * 3 + 2, none⟩) hbs).trans c2
      obtain ⟨a2, cp2, rfl, hl2, hm2⟩ := (rdsEntrys.1 h2).form
      generalize hQ : k - (xs.length : Int) - (eSum (xs.take j) : Int) = Q at *
      have hQ0 : 0 ≤ Q := by omega
      have hQ1 : Q ≤ 1048576 := by omega
      clear c0 c1 c2 hcell HC h2
      go_wp2_with fail
      refine (szDesc_c _ _ a2 xs[j].entries_.length cp2 Q _ (by omega) hQ0 hQ1).mono ?_
      rintro e w3 ⟨rfl, b3⟩
      have hB3 := hid (hB.trans (b3.mono hB.size))
      by_cases hq : Q < (xs[j].entries_.length : Int)
      · have hn := hid (show (szR k (szD xs)) = -1 from if_pos (by rw [hsz.out]; omega))
        rw [if_pos hq]
        clear e0 e1 e2
        go_wp2
        go_ret
        exact ⟨ret_int hn.out.symm, hB3.out⟩
      · rw [if_neg hq]
        have hKn := hid (show Q - (xs[j].entries_.length : Int) = k - xs.length - eSum (xs.take (j+1)) by omega)
        have hle2 := hid (show (eSum (xs.take (j+1)) : Int) ≤ k - xs.length by omega)
        have hpos : ¬ (Q - (xs[j].entries_.length : Int) < 0) := by omega
        clear e0 e1 e2
        go_wp2
        go_roundw
        case rel => exact ⟨j+1, by omega, by go_num, by rw [← hKn.out], hle2.out, hB3.out⟩
        case measure => simp [intOf]; omega
    · obtain rfl : j = xs.length := by omega
      have hKe : eSum (xs.take xs.length) = eSum xs := by rw [List.take_length]
      have hn := hid (show (szR k (szD xs)) = k - xs.length - eSum (xs.take xs.length) by rw [szR, if_neg (by rw [hsz.out]; omega), hsz.out, hKe]; omega)
      clear hKe
      go_wp2
      go_ret
      exact ⟨ret_int hn.out.symm, hB⟩
theorem szStore_v (s : StoreD) (v0 v1 : Value) (k : Int) (w : World) (h0 : 0 ≤ k) (h1 : k ≤ 1048576) (r0 : rdsL w v0 s.heads_) (r1 : rdsL w v1 s.descs_) :
    Calls Tryz.prog 14 #[.agg #[v0, v1], .int .i64 k] w fun e w' => e = .returned (.int .i64 (szR k (s.heads_.length + szD s.descs_))) ∧ Below w.heap.size w w' := by
  obtain ⟨a0, cap0, rfl, hl0, hm0⟩ := (rdsHeads.1 r0).form
  obtain ⟨a1, cap1, rfl, hl1, hm1, -⟩ := rdsL_open r1
  have hsz := hid (show szR k (s.heads_.length + szD s.descs_) = if k < (s.heads_.length + szD s.descs_ : Int) then -1 else k - (s.heads_.length + szD s.descs_) from rfl)
  obtain ⟨W1, hW1⟩ : ∃ X, w.alloc (.cells #[Value.slice a0 s.heads_.length cap0, Value.slice a1 s.descs_.length cap1] 26) = X := ⟨_, rfl⟩
  have hB1 : Below w.heap.size w W1 := by rw [← hW1]; exact (Below.refl _ _).alloc (Nat.le_refl _) _
  have k0 : W1.cell? ⟨w.heap.size, 0, none⟩ = some (Value.slice a0 s.heads_.length cap0) := by rw [← hW1]; simp [go_sem]
  have k1 : W1.cell? ⟨w.heap.size, 1, none⟩ = some (Value.slice a1 s.descs_.length cap1) := by rw [← hW1]; simp [go_sem]
  have r1b := hid (rdsL.below r1 hB1)
  clear r0 r1
  go_enter Tryz.func14, Tryz.ntmps14
  go_wp2_with fail
  clear hW1
  refine (szHeadS_c a0 s.heads_.length cap0 k _ (by omega) h0 h1).mono ?_
  rintro e w2 ⟨rfl, rfl⟩
  by_cases hq : k < (s.heads_.length : Int)
  · rw [if_pos hq]
    go_wp2
    go_ret
    exact ⟨ret_int (by rw [hsz.out, if_pos (by omega)]), hB1⟩
  · rw [if_neg hq]
    have hp : ¬ (k - (s.heads_.length : Int) < 0) := by omega
    go_wp2_with fail
    refine (szDescS_v _ s.descs_ (k - s.heads_.length) _ (by omega) (by omega) r1b.out).mono ?_
    rintro e w3 ⟨rfl, b3⟩
    have hB3 := hB1.trans (b3.mono hB1.size)
    by_cases hq2 : k - (s.heads_.length : Int) < (szD s.descs_ : Int)
    · have e1 : szR (k - (s.heads_.length : Int)) (szD s.descs_) = -1 := if_pos hq2
      rw [e1]
      clear e1
      go_wp2
      go_ret
      exact ⟨ret_int (by rw [hsz.out, if_pos (by omega)]), hB3⟩
    · have e1 : szR (k - (s.heads_.length : Int)) (szD s.descs_) = k - s.heads_.length - szD s.descs_ := if_neg hq2
      rw [e1]
      clear e1
      have hp2 : ¬ (k - (s.heads_.length : Int) - (szD s.descs_ : Int) < 0) := by omega
      go_wp2
      go_ret
      exact ⟨ret_int (by rw [hsz.out, if_neg (by omega)]; omega), hB3⟩
theorem eqStore_v (s : StoreD) (v0 v1 u0 u1 : Value) (w : World) (r0 : rdsL w v0 s.heads_) (r1 : rdsL w v1 s.descs_) (g0 : rdsL w u0 s.heads_) (g1 : rdsL w u1 s.descs_) :
    Calls Tryz.prog 25 #[.agg #[v0, v1], .agg #[u0, u1]] w fun e w' => e = .returned (.bool true) ∧ Below w.heap.size w w' := by
  obtain ⟨a0, cap0, rfl, hl0, hm0⟩ := (rdsHeads.1 r0).form
  obtain ⟨a1, cap1, rfl, hl1, hm1, -⟩ := rdsL_open r1
  obtain ⟨b0, bap0, rfl, bl0, bm0⟩ := (rdsHeads.1 g0).form
  obtain ⟨b1, bap1, rfl, bl1, bm1, -⟩ := rdsL_open g1
  obtain ⟨W1, hW1⟩ : ∃ X, (w.alloc (.cells #[Value.slice a0 s.heads_.length cap0, Value.slice a1 s.descs_.length cap1] 37)).alloc (.cells #[Value.slice b0 s.heads_.length bap0, Value.slice b1 s.descs_.length bap1] 37) = X := ⟨_, rfl⟩
  have hB1 : Below w.heap.size w W1 := by rw [← hW1]; exact ((Below.refl _ _).alloc (Nat.le_refl _) _).alloc (by simp) _
  have hN : w.heap.size + 1 < W1.heap.size := by rw [← hW1]; simp
  have k1 : W1.cell? ⟨w.heap.size, 1, none⟩ = some (Value.slice a1 s.descs_.length cap1) := by rw [← hW1]; simp [go_sem]
  have k3 : W1.cell? ⟨w.heap.size + 1, 1, none⟩ = some (Value.slice b1 s.descs_.length bap1) := by rw [← hW1]; simp [go_sem]
  have k0 : W1.cell? ⟨w.heap.size, 0, none⟩ = some (Value.slice a0 s.heads_.length cap0) := by rw [← hW1]; simp [go_sem]
  have k2 : W1.cell? ⟨w.heap.size + 1, 0, none⟩ = some (Value.slice b0 s.heads_.length bap0) := by rw [← hW1]; simp [go_sem]
  have q0 := hid (rdsL.below r0 hB1)
  have q1 := hid (rdsL.below r1 hB1)
  have q2 := hid (rdsL.below g0 hB1)
  have q3 := hid (rdsL.below g1 hB1)
  clear r0 r1 g0 g1
  go_enter Tryz.func25, Tryz.ntmps25
  go_wp2_with fail
  clear hW1
  refine (eqHeadS_c _ _ s.heads_ _ (rdsHeads.1 q0.out) (rdsHeads.1 q2.out)).mono ?_
  rintro e w2 ⟨rfl, b2⟩
  have hB2 := hB1.trans (b2.mono hB1.size)
  have l1 := (b2.cell (p := ⟨w.heap.size, 1, none⟩) (show w.heap.size < _ by omega)).trans k1
  have l3 := (b2.cell (p := ⟨w.heap.size + 1, 1, none⟩) hN).trans k3
  have p1 := hid (rdsL.below q1.out b2)
  have p3 := hid (rdsL.below q3.out b2)
  clear k0 k1 k2 k3 q0 q1 q2 q3
  go_wp2_with fail
  refine (eqDescS_v _ _ s.descs_ _ p1.out p3.out).mono ?_
  rintro e w3 ⟨rfl, b3⟩
  have hB3 := hB2.trans (b3.mono hB2.size)
  go_wp2
  go_ret
  exact ⟨rfl, hB3⟩
set_option maxHeartbeats 2000000 in
theorem toStore_v (s : StoreD) (v0 v1 : Value) (w : World) (hx0 : s.heads_.length ≤ 1048576) (hx1 : s.descs_.length ≤ 1048576) (hx2 : ∀ i, (h : i < s.descs_.length) → s.descs_[i].entries_.length ≤ 1048576) (r0 : rdsL w v0 s.heads_) (r1 : rdsL w v1 s.descs_) :
    Calls Tryz.prog 20 #[.agg #[v0, v1]] w fun e w' => ∃ u0 u1 : Value, ∃ S0 S1 : Nat → Prop, e = .returned (.agg #[u0, u1]) ∧ ownL S0 w' u0 s.heads_ ∧ ownL S1 w' u1 s.descs_ ∧ (∀ k, S0 k → Rg w.heap.size w'.heap.size k) ∧ (∀ k, S1 k → Rg w.heap.size w'.heap.size k) ∧ (∀ k, S0 k → ¬ S1 k) ∧ Below w.heap.size w w' := by
  obtain ⟨a0, cap0, rfl, hl0, hm0⟩ := (rdsHeads.1 r0).form
  obtain ⟨a1, cap1, rfl, hl1, hm1, -⟩ := rdsL_open r1
  obtain ⟨W1, hW1⟩ : ∃ X, ((w.alloc (.cells #[Value.slice a0 s.heads_.length cap0, Value.slice a1 s.descs_.length cap1] 26)).alloc (.cells #[Value.slice none 0 0, Value.slice none 0 0] 37)).alloc (.cells #[Value.slice none 0 0, Value.slice none 0 0] 37) = X := ⟨_, rfl⟩
  have hB1 : Below w.heap.size w W1 := by rw [← hW1]; exact (((Below.refl _ _).alloc (Nat.le_refl _) _).alloc (by simp) _).alloc (by simp; omega) _
  have hN : W1.heap.size = w.heap.size + 3 := by rw [← hW1]; simp
  have k0 : W1.cell? ⟨w.heap.size, 0, none⟩ = some (Value.slice a0 s.heads_.length cap0) := by rw [← hW1]; simp [go_sem]
  have k1 : W1.cell? ⟨w.heap.size, 1, none⟩ = some (Value.slice a1 s.descs_.length cap1) := by rw [← hW1]; simp [go_sem]
  have br : BoxF W1 (w.heap.size + 1) [Value.slice none 0 0, Value.slice none 0 0] := by
    rw [← hW1]
    have h1 := BoxF.alloc (w.alloc (.cells #[Value.slice a0 s.heads_.length cap0, Value.slice a1 s.descs_.length cap1] 26)) #[Value.slice none 0 0, Value.slice none 0 0] 37
    rw [show (w.alloc (.cells #[Value.slice a0 s.heads_.length cap0, Value.slice a1 s.descs_.length cap1] 26)).heap.size = w.heap.size + 1 by simp] at h1
    exact h1.below ((Below.refl _ _).alloc (Nat.le_refl _) _)
  have bo : BoxF W1 (w.heap.size + 1 + 1) [Value.slice none 0 0, Value.slice none 0 0] := by
    rw [← hW1]
    have h1 := BoxF.alloc ((w.alloc (.cells #[Value.slice a0 s.heads_.length cap0, Value.slice a1 s.descs_.length cap1] 26)).alloc (.cells #[Value.slice none 0 0, Value.slice none 0 0] 37)) #[Value.slice none 0 0, Value.slice none 0 0] 37
    rw [show ((w.alloc (.cells #[Value.slice a0 s.heads_.length cap0, Value.slice a1 s.descs_.length cap1] 26)).alloc (.cells #[Value.slice none 0 0, Value.slice none 0 0] 37)).heap.size = w.heap.size + 1 + 1 by simp] at h1
    exact h1
  have q0 := hid (rdsL.below r0 hB1)
  have R1 := hid r1
  clear r0 r1
  go_enter Tryz.func20, Tryz.ntmps20
  go_wp2_with fail
  try rw [hW1]
  clear hW1
  refine (toHeadS_c _ s.heads_ _ hx0 (rdsHeads.1 q0.out)).mono ?_
  rintro e w2 ⟨u0, rfl, o0, b2⟩
  obtain ⟨ua, um, uc, rfl⟩ := owns_form3 o0
  have hB2 := hB1.trans (b2.mono hB1.size)
  have hs2 := b2.size
  have br2 := br.below b2
  have bo2 := bo.below b2
  have l1 := (b2.cell (p := ⟨w.heap.size, 1, none⟩) (show w.heap.size < _ by omega)).trans k1
  have m0 : w2.cell? ⟨w.heap.size + 1 + 1, 0, none⟩ = some (Value.slice none 0 0) := bo2.1.2 0 (by simp)
  have m1 : w2.frozen? ⟨w.heap.size + 1 + 1, 0, none⟩ = false := bo2.2 0 (by simp)
  obtain ⟨W3, hW3⟩ : ∃ X, w2.setCell ⟨w.heap.size + 1 + 1, 0, none⟩ (Value.slice ua um uc) = X := ⟨_, rfl⟩
  have hs3 : W3.heap.size = w2.heap.size := by rw [← hW3]; simp [World.setCell]
  have hB3 : Below w.heap.size w W3 := by rw [← hW3]; exact hB2.setCell (by show w.heap.size ≤ w.heap.size + 1 + 1; omega) _
  have br3 : BoxF W3 (w.heap.size + 1) [Value.slice none 0 0, Value.slice none 0 0] := by rw [← hW3]; exact br2.other _ _ (by simp)
  have bo3 : BoxF W3 (w.heap.size + 1 + 1) [Value.slice ua um uc, Value.slice none 0 0] := by rw [← hW3]; exact bo2.set 0 (by simp) _
  have n1 : W3.cell? ⟨w.heap.size, 1, none⟩ = some (Value.slice a1 s.descs_.length cap1) := by rw [← hW3, World.cell?_setCell_other _ _ _ _ (by simp)]; exact l1
  have o3 : ownL (Rg W1.heap.size W3.heap.size) W3 (Value.slice ua um uc) s.heads_ := by
    rw [hs3]
    refine (ownH_of o0).keep fun b hb => ?_
    rw [← hW3, heap_setCell_other _ _ b _ (by have := hb.1; show b ≠ w.heap.size + 1 + 1; omega)]
  have q4 := hid (rdsL.below R1.out hB3)
  have HW3 := hid hW3
  clear hW3 q0
  go_wp2_with fail
  rw [HW3.out]
  clear m0 m1 l1
  refine (toDescS_v _ s.descs_ _ hx1 hx2 q4.out).mono ?_
  rintro e w4 ⟨u1, rfl, o4, b4⟩
  obtain ⟨da, dc, rfl, -, -⟩ := ownL_len o4
  have hB4 := hB3.trans (b4.mono hB3.size)
  have hs4 := b4.size
  have br4 := br3.below b4
  have bo4 := bo3.below b4
  have o5 : ownL (Rg W1.heap.size W3.heap.size) w4 (Value.slice ua um uc) s.heads_ := o3.keep (keep_rg b4 (Nat.le_refl _))
  have m0 : w4.cell? ⟨w.heap.size + 1 + 1, 0, none⟩ = some (Value.slice ua um uc) := bo4.1.2 0 (by simp)
  have m1 : w4.cell? ⟨w.heap.size + 1 + 1, 1, none⟩ = some (Value.slice none 0 0) := bo4.1.2 1 (by simp)
  have m2 : w4.frozen? ⟨w.heap.size + 1 + 1, 1, none⟩ = false := bo4.2 1 (by simp)
  have m3 : w4.cell? ⟨w.heap.size + 1, 0, none⟩ = some (Value.slice none 0 0) := br4.1.2 0 (by simp)
  have m4 : w4.cell? ⟨w.heap.size + 1, 1, none⟩ = some (Value.slice none 0 0) := br4.1.2 1 (by simp)
  have m5 : w4.frozen? ⟨w.heap.size + 1, 0, none⟩ = false := br4.2 0 (by simp)
  have m6 : w4.frozen? ⟨w.heap.size + 1, 1, none⟩ = false := br4.2 1 (by simp)
  have O4 := hid o4
  have O5 := hid o5
  clear o4 o5 o3 o0 br br2 br3 br4 bo bo2 bo3 bo4 q4 k0 k1 n1
  go_wp2
  refine bodyPost_ret (v := .agg #[Value.slice ua um uc, Value.slice da s.descs_.length dc]) ?_ rfl ⟨_, _, Rg W1.heap.size W3.heap.size, Rg W3.heap.size w4.heap.size, rfl, ?_, ?_, ?_, ?_, ?_, ?_⟩
  · simp [results, Tryz.results20, go_sem, m0, m1, m2, m3, m4, m5, m6]
  · refine O5.out.keep fun b hb => ?_
    have h1 := hb.1
    rw [heap_setCell_other _ _ b _ (by show b ≠ w.heap.size + 1; omega), heap_setCell_other _ _ b _ (by show b ≠ w.heap.size + 1; omega), heap_setCell_other _ _ b _ (by show b ≠ w.heap.size + 1 + 1; omega)]
  · refine O4.out.keep fun b hb => ?_
    have h1 := hb.1
    rw [heap_setCell_other _ _ b _ (by show b ≠ w.heap.size + 1; omega), heap_setCell_other _ _ b _ (by show b ≠ w.heap.size + 1; omega), heap_setCell_other _ _ b _ (by show b ≠ w.heap.size + 1 + 1; omega)]
  · intro b hb
    exact ⟨by have := hb.1; omega, by have := hb.2; simp [World.setCell]; omega⟩
  · intro b hb
    exact ⟨by have := hb.1; omega, by have := hb.2; simp [World.setCell]; omega⟩
  · intro b hb hb2
    have := hb.2; have := hb2.1; omega
  · refine ((hB4.setCell (p := ⟨w.heap.size + 1 + 1, 1, none⟩) ?_ _).setCell (p := ⟨w.heap.size + 1, 0, none⟩) ?_ _).setCell (p := ⟨w.heap.size + 1, 1, none⟩) ?_ _
    · show w.heap.size ≤ w.heap.size + 1 + 1; omega
    · show w.heap.size ≤ w.heap.size + 1; omega
    · show w.heap.size ≤ w.heap.size + 1; omega
end Go.Proofs.YtbbdchlabdilcabGreat
/- Chapter 7's data in memory: stores marked and found marked. -/
namespace Go.Proofs.YtbbdchlabdilcabGreat
set_option maxRecDepth 100000
open Go.RowKit Go.Proofs Go.Own
set_option linter.unusedVariables false
set_option linter.unusedSimpArgs false
def markHn (k : Int) (i : Nat) : Head := ⟨k + 3 * i, k + 3 * i + 1, k + 3 * i + 2⟩
def markHs (k : Int) (n : Nat) : List Head := (List.range n).map (markHn k)
theorem markHs_len (k : Int) (n : Nat) : (markHs k n).length = n := by simp [markHs]
theorem markHs_enc (k : Int) (n : Nat) : (markHs k n).flatMap Head.enc = markV markI (n * 3) k := by
  apply List.ext_getElem?
  intro t
  have hl : ((markHs k n).flatMap Head.enc).length = n * 3 := by rw [flatMap_len Head.enc 3 (fun _ => rfl), markHs_len]
  by_cases h : t < n * 3
  · have e := flatMap_get Head.enc 3 (fun _ => rfl) (markHs k n) (t / 3) (by rw [markHs_len]; omega) (t % 3) (by omega)
    rw [show t / 3 * 3 + t % 3 = t by omega] at e
    rw [e, markV_get _ _ _ _ h]
    have hm : (markHs k n)[t / 3]'(by rw [markHs_len]; omega) = markHn k (t / 3) := by simp [markHs]
    rw [hm]
    have h5 : t % 3 < 3 := by omega
    have hq : (t : Int) = 3 * ((t / 3 : Nat) : Int) + ((t % 3 : Nat) : Int) := by omega
    unfold markI markHn Head.enc
    generalize t % 3 = r at *
    match r, h5 with
    | 0, _ => simp; omega
    | 1, _ => simp; omega
    | 2, _ => simp; omega
  · rw [List.getElem?_eq_none (by omega), List.getElem?_eq_none (by rw [markV_length]; omega)]
def markS (s : StoreD) (k : Int) : StoreD := ⟨markHs k s.heads_.length, markDs s.descs_ (k + 3 * s.heads_.length)⟩
def cntS (s : StoreD) : Nat := 3 * s.heads_.length + cntDs s.descs_
set_option maxHeartbeats 2000000 in
theorem markStore_v (S0 S1 : Nat → Prop) (s : StoreD) (v0 v1 : Value) (k : Int) (w : World) (hS0 : ∀ b, S0 b → b < w.heap.size) (hS1 : ∀ b, S1 b → b < w.heap.size) (hd : ∀ b, S0 b → ¬ S1 b) (hn0 : s.heads_.length ≤ 1099511627776) (hn : ∀ i, (h : i < s.descs_.length) → s.descs_[i].entries_.length ≤ 1099511627776) (h0 : 0 ≤ k) (h1 : k + cntS s ≤ 1125899906842624) (o0 : ownL S0 w v0 s.heads_) (o1 : ownL S1 w v1 s.descs_) :
    Calls Tryz.prog 28 #[.agg #[v0, v1], .int .i64 k] w fun r w' => r = .returned (.int .i64 (k + cntS s)) ∧ ownL S0 w' v0 (markS s k).heads_ ∧ ownL S1 w' v1 (markS s k).descs_ ∧ ChgS (fun b => S0 b ∨ S1 b) w w' := by
  have hcnt := hid (show (cntS s : Int) = 3 * s.heads_.length + cntDs s.descs_ by unfold cntS; omega)
  obtain ⟨W1, hW1⟩ : ∃ X, w.alloc (.cells #[v0, v1] 37) = X := ⟨_, rfl⟩
  have hB1 : Below w.heap.size w W1 := by rw [← hW1]; exact (Below.refl _ _).alloc (Nat.le_refl _) _
  have hN : W1.heap.size = w.heap.size + 1 := by rw [← hW1]; simp
  have bx : BoxF W1 w.heap.size [v0, v1] := by rw [← hW1]; exact BoxF.alloc _ _ _
  have k0 : W1.cell? ⟨w.heap.size, 0, none⟩ = some v0 := by rw [← hW1]; simp [go_sem]
  have k1 : W1.cell? ⟨w.heap.size, 1, none⟩ = some v1 := by rw [← hW1]; simp [go_sem]
  have p0 : ownL S0 W1 v0 s.heads_ := o0.keep fun b hb => hB1.block b (hS0 b hb)
  have p1 : ownL S1 W1 v1 s.descs_ := o1.keep fun b hb => hB1.block b (hS1 b hb)
  obtain ⟨r0, hb0⟩ := ownHeads.1 p0
  obtain ⟨va, vm, vc, rfl⟩ := owns_form3 r0
  obtain ⟨da, dc, rfl, -, -⟩ := ownL_len o1
  have R0 := hid r0
  have P1 := hid p1
  have HS0 := hid hS0
  have HS1 := hid hS1
  have Hn := hid hn
  have hkk : k ≤ 1125899906842624 := by have := hcnt.out; omega
  clear o0 o1 p0 p1 r0 hS0 hS1 hn
  go_enter Tryz.func28, Tryz.ntmps28
  go_wp2_with fail
  clear hW1
  refine (markHeadS_c 0 55 _ s.heads_.length _ k W1 hn0 h0 hkk R0.out).mono ?_
  rintro e w2 ⟨rfl, r2, g2⟩
  have hs2 := g2.size
  have hno : ∀ b, ¬ S0 b → ¬ (Value.slice va vm vc).ownBlock = some b := fun b hb e => hb (hb0 b e)
  have bx2 := bx.grown g2 (hno _ (fun e => by have := HS0.out _ e; omega))
  have l1 : w2.cell? ⟨w.heap.size, 1, none⟩ = some (Value.slice da s.descs_.length dc) := bx2.1.2 1 (by simp)
  have p2 : ownL S1 w2 (Value.slice da s.descs_.length dc) s.descs_ := P1.out.keep fun b hb => g2.block b (by have := HS1.out b hb; omega) fun e => hno b (fun e2 => hd b e2 hb) e.symm
  have c2 : ChgS (fun b => S0 b ∨ S1 b) w w2 := (ChgS.of_below hB1 _).trans (ChgS.of_grown g2 fun b hb => .inl (hb0 b hb))
  have P2 := hid p2
  have R2 := hid r2
  have hk3 : 0 ≤ k + 3 * (s.heads_.length : Int) := by omega
  have hk4 : k + 3 * (s.heads_.length : Int) + (cntDs s.descs_ : Int) ≤ 1125899906842624 := by have := hcnt.out; omega
  have hS1b : ∀ b, S1 b → b < w2.heap.size := fun b hb => by have := HS1.out b hb; omega
  clear p2 r2 g2 bx bx2 k0 k1
  go_wp2_with fail
  refine (markDescS_v S1 _ s.descs_ (k + 3 * s.heads_.length) w2 hS1b Hn.out hk3 hk4 P2.out).mono ?_
  rintro e w3 ⟨rfl, p3, c3⟩
  have P3 := hid p3
  have C3 := hid (c2.trans (c3.mono fun b hb => .inr hb))
  have R3 := hid (show ownL S0 w3 (Value.slice va vm vc) (markHs k s.heads_.length) from ownHeads.2 ⟨by
    rw [markHs_len, markHs_enc]
    exact owns_same R2.out fun b hb => c3.block b (by have := HS0.out b (hb0 b hb); omega) (hd b (hb0 b hb)), hb0⟩)
  clear p3 c3 hS1b hno
  go_wp2
  go_ret
  exact ⟨ret_int (by rw [hcnt.out]; omega), R3.out, P3.out, C3.out⟩
end Go.Proofs.YtbbdchlabdilcabGreat
namespace Go.Proofs.YtbbdchlabdilcabGreat
set_option maxRecDepth 100000
open Go.RowKit Go.Proofs Go.Own
set_option linter.unusedVariables false
set_option linter.unusedSimpArgs false
instance encInt : FlatEnc Int := flatEnc encI 1 3 (fun _ => rfl)
theorem rdsInts {w : World} {v : Value} {xs : List Int} : rdsL w v xs ↔ Ints w v xs := rds_flat
theorem ownInts {S : Nat → Prop} {w : World} {v : Value} {xs : List Int} : ownL S w v xs ↔ w.ownsRow 0 3 1 v xs.length (xs.flatMap encI) ∧ ∀ k, Blk v k → S k := own_flat
theorem ownI_of {w w' : World} {u : Value} {xs : List Int} (o : w'.ownsRow w.heap.size 3 1 u xs.length (xs.flatMap encI)) : ownL (Rg w.heap.size w'.heap.size) w' u xs := ownInts.2 ⟨owns_base o (fun _ _ => Nat.zero_le _), fun k hk => owns_in o k hk⟩
theorem szR_of (k n : Int) : szR k n = if k < n then -1 else k - n := rfl
-- a list of ints
def IntSB (xs : List Int) : Prop := xs.length ≤ 1048576
def szIntSD (xs : List Int) : Nat := xs.length
def cntIntS (xs : List Int) : Nat := xs.length
def markIntSD (xs : List Int) (k : Int) : List Int := (List.range xs.length).map fun i : Nat => k + (i : Int)
theorem markIs_enc (xs : List Int) (k : Int) : (markIntSD xs k).flatMap encI = markV markI xs.length k := by
  unfold markIntSD markV
  rw [encI_map, List.map_map]
  rfl
theorem markIs_len (xs : List Int) (k : Int) : (markIntSD xs k).length = xs.length := by simp [markIntSD]
theorem cntIntS_le {xs : List Int} (h : IntSB xs) : cntIntS xs ≤ 100000000 := by unfold IntSB at h; unfold cntIntS; omega
theorem toIntS_o (xs : List Int) (v : Value) (w : World) (r : rdsL w v xs) (hb : IntSB xs) :
    Calls Tryz.prog 19 #[v] w fun e w' => ∃ u : Value, ∃ S : Nat → Prop, e = .returned u ∧ ownL S w' u xs ∧ (∀ b, S b → Rg w.heap.size w'.heap.size b) ∧ Below w.heap.size w w' := by
  refine (toIntS_c v xs w hb (rdsInts.1 r)).mono ?_
  rintro e w' ⟨u, rfl, o, b⟩
  exact ⟨u, _, rfl, ownI_of o, fun _ h => h, b⟩
theorem eqIntS_o (xs : List Int) (v u : Value) (w : World) (r : rdsL w v xs) (g : rdsL w u xs) :
    Calls Tryz.prog 8 #[v, u] w fun e w' => e = .returned (.bool true) ∧ Below w.heap.size w w' := eqIntS_c v u xs w (rdsInts.1 r) (rdsInts.1 g)
theorem szIntS_o (xs : List Int) (v : Value) (k : Int) (w : World) (h0 : 0 ≤ k) (h1 : k ≤ 1048576) (r : rdsL w v xs) :
    Calls Tryz.prog 13 #[v, .int .i64 k] w fun e w' => e = .returned (.int .i64 (szR k (szIntSD xs))) ∧ Below w.heap.size w w' := by
  obtain ⟨a, cap, rfl, hl, hm⟩ := (rdsInts.1 r).form
  refine (szIntS_c a xs.length cap k w (by omega) h0 h1).mono ?_
  rintro e w' ⟨rfl, rfl⟩
  exact ⟨rfl, Below.refl _ _⟩
theorem markIntS_o (S : Nat → Prop) (xs : List Int) (v : Value) (k : Int) (w : World) (hS : ∀ b, S b → b < w.heap.size) (hb : IntSB xs) (h0 : 0 ≤ k) (h1 : k ≤ 1000000000000) (o : ownL S w v xs) :
    Calls Tryz.prog 11 #[v, .int .i64 k] w fun r w' => r = .returned (.int .i64 (k + cntIntS xs)) ∧ ownL S w' v (markIntSD xs k) ∧ ChgS S w w' := by
  obtain ⟨r, hbk⟩ := ownInts.1 o
  unfold IntSB at hb
  refine (markIntS_c 0 3 v xs.length _ k w (by omega) h0 (by omega) r).mono ?_
  rintro e w' ⟨rfl, r2, g2⟩
  exact ⟨rfl, ownInts.2 ⟨by rw [markIs_len, markIs_enc]; exact r2, hbk⟩, ChgS.of_grown g2 fun b e => hbk b e⟩
theorem heldIntS_o (xs : List Int) (v : Value) (k : Int) (w : World) (hb : IntSB xs) (h0 : 0 ≤ k) (h1 : k ≤ 1000000000000) (r : rdsL w v (markIntSD xs k)) :
    Calls Tryz.prog 12 #[v, .int .i64 k] w fun r w' => r = .returned (.int .i64 (k + cntIntS xs)) ∧ Below w.heap.size w w' := by
  unfold IntSB at hb
  have h := rdsInts.1 r
  unfold Ints at h
  rw [markIs_len, markIs_enc] at h
  exact heldIntS_c v xs.length k w (by omega) h0 (by omega) h
-- a descriptor
def DescB (d : DescD) : Prop := d.entries_.length ≤ 1048576
def szDescD (d : DescD) : Nat := d.entries_.length
def cntDesc (d : DescD) : Nat := 5 * d.entries_.length
def markDescD (d : DescD) (k : Int) : DescD := ⟨d.owner_, d.status_, markEs k d.entries_.length⟩
theorem cntDesc_le {d : DescD} (h : DescB d) : cntDesc d ≤ 100000000 := by unfold DescB at h; unfold cntDesc; omega
theorem toDesc_o (d : DescD) (v2 : Value) (w : World) (r2 : rdsL w v2 d.entries_) (hb : DescB d) :
    Calls Tryz.prog 76 #[.agg #[.int .i64 d.owner_, .int .i64 d.status_, v2]] w fun e w' => ∃ u2 : Value, ∃ S2 : Nat → Prop, e = .returned (.agg #[.int .i64 d.owner_, .int .i64 d.status_, u2]) ∧ ownL S2 w' u2 d.entries_ ∧ (∀ b, S2 b → Rg w.heap.size w'.heap.size b) ∧ Below w.heap.size w w' := by
  refine (toDesc_v d v2 w r2 hb).mono ?_
  rintro e w' ⟨u, rfl, o, b⟩
  exact ⟨u, _, rfl, o, fun _ h => h, b⟩
theorem eqDesc_o (d : DescD) (v2 u2 : Value) (w : World) (r2 : rdsL w v2 d.entries_) (g2 : rdsL w u2 d.entries_) :
    Calls Tryz.prog 93 #[.agg #[.int .i64 d.owner_, .int .i64 d.status_, v2], .agg #[.int .i64 d.owner_, .int .i64 d.status_, u2]] w fun e w' => e = .returned (.bool true) ∧ Below w.heap.size w w' := eqDesc_v d v2 u2 w r2 g2
theorem szDesc_o (d : DescD) (v2 : Value) (k : Int) (w : World) (h0 : 0 ≤ k) (h1 : k ≤ 1048576) (r2 : rdsL w v2 d.entries_) :
    Calls Tryz.prog 62 #[.agg #[.int .i64 d.owner_, .int .i64 d.status_, v2], .int .i64 k] w fun e w' => e = .returned (.int .i64 (szR k (szDescD d))) ∧ Below w.heap.size w w' := by
  obtain ⟨a, cap, rfl, hl, hm⟩ := (rdsEntrys.1 r2).form
  refine (szDesc_c _ _ a d.entries_.length cap k w (by omega) h0 h1).mono ?_
  rintro e w' ⟨rfl, b⟩
  exact ⟨rfl, b⟩
-- a store
def StoreB (s : StoreD) : Prop := s.heads_.length + szD s.descs_ ≤ 1048576
def szStoreD (s : StoreD) : Nat := s.heads_.length + szD s.descs_
theorem storeB_parts {s : StoreD} (h : StoreB s) : s.heads_.length ≤ 1048576 ∧ s.descs_.length ≤ 1048576 ∧ (∀ i, (hi : i < s.descs_.length) → s.descs_[i].entries_.length ≤ 1048576) ∧ eSum s.descs_ ≤ 1048576 := by
  unfold StoreB szD at h
  refine ⟨by omega, by omega, fun i hi => ?_, by omega⟩
  have := eSum_at s.descs_ i hi
  omega
theorem cntDs_eq (xs : List DescD) : cntDs xs = 2 * xs.length + 5 * eSum xs := by
  induction xs with
  | nil => rfl
  | cons d ds ih =>
    unfold cntDs eSum at ih ⊢
    simp only [List.map_cons, List.sum_cons, List.length_cons, ih]
    unfold cntD
    omega
theorem cntS_le {s : StoreD} (h : StoreB s) : cntS s ≤ 100000000 := by
  unfold StoreB szD at h
  unfold cntS
  rw [cntDs_eq]
  omega
theorem toStore_o (s : StoreD) (v0 v1 : Value) (w : World) (r0 : rdsL w v0 s.heads_) (r1 : rdsL w v1 s.descs_) (hb : StoreB s) :
    Calls Tryz.prog 20 #[.agg #[v0, v1]] w fun e w' => ∃ u0 u1 : Value, ∃ S0 S1 : Nat → Prop, e = .returned (.agg #[u0, u1]) ∧ ownL S0 w' u0 s.heads_ ∧ ownL S1 w' u1 s.descs_ ∧ (∀ k, S0 k → Rg w.heap.size w'.heap.size k) ∧ (∀ k, S1 k → Rg w.heap.size w'.heap.size k) ∧ (∀ k, S0 k → ¬ S1 k) ∧ Below w.heap.size w w' := by
  obtain ⟨h0, h1, h2, _⟩ := storeB_parts hb
  exact toStore_v s v0 v1 w h0 h1 h2 r0 r1
theorem eqStore_o (s : StoreD) (v0 v1 u0 u1 : Value) (w : World) (r0 : rdsL w v0 s.heads_) (r1 : rdsL w v1 s.descs_) (g0 : rdsL w u0 s.heads_) (g1 : rdsL w u1 s.descs_) :
    Calls Tryz.prog 25 #[.agg #[v0, v1], .agg #[u0, u1]] w fun e w' => e = .returned (.bool true) ∧ Below w.heap.size w w' := eqStore_v s v0 v1 u0 u1 w r0 r1 g0 g1
theorem szStore_o (s : StoreD) (v0 v1 : Value) (k : Int) (w : World) (h0 : 0 ≤ k) (h1 : k ≤ 1048576) (r0 : rdsL w v0 s.heads_) (r1 : rdsL w v1 s.descs_) :
    Calls Tryz.prog 14 #[.agg #[v0, v1], .int .i64 k] w fun e w' => e = .returned (.int .i64 (szR k (szStoreD s))) ∧ Below w.heap.size w w' := by
  refine (szStore_v s v0 v1 k w h0 h1 r0 r1).mono ?_
  rintro e w' ⟨rfl, b⟩
  exact ⟨by unfold szStoreD; exact ret_int (by rw [Int.natCast_add]), b⟩
theorem markStore_o (S0 S1 : Nat → Prop) (s : StoreD) (v0 v1 : Value) (k : Int) (w : World) (hS0 : ∀ b, S0 b → b < w.heap.size) (hS1 : ∀ b, S1 b → b < w.heap.size) (hd : ∀ b, S0 b → ¬ S1 b) (hb : StoreB s) (h0 : 0 ≤ k) (h1 : k ≤ 1000000000000) (o0 : ownL S0 w v0 s.heads_) (o1 : ownL S1 w v1 s.descs_) :
    Calls Tryz.prog 28 #[.agg #[v0, v1], .int .i64 k] w fun r w' => r = .returned (.int .i64 (k + cntS s)) ∧ ownL S0 w' v0 (markS s k).heads_ ∧ ownL S1 w' v1 (markS s k).descs_ ∧ ChgS (fun b => S0 b ∨ S1 b) w w' := by
  obtain ⟨h2, h3, h4, _⟩ := storeB_parts hb
  have := cntS_le hb
  exact markStore_v S0 S1 s v0 v1 k w hS0 hS1 hd (by omega) (fun i hi => by have := h4 i hi; omega) h0 (by omega) o0 o1
def markStoreD (s : StoreD) (k : Int) : StoreD := markS s k
def cntStore (s : StoreD) : Nat := cntS s
theorem cntStore_le {s : StoreD} (h : StoreB s) : cntStore s ≤ 100000000 := cntS_le h
end Go.Proofs.YtbbdchlabdilcabGreat
