/- Chapter 7's model: a store copied. -/
import Derived.Test.YtbbdchlabdilcabGreatS7
import Derived.Test.YtbbdchlabdilcabGreatM3
namespace Go.Proofs.YtbbdchlabdilcabGreat
set_option maxRecDepth 100000
open Go.RowKit Go.Proofs Go.Own
set_option linter.unusedVariables false
set_option linter.unusedSimpArgs false
theorem oneCell_H (xs : List Head) : ∀ c ∈ xs.flatMap Head.enc, c.oneCell' = true := oneCell_enc (f := Head.enc) (by intro x c hc; simp [Head.enc] at hc; rcases hc with rfl | rfl | rfl <;> rfl) xs
theorem take_snoc {α : Type} (xs : List α) (k : Nat) (h : k < xs.length) : xs.take k ++ [xs[k]] = xs.take (k+1) := by rw [List.take_append_getElem h]
set_option maxHeartbeats 8000000 in
theorem spec_l7Copy0 (hs : List Head) (ds : List DescD) (v0 v1 : Value) (w : World) (hx0 : hs.length ≤ 1048576) (hx1 : ds.length ≤ 1048576) (hx2 : ∀ i, (h : i < ds.length) → ds[i].entries_.length ≤ 1048576) (h0 : rdsL w v0 hs) (h1 : rdsL w v1 ds) :
    Calls Tryz.prog 39 #[.agg #[v0, v1]] w fun e w' => ∃ u0 u1 : Value, ∃ S0 S1 : Nat → Prop, e = .returned (.agg #[u0, u1]) ∧ ownL S0 w' u0 hs ∧ ownL S1 w' u1 ds ∧ (∀ k, S0 k → Rg w.heap.size w'.heap.size k) ∧ (∀ k, S1 k → Rg w.heap.size w'.heap.size k) ∧ (∀ k, S0 k → ¬ S1 k) ∧ Below w.heap.size w w' := by
  obtain ⟨i0, hi, hz0, hz1, hz2⟩ := info_parts infoHead
  obtain ⟨j0, hj, hy0, hy1, hy2⟩ := info_parts infoDesc
  have hone := hid (oneCell_H hs)
  obtain ⟨a0, cap0, rfl, hl0, hm0⟩ := (rdsHeads.1 h0).form
  obtain ⟨a1, cap1, rfl, hl1, hm1, hc1⟩ := rdsL_open h1
  have H0 := hid h0
  have DC := hid hc1
  have HX := hid hx2
  clear h0 h1 hc1 hx2
  have hlen1 : ds.length ≤ 9223372036854775807 := by omega
  obtain ⟨W1, hW1⟩ : ∃ X, ((w.alloc (.cells #[Value.slice a0 hs.length cap0, Value.slice a1 ds.length cap1] 37)).alloc (.cells #[Value.slice none 0 0, Value.slice none 0 0] 37)).alloc (.cells #[] 55) = X := ⟨_, rfl⟩
  have hB1 : Below w.heap.size w W1 := by rw [← hW1]; exact (((Below.refl _ _).alloc (Nat.le_refl _) _).alloc (by simp) _).alloc (by simp; omega) _
  have hN : W1.heap.size = w.heap.size + 3 := by rw [← hW1]; simp
  have bp : BoxF W1 w.heap.size [Value.slice a0 hs.length cap0, Value.slice a1 ds.length cap1] := by
    rw [← hW1]
    exact ((BoxF.alloc w #[Value.slice a0 hs.length cap0, Value.slice a1 ds.length cap1] 37).below ((Below.refl _ _).alloc (Nat.le_refl _) _)).below ((Below.refl _ _).alloc (Nat.le_refl _) _)
  have br : BoxF W1 (w.heap.size + 1) [Value.slice none 0 0, Value.slice none 0 0] := by
    rw [← hW1]
    have h1 := BoxF.alloc (w.alloc (.cells #[Value.slice a0 hs.length cap0, Value.slice a1 ds.length cap1] 37)) #[Value.slice none 0 0, Value.slice none 0 0] 37
    rw [show (w.alloc (.cells #[Value.slice a0 hs.length cap0, Value.slice a1 ds.length cap1] 37)).heap.size = w.heap.size + 1 by simp] at h1
    exact h1.below ((Below.refl _ _).alloc (Nat.le_refl _) _)
  have hown : W1.ownsRow (w.heap.size + 1 + 1) 55 3 (.slice (some ⟨w.heap.size + 1 + 1, 0, none⟩) 0 0) 0 [] := by
    rw [← hW1]
    have h1 := owns_litN ((w.alloc (.cells #[Value.slice a0 hs.length cap0, Value.slice a1 ds.length cap1] 37)).alloc (.cells #[Value.slice none 0 0, Value.slice none 0 0] 37)) 55 3 0 #[] (w.heap.size + 1 + 1) (by simp) rfl (Nat.zero_le _)
    rw [show ((w.alloc (.cells #[Value.slice a0 hs.length cap0, Value.slice a1 ds.length cap1] 37)).alloc (.cells #[Value.slice none 0 0, Value.slice none 0 0] 37)).heap.size = w.heap.size + 1 + 1 by simp] at h1
    exact h1
  have h2 := rdsHeads.1 (rdsL.below H0.out hB1)
  have k0 : W1.cell? ⟨w.heap.size, 0, none⟩ = some (Value.slice a0 hs.length cap0) := bp.1.2 0 (by simp)
  go_enter Tryz.func39, Tryz.ntmps39
  go_wp2_with (at_builtin; refine wpList_append_flat rfl _ _ 34 rfl (w.heap.size + 1 + 1) 55 i0 (.agg #[.int .i64 0, .int .i64 0, .int .i64 0]) 3 24 Tryz.underlying34 hi hz0 hz1 hz2 rfl (by decide) _ _ _ rfl hown _ _ _ rfl h2 hone.out (by unfold maxLen; omega) (by omega) (by omega) ?_)
  intro v' w1 ho hg
  replace ho : w1.ownsRow (w.heap.size + 1 + 1) 55 3 v' hs.length (hs.flatMap Head.enc) := by simpa using ho
  obtain ⟨ua, um, uc, rfl⟩ := owns_form3 ho
  have hs1 := hg.size
  have hB2 : Below w.heap.size w w1 := hB1.trans (below_of_mark hown hg (by omega) (by omega))
  have bp1 : BoxF w1 w.heap.size _ := bp.grown hg (fun e => by have h9 : w.heap.size + 1 + 1 = w.heap.size := Option.some.inj e; omega)
  have br1 : BoxF w1 (w.heap.size + 1) _ := br.grown hg (fun e => by have h9 : w.heap.size + 1 + 1 = w.heap.size + 1 := Option.some.inj e; omega)
  have o1 : ownL (Rg (w.heap.size + 1 + 1) w1.heap.size) w1 (Value.slice ua um uc) hs := ownHeads.2 ⟨owns_base ho (fun _ _ => Nat.zero_le _), fun k hk => owns_in ho k hk⟩
  obtain ⟨W2, hW2⟩ : ∃ X, w1.alloc (.cells #[Value.slice ua um uc, Value.slice none 0 0] 37) = X := ⟨_, rfl⟩
  have hs2 : W2.heap.size = w1.heap.size + 1 := by rw [← hW2]; simp
  have b12 : Below w1.heap.size w1 W2 := by rw [← hW2]; exact (Below.refl _ _).alloc (Nat.le_refl _) _
  have hB3 := hid (hB2.trans (b12.mono (by omega)))
  have bp2 := hid (bp1.below b12)
  have br2 := hid (br1.below b12)
  have bo2 : Hid (BoxF W2 w1.heap.size [Value.slice ua um uc, Value.slice none 0 0]) := by rw [← hW2]; exact hid (BoxF.alloc w1 #[Value.slice ua um uc, Value.slice none 0 0] 37)
  have o2 := hid (o1.keep (keep_rg b12 (Nat.le_refl _)))
  clear bp bp1 br br1 o1 ho hg hown k0 hB2 h2 hW1
  have HW2 := hid hW2
  clear hW2
  go_wp2
  rw [HW2.out]
  have hM : w.heap.size + 3 ≤ w1.heap.size := by omega
  obtain ⟨M, hMe⟩ : ∃ M, w1.heap.size = M := ⟨_, rfl⟩
  rw [hMe] at hM hs2 bo2 o2 ⊢
  clear hMe b12 HW2 hs1 hN hB1
  clear w1 W1
  go_loopw [4] (fun i wr => ∃ (k : Nat) (da : Option Addr) (dm dc : Nat), k ≤ ds.length ∧ i = .int .i64 k ∧ Below w.heap.size w wr ∧ M + 1 ≤ wr.heap.size ∧ Hid (BoxF wr w.heap.size [Value.slice a0 hs.length cap0, Value.slice a1 ds.length cap1]) ∧ Hid (BoxF wr (w.heap.size + 1) [Value.slice none 0 0, Value.slice none 0 0]) ∧ Hid (BoxF wr M [Value.slice ua um uc, Value.slice da dm dc]) ∧ Hid (ownL (Rg (w.heap.size + 1 + 1) M) wr (Value.slice ua um uc) hs) ∧ Hid (ownL (Rg (M + 1) wr.heap.size) wr (Value.slice da dm dc) (ds.take k))) (fun i _ => ds.length - (intOf i).toNat)
  case atStart => exact ⟨0, none, 0, 0, by omega, rfl, hB3.out, by omega, bp2, br2, bo2, o2, hid (ownL_nil _ _)⟩
  case round =>
    clear bp2 br2 bo2 o2 hB3 hs2
    clear W2
    obtain ⟨k, da, dm, dc, hk, rfl, hB, hMr, BP, BR, BO, OH, OD⟩ := hrel
    have q1 : wr.cell? ⟨w.heap.size, 1, none⟩ = some (Value.slice a1 ds.length cap1) := BP.out.1.2 1 (by simp)
    by_cases hlt : k < ds.length
    · obtain ⟨bb, off, cs, rfl, hbs, ⟨v2, rfl, h2⟩, hcell⟩ := DC.out k hlt
      have c0 : w.cell? ⟨bb, off + k * 3, none⟩ = some (.int .i64 ds[k].owner_) := hcell 0 (show 0 < 3 by omega)
      have c1 : w.cell? ⟨bb, off + k * 3 + 1, none⟩ = some (.int .i64 ds[k].status_) := hcell 1 (show 1 < 3 by omega)
      have c2 : w.cell? ⟨bb, off + k * 3 + 2, none⟩ = some v2 := hcell 2 (show 2 < 3 by omega)
      have e0 := (hB.cell (p := ⟨bb, off + k * 3, none⟩) hbs).trans c0
      have e1 := (hB.cell (p := ⟨bb, off + k * 3 + 1, none⟩) hbs).trans c1
      have e2 := (hB.cell (p := ⟨bb, off + k * 3 + 2, none⟩) hbs).trans c2
      obtain ⟨ea, ecap, rfl, -, -⟩ := (rdsEntrys.1 h2).form
      have HE := hid (rdsEntrys.1 h2)
      have hxk := hid (HX.out k hlt)
      have hts := hid (take_snoc ds k hlt)
      generalize hD : ds[k] = D at *
      have HD := hid hD
      clear c0 c1 c2 hcell DC h2 hD
      obtain ⟨V, hV⟩ : ∃ X, wr.alloc (.cells #[.int .i64 D.owner_, .int .i64 D.status_, Value.slice ea D.entries_.length ecap] 85) = X := ⟨_, rfl⟩
      have hBV : Below wr.heap.size wr V := by rw [← hV]; exact (Below.refl _ _).alloc (Nat.le_refl _) _
      have hsV : V.heap.size = wr.heap.size + 1 := by rw [← hV]; simp
      have BD : BoxF V wr.heap.size [.int .i64 D.owner_, .int .i64 D.status_, Value.slice ea D.entries_.length ecap] := by rw [← hV]; exact BoxF.alloc wr #[.int .i64 D.owner_, .int .i64 D.status_, Value.slice ea D.entries_.length ecap] 85
      have HY := hid (Entrys.below (Entrys.below HE.out hB) hBV)
      have n2 : V.cell? ⟨wr.heap.size, 2, none⟩ = some (Value.slice ea D.entries_.length ecap) := BD.1.2 2 (by simp)
      have HV := hid hV
      clear hV
      go_wp2_with fail
      rw [HV.out]
      refine (spec_l6Copy _ D.entries_ _ HY.out hxk.out).mono ?_
      rintro e w5 ⟨u, rfl, o5, b5⟩
      obtain ⟨xa, xm, xc, rfl⟩ := owns_form3 o5
      have hs5 := b5.size
      have hB5 : Below w.heap.size w w5 := (hB.trans (hBV.mono hB.size)).trans (b5.mono (by have := hB.size; omega))
      have hWm : w.heap.size + 3 ≤ wr.heap.size := by omega
      obtain ⟨W6, hW6⟩ : ∃ X, w5.setCell ⟨wr.heap.size, 2, none⟩ (Value.slice xa xm xc) = X := ⟨_, rfl⟩
      have hs6 : W6.heap.size = w5.heap.size := by rw [← hW6]; simp [World.setCell]
      have hB6 : Below w.heap.size w W6 := by rw [← hW6]; exact hB5.setCell (show w.heap.size ≤ wr.heap.size by omega) _
      have BD5 := BD.below b5
      have BD6 : BoxF W6 wr.heap.size [.int .i64 D.owner_, .int .i64 D.status_, Value.slice xa xm xc] := by rw [← hW6]; exact BD5.set 2 (by simp) _
      have BP6 := ((BP.out.below hBV).below b5).other ⟨wr.heap.size, 2, none⟩ (Value.slice xa xm xc) (by show wr.heap.size ≠ w.heap.size; omega); rw [hW6] at BP6
      have BR6 := ((BR.out.below hBV).below b5).other ⟨wr.heap.size, 2, none⟩ (Value.slice xa xm xc) (by show wr.heap.size ≠ w.heap.size + 1; omega); rw [hW6] at BR6
      have BO6 := ((BO.out.below hBV).below b5).other ⟨wr.heap.size, 2, none⟩ (Value.slice xa xm xc) (by show wr.heap.size ≠ M; omega); rw [hW6] at BO6
      have k6 : ∀ b, b < wr.heap.size → W6.heap[b]? = wr.heap[b]? := fun b hb => by
        rw [← hW6, heap_setCell_other _ _ b _ (by show b ≠ wr.heap.size; omega), b5.block b (by omega), hBV.block b hb]
      have OH6 := OH.out.keep (w' := W6) fun b hb => k6 b (by have := hb.2; omega)
      have OD6 := OD.out.keep (w' := W6) fun b hb => k6 b hb.2
      have OE6 : ownL (Rg V.heap.size w5.heap.size) W6 (Value.slice xa xm xc) D.entries_ := (ownE_of o5).keep fun b hb => by
        rw [← hW6, heap_setCell_other _ _ b _ (by have := hb.1; show b ≠ wr.heap.size; omega)]
      obtain ⟨W7, hW7⟩ : ∃ X, W6.alloc (.cells #[.int .i64 D.owner_, .int .i64 D.status_, Value.slice xa xm xc] 85) = X := ⟨_, rfl⟩
      have b67 : Below W6.heap.size W6 W7 := by rw [← hW7]; exact (Below.refl _ _).alloc (Nat.le_refl _) _
      have hs7 : W7.heap.size = W6.heap.size + 1 := by rw [← hW7]; simp
      have hl7 : Flat W7 (.slice (some ⟨W6.heap.size, 0, none⟩) 1 1) 1 3 [.int .i64 D.owner_, .int .i64 D.status_, Value.slice xa xm xc] := by rw [← hW7]; exact Flat.of_owns (owns_litN W6 85 3 1 #[.int .i64 D.owner_, .int .i64 D.status_, Value.slice xa xm xc] 0 (Nat.zero_le _) rfl (by decide))
      have hone7 : ∀ c ∈ [Value.int .i64 D.owner_, .int .i64 D.status_, Value.slice xa xm xc], c.oneCell' = true := by intro c hc; simp at hc; rcases hc with rfl | rfl | rfl <;> rfl
      obtain ⟨css, hown7, hblk, hsn⟩ := ownL_snoc (OD6.keep fun b hb => b67.block b (by have := hb.2; omega))
      obtain ⟨ja, jc, je, -, -⟩ := ownL_len OD6
      have hdm : dm = k := by have h9 := congrArg (fun v => match v with | Value.slice _ n _ => n | _ => 0) je; simpa [List.length_take, Nat.min_eq_left hk] using h9
      replace hdm := hdm.symm; subst hdm
      rw [hs6] at hl7 hs7
      have htl : (ds.take k).length = k := by simp [List.length_take, Nat.min_eq_left hk]
      rw [htl] at hown7 hsn
      have hdn : (Value.slice da k dc).ownBlock ≠ some M := fun e => by have := (hblk M e).1; omega
      have g61 : W6.cell? ⟨M, 1, none⟩ = some (Value.slice da k dc) := BO6.1.2 1 (by simp)
      have gd0 : W6.cell? ⟨wr.heap.size, 0, none⟩ = some (.int .i64 D.owner_) := BD6.1.2 0 (by simp)
      have gd1 : W6.cell? ⟨wr.heap.size, 1, none⟩ = some (.int .i64 D.status_) := BD6.1.2 1 (by simp)
      have gd2 : W6.cell? ⟨wr.heap.size, 2, none⟩ = some (Value.slice xa xm xc) := BD6.1.2 2 (by simp)
      have g52 : w5.cell? ⟨wr.heap.size, 2, none⟩ = some _ := BD5.1.2 2 (by simp)
      have g53 : w5.frozen? ⟨wr.heap.size, 2, none⟩ = false := BD5.2 2 (by simp)
      have BP7 := hid (BP6.below b67)
      have BR7 := hid (BR6.below b67)
      have BO7 := hid (BO6.below b67)
      have OH7 := hid (OH6.keep (w' := W7) fun b hb => b67.block b (by have := hb.2; omega))
      have OE7 := hid (OE6.keep (w' := W7) fun b hb => b67.block b (by have := hb.2; omega))
      have hB7 := hid (hB6.trans (b67.mono hB6.size))
      have HBlk := hid hblk
      have HSN := hid hsn
      clear hsn hblk je OD6 OH6 OE6 BP6 BR6 BO6 BD6 BD5 BD BP BR BO OH OD k6 o5 b5 b67 hB5 hB6 hBV n2 q1 HY HE
      go_wp2_with (at_builtin; refine wpList_append_at rfl _ _ 35 rfl 0 85 j0 (.agg #[.int .i64 0, .int .i64 0, .slice none 0 0]) 3 40 Tryz.underlying35 hj hy0 hy1 hy2 rfl (by decide) _ _ _ rfl hown7 _ _ _ rfl hl7 (by decide) hone7 (by unfold maxLen; omega) (by omega) (by omega) ?_)
      intro v8 w8 o8 g8 p8
      obtain ⟨ya, ym, yc, rfl⟩ := owns_form3 o8
      have hs8 := g8.size
      have hB8 : Below w.heap.size w w8 := hB7.out.trans (below_grown g8 hB7.out.size fun b e => by have := (HBlk.out b e).1; omega)
      have BP8 := BP7.out.grown g8 (fun e => by have := (HBlk.out _ e).1; omega)
      have BR8 := BR7.out.grown g8 (fun e => by have := (HBlk.out _ e).1; omega)
      have BO8 := BO7.out.grown g8 (fun e => by have := (HBlk.out _ e).1; omega)
      have OH8 := OH7.out.keep (w' := w8) fun b hb => g8.block b (by have := hb.2; omega) (fun e => by have := (HBlk.out b e.symm).1; have := hb.2; omega)
      have OE8 := OE7.out.keep (w' := w8) fun b hb => g8.block b (by have := hb.2; omega) (fun e => by have := (HBlk.out b e.symm).2; have := hb.1; omega)
      have P8 : ∀ b, Blk (Value.slice ya ym yc) b → Rg (M + 1) wr.heap.size b ∨ b = w5.heap.size + 1 := fun b hb => (p8 b hb).imp (HBlk.out b) id
      have OD8 := HSN.out w8 (Value.slice ya ym yc) _ D (Rg V.heap.size w5.heap.size) o8 (fun b hb => (p8 b hb).imp id fun e h => by have := h.2; omega) (fun b hb hn => g8.block b (by have := hb.2; omega) (fun e => hn e.symm)) ⟨_, rfl, OE8⟩
        (fun b hb => ⟨fun h => by have := h.2; have := hb.1; omega, fun h => (P8 b h).elim (fun h9 => by have := h9.2; have := hb.1; omega) (fun h9 => by have := hb.2; omega)⟩)
      rw [hts.out] at OD8
      obtain ⟨W9, hW9⟩ : ∃ X, w8.setCell ⟨M, 1, none⟩ (Value.slice ya ym yc) = X := ⟨_, rfl⟩
      have hs9 : W9.heap.size = w8.heap.size := by rw [← hW9]; simp [World.setCell]
      have k9 : ∀ b, b ≠ M → W9.heap[b]? = w8.heap[b]? := fun b hb => by rw [← hW9, heap_setCell_other _ _ b _ (by show b ≠ M; exact hb)]
      have BP9 := BP8.other ⟨M, 1, none⟩ (Value.slice ya ym yc) (by show M ≠ w.heap.size; omega)
      have BR9 := BR8.other ⟨M, 1, none⟩ (Value.slice ya ym yc) (by show M ≠ w.heap.size + 1; omega)
      have BO9 := BO8.set 1 (by simp) (Value.slice ya ym yc)
      rw [hW9] at BP9 BR9 BO9
      have OH9 := hid (OH8.keep (w' := W9) fun b hb => k9 b (by have := hb.2; omega))
      have OD9 := hid ((OD8.keep (w' := W9) fun b hb => k9 b (hb.elim (fun h => by have := h.1; omega) fun h => h.elim (fun h => by have := h.1; omega) fun h => (P8 b h).elim (fun h9 => by have := h9.1; omega) fun h9 => by omega)).mono (T := Rg (M + 1) W9.heap.size) fun b hb => by
        rcases hb with h | h | h
        · exact ⟨h.1, by have := h.2; omega⟩
        · exact ⟨by have := h.1; omega, by have := h.2; omega⟩
        · exact ⟨(P8 b h).elim (fun h9 => h9.1) (fun h9 => by omega), by have := (owns_in o8 b h).2; omega⟩)
      have hB9 := hid (show Below w.heap.size w W9 by rw [← hW9]; exact hB8.setCell (show w.heap.size ≤ M by omega) _)
      have HBP := hid BP9
      have HBR := hid BR9
      have HBO := hid BO9
      have HW9 := hid hW9
      have n1 : w8.cell? ⟨M, 1, none⟩ = some (Value.slice da k dc) := BO8.1.2 1 (by simp)
      have n2 : w8.frozen? ⟨M, 1, none⟩ = false := BO8.2 1 (by simp)
      have hM9 : M + 1 ≤ W9.heap.size := by omega
      clear hW9 BP9 BR9 BO9 BP8 BR8 BO8 OH8 OE8 OD8 k9 BP7 BR7 BO7 OH7 OE7 hB7 hB8 HSN HBlk g8 o8 p8 P8 hown7 g61 gd0 gd1 gd2 g52 g53 hone7 hl7
      go_wp2
      rw [HW9.out]
      go_roundw
      case rel => exact ⟨k+1, _, _, _, by omega, by go_num, hB9.out, hM9, HBP, HBR, HBO, OH9, OD9⟩
      case measure => simp [intOf]; omega
    · obtain rfl : k = ds.length := by omega
      have O4 : Hid (ownL (Rg (M + 1) wr.heap.size) wr (Value.slice da dm dc) ds) := hid (by have h9 := OD.out; rw [List.take_length] at h9; exact h9)
      have m0 : wr.cell? ⟨M, 0, none⟩ = some (Value.slice ua um uc) := BO.out.1.2 0 (by simp)
      have m1 : wr.cell? ⟨M, 1, none⟩ = some (Value.slice da dm dc) := BO.out.1.2 1 (by simp)
      have m3 : wr.cell? ⟨w.heap.size + 1, 0, none⟩ = some (Value.slice none 0 0) := BR.out.1.2 0 (by simp)
      have m4 : wr.cell? ⟨w.heap.size + 1, 1, none⟩ = some (Value.slice none 0 0) := BR.out.1.2 1 (by simp)
      have m5 : wr.frozen? ⟨w.heap.size + 1, 0, none⟩ = false := BR.out.2 0 (by simp)
      have m6 : wr.frozen? ⟨w.heap.size + 1, 1, none⟩ = false := BR.out.2 1 (by simp)
      clear OD BP BR BO DC
      go_wp2
      refine bodyPost_ret (v := .agg #[Value.slice ua um uc, Value.slice da dm dc]) ?_ rfl ⟨_, _, Rg (w.heap.size + 1 + 1) M, Rg (M + 1) wr.heap.size, rfl, ?_, ?_, ?_, ?_, ?_, ?_⟩
      · simp [results, Tryz.results39, go_sem, m0, m1, m3, m4, m5, m6]
      · refine OH.out.keep fun b hb => ?_
        have h1 := hb.1
        rw [heap_setCell_other _ _ b _ (by show b ≠ w.heap.size + 1; omega), heap_setCell_other _ _ b _ (by show b ≠ w.heap.size + 1; omega)]
      · refine O4.out.keep fun b hb => ?_
        have h1 := hb.1
        rw [heap_setCell_other _ _ b _ (by show b ≠ w.heap.size + 1; omega), heap_setCell_other _ _ b _ (by show b ≠ w.heap.size + 1; omega)]
      · rintro b ⟨h1, h2⟩
        exact ⟨by omega, by simp [World.setCell]; omega⟩
      · rintro b ⟨h1, h2⟩
        exact ⟨by omega, by simpa [World.setCell] using h2⟩
      · rintro b ⟨h1, h2⟩ ⟨h3, h4⟩
        omega
      · exact (hB.setCell (by show w.heap.size ≤ w.heap.size + 1; omega) _).setCell (by show w.heap.size ≤ w.heap.size + 1; omega) _
end Go.Proofs.YtbbdchlabdilcabGreat
