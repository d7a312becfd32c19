/- Chapter 7's program: a store copied. -/
import Derived.Test.YtbbdchlabdilcabGreatI7c
import Derived.Test.YtbbdchlabdilcabGreatM4
import Derived.Test.YtbbdchlabdilcabGreatM2
/- Chapter 7's program: descriptors and stores copied. -/
namespace Go.Proofs.YtbbdchlabdilcabGreat
set_option maxRecDepth 100000
open Go.RowKit Go.Proofs Go.Own
set_option linter.unusedVariables false
set_option linter.unusedSimpArgs false
theorem oneCells_E7 (xs : List Entry) : ∀ c ∈ xs.flatMap Entry.enc, c.oneCell' = true := oneCell_enc oneCell_E xs
set_option maxHeartbeats 4000000 in
theorem impl_copyDesc (d : DescD) (v2 : Value) (w : World) (h2 : rdsL w v2 d.entries_) (hx : d.entries_.length ≤ 1048576) :
    Calls Tryz.prog 89 #[.agg #[.int .i64 d.owner_, .int .i64 d.status_, v2]] w fun e w' => ∃ u, e = .returned (.agg #[.int .i64 d.owner_, .int .i64 d.status_, u]) ∧ ownL (Rg w.heap.size w'.heap.size) w' u d.entries_ ∧ Below w.heap.size w w' := by
  obtain ⟨i0, hi, hz0, hz1, hz2⟩ := info_parts infoEntry
  have hone := hid (oneCells_E7 d.entries_)
  have H2 := hid (rdsEntrys.1 h2)
  obtain ⟨a2, cap2, rfl, hl2, hm2⟩ := (rdsEntrys.1 h2).form
  clear h2
  have hlen2 : d.entries_.length ≤ 9223372036854775807 := by omega
  obtain ⟨W1, hW1⟩ : ∃ X, (w.alloc (.cells #[.int .i64 d.owner_, .int .i64 d.status_, Value.slice a2 d.entries_.length cap2] 85)).alloc (.cells #[.int .i64 0, .int .i64 0, Value.slice none 0 0] 85) = X := ⟨_, rfl⟩
  have hB1 : Below w.heap.size w W1 := by rw [← hW1]; exact ((Below.refl _ _).alloc (Nat.le_refl _) _).alloc (by simp) _
  have hN : W1.heap.size = w.heap.size + 2 := by rw [← hW1]; simp
  have bd : BoxF W1 w.heap.size [.int .i64 d.owner_, .int .i64 d.status_, Value.slice a2 d.entries_.length cap2] := by
    rw [← hW1]
    exact (BoxF.alloc w #[.int .i64 d.owner_, .int .i64 d.status_, Value.slice a2 d.entries_.length cap2] 85).below ((Below.refl _ _).alloc (Nat.le_refl _) _)
  have br : BoxF W1 (w.heap.size + 1) [.int .i64 0, .int .i64 0, Value.slice none 0 0] := by
    rw [← hW1]
    have h1 := BoxF.alloc (w.alloc (.cells #[.int .i64 d.owner_, .int .i64 d.status_, Value.slice a2 d.entries_.length cap2] 85)) #[.int .i64 0, .int .i64 0, Value.slice none 0 0] 85
    rw [show (w.alloc (.cells #[.int .i64 d.owner_, .int .i64 d.status_, Value.slice a2 d.entries_.length cap2] 85)).heap.size = w.heap.size + 1 by simp] at h1
    exact h1
  have k2 : W1.cell? ⟨w.heap.size, 2, none⟩ = some (Value.slice a2 d.entries_.length cap2) := bd.1.2 2 (by simp)
  have HE := hid (Entrys.below H2.out hB1)
  have BD := hid bd
  have BR := hid br
  have HW1 := hid hW1
  clear hW1 bd br
  go_enter Tryz.func89, Tryz.ntmps89
  go_wp2_with (at_builtin; rw [HW1.out]; refine wpList_append_flat rfl _ _ 79 rfl (w.heap.size + 2) 121 i0 (.agg #[.int .i64 0, .int .i64 0, .int .i64 0, .int .i64 0, .bool false]) 5 40 Tryz.underlying79 hi hz0 hz1 hz2 rfl (by decide) _ _ _ rfl (World.ownsRow_nil W1 (w.heap.size + 2) 121 5) _ _ _ rfl HE.out hone.out (by unfold maxLen; omega) (by omega) (by omega) ?_)
  intro u w3 o3 g3
  replace o3 : w3.ownsRow (w.heap.size + 2) 121 5 u d.entries_.length (d.entries_.flatMap Entry.enc) := by simpa using o3
  obtain ⟨xa, xc, rfl, -, -⟩ := owns_form o3
  have b3 : Below W1.heap.size W1 w3 := below_grown g3 (Nat.le_refl _) (by intro k hk; simp [Value.ownBlock] at hk)
  have hB3 := hB1.trans (b3.mono hB1.size)
  have BD3 := BD.out.below b3
  have BR3 := BR.out.below b3
  have hs3 := b3.size
  have o9 : ownL (Rg (w.heap.size + 2) w3.heap.size) w3 (Value.slice xa d.entries_.length xc) d.entries_ := ownEntrys.2 ⟨owns_base o3 (fun _ _ => Nat.zero_le _), fun k hk => owns_in o3 k hk⟩
  have O9 := hid o9
  have n2 : w3.cell? ⟨w.heap.size, 2, none⟩ = some _ := BD3.1.2 2 (by simp)
  have n3 : w3.frozen? ⟨w.heap.size, 2, none⟩ = false := BD3.2 2 (by simp)
  have m0 : w3.cell? ⟨w.heap.size, 0, none⟩ = some (.int .i64 d.owner_) := BD3.1.2 0 (by simp)
  have m1 : w3.cell? ⟨w.heap.size, 1, none⟩ = some (.int .i64 d.status_) := BD3.1.2 1 (by simp)
  have r0 : w3.cell? ⟨w.heap.size + 1, 0, none⟩ = some (.int .i64 0) := BR3.1.2 0 (by simp)
  have r1 : w3.cell? ⟨w.heap.size + 1, 1, none⟩ = some (.int .i64 0) := BR3.1.2 1 (by simp)
  have r2 : w3.cell? ⟨w.heap.size + 1, 2, none⟩ = some (Value.slice none 0 0) := BR3.1.2 2 (by simp)
  have f0 : w3.frozen? ⟨w.heap.size + 1, 0, none⟩ = false := BR3.2 0 (by simp)
  have f1 : w3.frozen? ⟨w.heap.size + 1, 1, none⟩ = false := BR3.2 1 (by simp)
  have f2 : w3.frozen? ⟨w.heap.size + 1, 2, none⟩ = false := BR3.2 2 (by simp)
  clear o3 g3 b3 BD3 BR3 BD BR HW1 HE k2 o9
  go_wp2
  refine bodyPost_ret (v := .agg #[.int .i64 d.owner_, .int .i64 d.status_, Value.slice xa d.entries_.length xc]) ?_ rfl ⟨_, rfl, ?_, ?_⟩
  · simp [results, Tryz.results89, go_sem, m0, m1, n2, n3, r0, r1, r2, f0, f1, f2]
  · refine ownL.mono (O9.out.keep fun b hb => ?_) (T := Rg w.heap.size _) fun b hb => ⟨by have := hb.1; omega, by have := hb.2; simpa [World.setCell] using this⟩
    have h1 := hb.1
    rw [heap_setCell_other _ _ b _ (by show b ≠ w.heap.size + 1; omega), heap_setCell_other _ _ b _ (by show b ≠ w.heap.size + 1; omega), heap_setCell_other _ _ b _ (by show b ≠ w.heap.size + 1; omega), heap_setCell_other _ _ b _ (by show b ≠ w.heap.size; omega)]
  · exact (((hB3.setCell (Nat.le_refl _) _).setCell (by show w.heap.size ≤ w.heap.size + 1; omega) _).setCell (by show w.heap.size ≤ w.heap.size + 1; omega) _).setCell (by show w.heap.size ≤ w.heap.size + 1; omega) _
end Go.Proofs.YtbbdchlabdilcabGreat
namespace Go.Proofs.YtbbdchlabdilcabGreat
set_option maxRecDepth 100000
open Go.RowKit Go.Proofs Go.Own
set_option linter.unusedVariables false
set_option linter.unusedSimpArgs false
set_option maxHeartbeats 8000000 in
theorem impl_copyStore0 (hs : List Head) (ds : List DescD) (v0 v1 : Value) (w : World) (hx0 : hs.length ≤ 1048576) (hx1 : ds.length ≤ 1048576) (hx2 : ∀ i, (h : i < ds.length) → ds[i].entries_.length ≤ 1048576) (h0 : rdsL w v0 hs) (h1 : rdsL w v1 ds) :
    Calls Tryz.prog 50 #[.agg #[v0, v1]] w fun e w' => ∃ u0 u1 : Value, ∃ S0 S1 : Nat → Prop, e = .returned (.agg #[u0, u1]) ∧ ownL S0 w' u0 hs ∧ ownL S1 w' u1 ds ∧ (∀ k, S0 k → Rg w.heap.size w'.heap.size k) ∧ (∀ k, S1 k → Rg w.heap.size w'.heap.size k) ∧ (∀ k, S0 k → ¬ S1 k) ∧ Below w.heap.size w w' := by
  obtain ⟨i0, hi, hz0, hz1, hz2⟩ := info_parts infoHead
  obtain ⟨j0, hj, hy0, hy1, hy2⟩ := info_parts infoDesc
  have hone := hid (oneCell_H hs)
  obtain ⟨a0, cap0, rfl, hl0, hm0⟩ := (rdsHeads.1 h0).form
  obtain ⟨a1, cap1, rfl, hl1, hm1, hc1⟩ := rdsL_open h1
  have H0 := hid h0
  have DC := hid hc1
  have HX := hid hx2
  clear h0 h1 hc1 hx2
  have hlen1 : ds.length ≤ 9223372036854775807 := by omega
  obtain ⟨W1, hW1⟩ : ∃ X, (w.alloc (.cells #[Value.slice a0 hs.length cap0, Value.slice a1 ds.length cap1] 37)).alloc (.cells #[Value.slice none 0 0, Value.slice none 0 0] 37) = X := ⟨_, rfl⟩
  have hB1 : Below w.heap.size w W1 := by rw [← hW1]; exact ((Below.refl _ _).alloc (Nat.le_refl _) _).alloc (by simp) _
  have hN : W1.heap.size = w.heap.size + 2 := by rw [← hW1]; simp
  have bp : BoxF W1 w.heap.size [Value.slice a0 hs.length cap0, Value.slice a1 ds.length cap1] := by
    rw [← hW1]
    exact (BoxF.alloc w #[Value.slice a0 hs.length cap0, Value.slice a1 ds.length cap1] 37).below ((Below.refl _ _).alloc (Nat.le_refl _) _)
  have br : BoxF W1 (w.heap.size + 1) [Value.slice none 0 0, Value.slice none 0 0] := by
    rw [← hW1]
    have h1 := BoxF.alloc (w.alloc (.cells #[Value.slice a0 hs.length cap0, Value.slice a1 ds.length cap1] 37)) #[Value.slice none 0 0, Value.slice none 0 0] 37
    rw [show (w.alloc (.cells #[Value.slice a0 hs.length cap0, Value.slice a1 ds.length cap1] 37)).heap.size = w.heap.size + 1 by simp] at h1
    exact h1
  have h2 := rdsHeads.1 (rdsL.below H0.out hB1)
  have k0 : W1.cell? ⟨w.heap.size, 0, none⟩ = some (Value.slice a0 hs.length cap0) := bp.1.2 0 (by simp)
  have HW1 := hid hW1
  clear hW1
  go_enter Tryz.func50, Tryz.ntmps50
  go_wp2_with (at_builtin; rw [HW1.out]; refine wpList_append_flat rfl _ _ 34 rfl (w.heap.size + 2) 55 i0 (.agg #[.int .i64 0, .int .i64 0, .int .i64 0]) 3 24 Tryz.underlying34 hi hz0 hz1 hz2 rfl (by decide) _ _ _ rfl (World.ownsRow_nil W1 (w.heap.size + 2) 55 3) _ _ _ rfl h2 hone.out (by unfold maxLen; omega) (by omega) (by omega) ?_)
  intro v' w1 ho hg
  replace ho : w1.ownsRow (w.heap.size + 2) 55 3 v' hs.length (hs.flatMap Head.enc) := by simpa using ho
  obtain ⟨ua, um, uc, rfl⟩ := owns_form3 ho
  have hs1 := hg.size
  have b1 : Below W1.heap.size W1 w1 := below_grown hg (Nat.le_refl _) (by intro k hk; simp [Value.ownBlock] at hk)
  have hB2 : Below w.heap.size w w1 := hB1.trans (b1.mono hB1.size)
  have bp1 := bp.below b1
  have br1 := br.below b1
  have o1 : ownL (Rg (w.heap.size + 2) w1.heap.size) w1 (Value.slice ua um uc) hs := ownHeads.2 ⟨owns_base ho (fun _ _ => Nat.zero_le _), fun k hk => owns_in ho k hk⟩
  obtain ⟨W2, hW2⟩ : ∃ X, w1.alloc (.cells #[Value.slice ua um uc, Value.slice none 0 0] 37) = X := ⟨_, rfl⟩
  have hs2 : W2.heap.size = w1.heap.size + 1 := by rw [← hW2]; simp
  have b12 : Below w1.heap.size w1 W2 := by rw [← hW2]; exact (Below.refl _ _).alloc (Nat.le_refl _) _
  have hB3 := hid (hB2.trans (b12.mono (by omega)))
  have bp2 := hid (bp1.below b12)
  have br2 := hid (br1.below b12)
  have bo2 : Hid (BoxF W2 w1.heap.size [Value.slice ua um uc, Value.slice none 0 0]) := by rw [← hW2]; exact hid (BoxF.alloc w1 #[Value.slice ua um uc, Value.slice none 0 0] 37)
  have o2 := hid (o1.keep (keep_rg b12 (Nat.le_refl _)))
  have kk1 : w1.cell? ⟨w.heap.size, 1, none⟩ = some (Value.slice a1 ds.length cap1) := bp1.1.2 1 (by simp)
  clear bp bp1 br br1 o1 ho hg k0 hB2 h2 b1
  have HW2 := hid hW2
  clear hW2
  have kk2 : (w1.alloc (.cells #[Value.slice ua um uc, Value.slice none 0 0] 37)).cell? ⟨w.heap.size, 1, none⟩ = some (Value.slice a1 ds.length cap1) := by rw [HW2.out]; exact bp2.out.1.2 1 (by simp)
  go_wp2
  rw [HW2.out]
  have hM : w.heap.size + 2 ≤ w1.heap.size := by omega
  obtain ⟨M, hMe⟩ : ∃ M, w1.heap.size = M := ⟨_, rfl⟩
  rw [hMe] at hM hs2 bo2 o2 ⊢
  clear hMe b12 HW2 hs1 hN hB1 HW1 kk1 kk2
  clear w1 W1
  go_loopw [13] (fun i wr => ∃ (k : Nat) (da : Option Addr) (dm dc : Nat), k ≤ ds.length ∧ i = .int .i64 k ∧ Below w.heap.size w wr ∧ M + 1 ≤ wr.heap.size ∧ Hid (BoxF wr w.heap.size [Value.slice a0 hs.length cap0, Value.slice a1 ds.length cap1]) ∧ Hid (BoxF wr (w.heap.size + 1) [Value.slice none 0 0, Value.slice none 0 0]) ∧ Hid (BoxF wr M [Value.slice ua um uc, Value.slice da dm dc]) ∧ Hid (ownL (Rg (w.heap.size + 2) M) wr (Value.slice ua um uc) hs) ∧ Hid (ownL (Rg (M + 1) wr.heap.size) wr (Value.slice da dm dc) (ds.take k))) (fun i _ => ds.length - (intOf i).toNat)
  case atStart => exact ⟨0, none, 0, 0, by omega, rfl, hB3.out, by omega, bp2, br2, bo2, o2, hid (ownL_nil _ _)⟩
  case round =>
    clear bp2 br2 bo2 o2 hB3 hs2
    clear W2
    obtain ⟨k, da, dm, dc, hk, rfl, hB, hMr, BP, BR, BO, OH, OD⟩ := hrel
    by_cases hlt : k < ds.length
    · obtain ⟨bb, off, cs, rfl, hbs, ⟨v2, rfl, h2⟩, hcell⟩ := DC.out k hlt
      have c0 : w.cell? ⟨bb, off + k * 3, none⟩ = some (.int .i64 ds[k].owner_) := hcell 0 (show 0 < 3 by omega)
      have c1 : w.cell? ⟨bb, off + k * 3 + 1, none⟩ = some (.int .i64 ds[k].status_) := hcell 1 (show 1 < 3 by omega)
      have c2 : w.cell? ⟨bb, off + k * 3 + 2, none⟩ = some v2 := hcell 2 (show 2 < 3 by omega)
      have e0 := (hB.cell (p := ⟨bb, off + k * 3, none⟩) hbs).trans c0
      have e1 := (hB.cell (p := ⟨bb, off + k * 3 + 1, none⟩) hbs).trans c1
      have e2 := (hB.cell (p := ⟨bb, off + k * 3 + 2, none⟩) hbs).trans c2
      obtain ⟨ea, ecap, rfl, -, -⟩ := (rdsEntrys.1 h2).form
      have HE := hid h2
      have hxk := hid (HX.out k hlt)
      have hts := hid (take_snoc ds k hlt)
      have hdl : dm = k := by
        obtain ⟨ja, jc, je, -, -⟩ := ownL_len OD.out
        have h9 := congrArg (fun v => match v with | Value.slice _ n _ => n | _ => 0) je
        simpa [List.length_take, Nat.min_eq_left hk] using h9
      replace hdl := hdl.symm
      subst hdl
      generalize hD : ds[k] = D at *
      have HD := hid hD
      clear c0 c1 c2 hcell DC h2 hD
      obtain ⟨V, hV⟩ : ∃ X, wr.alloc (.cells #[.int .i64 D.owner_, .int .i64 D.status_, Value.slice ea D.entries_.length ecap] 85) = X := ⟨_, rfl⟩
      have hBV : Below wr.heap.size wr V := by rw [← hV]; exact (Below.refl _ _).alloc (Nat.le_refl _) _
      have hsV : V.heap.size = wr.heap.size + 1 := by rw [← hV]; simp
      have BD : BoxF V wr.heap.size [.int .i64 D.owner_, .int .i64 D.status_, Value.slice ea D.entries_.length ecap] := by rw [← hV]; exact BoxF.alloc wr #[.int .i64 D.owner_, .int .i64 D.status_, Value.slice ea D.entries_.length ecap] 85
      have HBV := hid (hB.trans (hBV.mono hB.size))
      have HY := hid (rdsL.below HE.out HBV.out)
      have BPV := hid (BP.out.below hBV)
      have BRV := hid (BR.out.below hBV)
      have BOV := hid (BO.out.below hBV)
      have OHV := hid (OH.out.keep (keep_rg hBV (by omega)))
      have ODV := hid (OD.out.keep (keep_rg hBV (Nat.le_refl _)))
      have hSM := hid (show ∀ b, Rg (M + 1) wr.heap.size b → b < V.heap.size ∧ b ≠ M from fun b hb => ⟨by have := hb.2; omega, by have := hb.1; omega⟩)
      have n0 : V.cell? ⟨wr.heap.size, 0, none⟩ = some (.int .i64 D.owner_) := BD.1.2 0 (by simp)
      have n1' : V.cell? ⟨wr.heap.size, 1, none⟩ = some (.int .i64 D.status_) := BD.1.2 1 (by simp)
      have n2' : V.cell? ⟨wr.heap.size, 2, none⟩ = some (Value.slice ea D.entries_.length ecap) := BD.1.2 2 (by simp)
      have kV : V.cell? ⟨M, 1, none⟩ = some (Value.slice da k dc) := BOV.out.1.2 1 (by simp)
      have HV := hid hV
      clear hV BD BP BR BO OH OD HE
      go_wp2_with fail
      rw [HV.out]
      clear e0 e1 e2
      go_region_law (first
        | (go_simp; go_at_call 89; refine (impl_copyDesc D _ _ (rdsL.below HY.out (by repeat (first | exact Below.refl _ _ | refine Below.drew ?_ | refine Below.alloc ?_ (by simp) _))) hxk.out).mono ?_; rintro e w5 ⟨u, rfl, o5, b5⟩; obtain ⟨xa, xm, xc, rfl⟩ := ownL_shape o5; have hb5 : Below V.heap.size V w5 := Below.trans (by repeat (first | exact Below.refl _ _ | refine Below.drew ?_ | refine Below.alloc ?_ (by simp) _)) (b5.mono (by simp)); obtain ⟨-, css, hown8, hl8, hfin⟩ := append_box (A := encDesc) (j := 1) ODV.out hSM.out BOV.out (by simp) hb5 (⟨_, rfl, o5⟩ : encDesc.own _ w5 [.int .i64 D.owner_, .int .i64 D.status_, Value.slice xa xm xc] D) (fun b hb => hb); have kM : w5.cell? ⟨M, 1, none⟩ = some (Value.slice da k dc) := (hb5.cell (p := ⟨M, 1, none⟩) BOV.out.1.1).trans (BOV.out.1.2 1 (by simp)); have kMa : (w5.alloc (.cells #[.int .i64 D.owner_, .int .i64 D.status_, Value.slice xa xm xc] 85)).cell? ⟨M, 1, none⟩ = some (Value.slice da k dc) := (((Below.refl _ _).alloc (Nat.le_refl _) _ : Below w5.heap.size w5 (w5.alloc (.cells #[.int .i64 D.owner_, .int .i64 D.status_, Value.slice xa xm xc] 85))).cell (p := ⟨M, 1, none⟩) (Nat.lt_of_lt_of_le BOV.out.1.1 hb5.size)).trans kM; have hone8 : ∀ c ∈ [Value.int .i64 D.owner_, .int .i64 D.status_, Value.slice xa xm xc], c.oneCell' = true := (by intro c hc; simp at hc; rcases hc with rfl | rfl | rfl <;> rfl))
        | (refine step_append_at rfl (.tmp 18) (.tmp 21) 35 rfl 0 85 j0 (.agg #[.int .i64 0, .int .i64 0, .slice none 0 0]) 3 40 Tryz.underlying35 hj hy0 hy1 hy2 rfl (by decide) _ k _ rfl hown8 _ 1 [Value.int .i64 D.owner_, .int .i64 D.status_, Value.slice xa xm xc] rfl hl8 (by decide) hone8 (by unfold maxLen; omega) (by omega) (by simp) ?_; intro v8 w8 o8 g8 p8; obtain ⟨ya, yc, rfl, BM8, BM9, OD9, C9, C8, hs9, hs8⟩ := hfin v8 w8 o8 g8 p8; have n1 : w8.cell? ⟨M, 1, none⟩ = some (Value.slice da k dc) := BM8.1.2 1 (by simp); have n2 : w8.frozen? ⟨M, 1, none⟩ = false := BM8.2 1 (by simp)))
      all_goals have hBM : ∀ b, b < M + 1 → b ≠ M → ¬ (b = M ∨ Rg (M + 1) wr.heap.size b) := fun b h1 h2 h => h.elim h2 fun h => by have := h.1; omega
      all_goals have BP9 := hid (BPV.out.chg C9 (hBM _ (by omega) (by omega)))
      all_goals have BR9 := hid (BRV.out.chg C9 (hBM _ (by omega) (by omega)))
      all_goals have OH9 := hid (OHV.out.chg C9 fun b hb => ⟨by have := hb.2; omega, hBM b (by have := hb.2; omega) (by have := hb.2; omega)⟩)
      all_goals obtain ⟨W9, hW9⟩ : ∃ X, w8.setCell ⟨M, 1, none⟩ (Value.slice ya (k + 1) yc) = X := ⟨_, rfl⟩
      all_goals rw [hW9] at BM9 OD9 C9 hs9 BP9 BR9 OH9
      all_goals have BO9 : Hid (BoxF W9 M [Value.slice ua um uc, Value.slice ya (k + 1) yc]) := hid BM9
      all_goals have O19 := hid (show ownL (Rg (M + 1) W9.heap.size) W9 (Value.slice ya (k + 1) yc) (ds.take (k + 1)) by rw [← hts.out]; exact OD9.mono fun b hb => hb.elim (fun h => ⟨h.1, by have := h.2; omega⟩) fun h => ⟨by omega, by omega⟩)
      all_goals have hB9 := hid (below_chg HBV.out C9 (by have := HBV.out.size; omega) fun b hb => hb.elim (fun h => by omega) fun h => by have := h.1; omega)
      all_goals have hM9 : M + 1 ≤ W9.heap.size := by omega
      all_goals have HW9 := hid hW9
      all_goals clear hW9 BM8 BM9 OD9 C9 C8 hfin o8 g8 p8 hown8 hl8 hone8 o5 b5 hb5 kM kMa kV n0 n1' n2' hBM
      all_goals go_wp2
      all_goals rw [HW9.out]
      all_goals go_roundw
      all_goals first | exact ⟨k+1, _, _, _, by omega, by go_num, hB9.out, hM9, BP9, BR9, BO9, OH9, O19⟩ | (simp [intOf]; omega)
    · obtain rfl : k = ds.length := by omega
      have O4 : Hid (ownL (Rg (M + 1) wr.heap.size) wr (Value.slice da dm dc) ds) := hid (by have h9 := OD.out; rw [List.take_length] at h9; exact h9)
      have m0 : wr.cell? ⟨M, 0, none⟩ = some (Value.slice ua um uc) := BO.out.1.2 0 (by simp)
      have m1 : wr.cell? ⟨M, 1, none⟩ = some (Value.slice da dm dc) := BO.out.1.2 1 (by simp)
      have m3 : wr.cell? ⟨w.heap.size + 1, 0, none⟩ = some (Value.slice none 0 0) := BR.out.1.2 0 (by simp)
      have m4 : wr.cell? ⟨w.heap.size + 1, 1, none⟩ = some (Value.slice none 0 0) := BR.out.1.2 1 (by simp)
      have m5 : wr.frozen? ⟨w.heap.size + 1, 0, none⟩ = false := BR.out.2 0 (by simp)
      have m6 : wr.frozen? ⟨w.heap.size + 1, 1, none⟩ = false := BR.out.2 1 (by simp)
      clear OD BP BR BO DC
      go_wp2
      refine bodyPost_ret (v := .agg #[Value.slice ua um uc, Value.slice da dm dc]) ?_ rfl ⟨_, _, Rg (w.heap.size + 2) M, Rg (M + 1) wr.heap.size, rfl, ?_, ?_, ?_, ?_, ?_, ?_⟩
      · simp [results, Tryz.results50, go_sem, m0, m1, m3, m4, m5, m6]
      · refine OH.out.keep fun b hb => ?_
        have h1 := hb.1
        rw [heap_setCell_other _ _ b _ (by show b ≠ w.heap.size + 1; omega), heap_setCell_other _ _ b _ (by show b ≠ w.heap.size + 1; omega)]
      · refine O4.out.keep fun b hb => ?_
        have h1 := hb.1
        rw [heap_setCell_other _ _ b _ (by show b ≠ w.heap.size + 1; omega), heap_setCell_other _ _ b _ (by show b ≠ w.heap.size + 1; omega)]
      · rintro b ⟨h1, h2⟩
        exact ⟨by omega, by simp [World.setCell]; omega⟩
      · rintro b ⟨h1, h2⟩
        exact ⟨by omega, by simpa [World.setCell] using h2⟩
      · rintro b ⟨h1, h2⟩ ⟨h3, h4⟩
        omega
      · exact (hB.setCell (by show w.heap.size ≤ w.heap.size + 1; omega) _).setCell (by show w.heap.size ≤ w.heap.size + 1; omega) _
end Go.Proofs.YtbbdchlabdilcabGreat
/- A store of the call's own, written: a head's cell, a descriptor's status. -/
namespace Go.Proofs.YtbbdchlabdilcabGreat
set_option maxRecDepth 100000
open Go.RowKit Go.Proofs Go.Own
set_option linter.unusedVariables false
theorem flat_set {α : Type} (f : α → List Value) (sz : Nat) (hsz : ∀ x, (f x).length = sz) : ∀ (xs : List α) (i : Nat) (h : i < xs.length) (j : Nat) (u : Value) (x' : α), j < sz → f x' = (f xs[i]).set j u → (xs.flatMap f).set (i * sz + j) u = (xs.set i x').flatMap f
  | [], i, h, _, _, _, _, _ => by simp at h
  | x :: xs, 0, h, j, u, x', hj, he => by
    simp only [List.getElem_cons_zero] at he
    rw [List.set_cons_zero, List.flatMap_cons, List.flatMap_cons, he, Nat.zero_mul, Nat.zero_add, List.set_append_left _ _ (by rw [hsz]; exact hj)]
  | x :: xs, i+1, h, j, u, x', hj, he => by
    simp only [List.getElem_cons_succ] at he
    have e : (i + 1) * sz + j = (f x).length + (i * sz + j) := by rw [hsz, Nat.add_mul]; omega
    rw [List.set_cons_succ, List.flatMap_cons, List.flatMap_cons, e, List.set_append_right _ _ (by omega), show (f x).length + (i * sz + j) - (f x).length = i * sz + j by omega]
    rw [flat_set f sz hsz xs i (by simpa using h) j u x' hj he]
theorem own_head {S : Nat → Prop} {w : World} {v : Value} {hs : List Head} (h : ownL S w v hs) (i : Nat) (hi : i < hs.length) : ∃ g cap, v = .slice (some ⟨g, 0, none⟩) hs.length cap ∧ S g ∧ g < w.heap.size ∧
    w.cell? ⟨g, i * 3, none⟩ = some (.int .i64 hs[i].value_) ∧ w.cell? ⟨g, i * 3 + 1, none⟩ = some (.int .i64 hs[i].version_) ∧ w.cell? ⟨g, i * 3 + 2, none⟩ = some (.int .i64 hs[i].desc_) ∧ (∀ j, w.frozen? ⟨g, j, none⟩ = false) := by
  obtain ⟨o, hb⟩ := ownHeads.1 h
  obtain ⟨g, cap, rfl⟩ : ∃ g cap, v = .slice (some ⟨g, 0, none⟩) hs.length cap := by
    rcases o.2 with ⟨_, e2⟩ | ⟨g, c2, cur, e1, _⟩
    · omega
    · exact ⟨g, c2, e1⟩
  have c : ∀ j, j < 3 → w.cell? ⟨g, i * 3 + j, none⟩ = (Head.enc hs[i])[j]? := fun j hj => by
    rw [o.cellAt (i * 3 + j) (by omega), flatMap_get Head.enc 3 (fun _ => rfl) hs i hi j hj]
  exact ⟨g, cap, rfl, hb g rfl, (owns_lt o).2, c 0 (by omega), c 1 (by omega), c 2 (by omega), fun j => World.ownsRow.frozenAt o j⟩
theorem own_head_set {S : Nat → Prop} {w : World} {g cap n : Nat} {hs : List Head} (h : ownL S w (.slice (some ⟨g, 0, none⟩) n cap) hs) (i : Nat) (hi : i < hs.length) (j : Nat) (hj : j < 3) (u : Value) (h' : Head) (he : Head.enc h' = (Head.enc hs[i]).set j u) : ownL S (w.setCell ⟨g, i * 3 + j, none⟩ u) (.slice (some ⟨g, 0, none⟩) n cap) (hs.set i h') := by
  obtain ⟨o, hb⟩ := ownHeads.1 h
  have hn : n = hs.length := by
    obtain ⟨a, c, e, _, _⟩ := ownL_len h
    have h9 := congrArg (fun v => match v with | Value.slice _ n _ => n | _ => 0) e
    simpa using h9
  subst hn
  refine ownHeads.2 ⟨?_, hb⟩
  rw [List.length_set, ← flat_set Head.enc 3 (fun _ => rfl) hs i hi j u h' hj he]
  exact owns_put o _ _
theorem own_desc {S : Nat → Prop} {w : World} {v : Value} {ds : List DescD} (h : ownL S w v ds) (k : Nat) (hk : k < ds.length) : ∃ g cap v2, v = .slice (some ⟨g, 0, none⟩) ds.length cap ∧ S g ∧ g < w.heap.size ∧
    w.cell? ⟨g, k * 3, none⟩ = some (.int .i64 ds[k].owner_) ∧ w.cell? ⟨g, k * 3 + 1, none⟩ = some (.int .i64 ds[k].status_) ∧ w.cell? ⟨g, k * 3 + 2, none⟩ = some v2 ∧ rdsL w v2 ds[k].entries_ ∧ (∀ j, w.frozen? ⟨g, j, none⟩ = false) ∧
    ∀ st : Int, ownL S (w.setCell ⟨g, k * 3 + 1, none⟩ (.int .i64 st)) v (ds.set k ⟨ds[k].owner_, st, ds[k].entries_⟩) := by
  obtain ⟨g, cap, css, Ri, hic, rfl, h1, h2, h3, h4, h5, ⟨v2, h6, h6b⟩, h7⟩ := ownL_at h k hk
  have c : ∀ j, j < 3 → w.cell? ⟨g, k * 3 + j, none⟩ = css[k][j]? := fun j hj => by
    have hl := flatten_len 3 css h2
    have e9 : k * 3 + j < css.flatten.length := by rw [hl]; omega
    have o9 : w.ownsRow 0 85 3 (.slice (some ⟨g, 0, none⟩) ds.length cap) ds.length css.flatten := h3
    rw [o9.cellAt (k * 3 + j) (by omega), flatten_get 3 css h2 k hic j hj]
  rw [h6] at c
  refine ⟨g, cap, v2, rfl, h4, (owns_lt h3).2, c 0 (by omega), c 1 (by omega), c 2 (by omega), ownL.rds h6b, fun j => World.ownsRow.frozenAt h3 j, fun st => ?_⟩
  refine h7 _ (css[k].set 1 (.int .i64 st)) _ (owns_cell h3 h2 k 1 hic (show 1 < 3 by omega) _) (fun b _ hb _ => heap_setCell_other _ _ b _ (by show b ≠ g; exact hb)) ⟨v2, by rw [h6]; rfl, h6b.keep fun b hb => heap_setCell_other _ _ b _ (by show b ≠ g; exact (h5 b hb).2)⟩
theorem own_desc_set {S : Nat → Prop} {w : World} {g cap n : Nat} {ds : List DescD} (h : ownL S w (.slice (some ⟨g, 0, none⟩) n cap) ds) (k : Nat) (hk : k < ds.length) (st : Int) (x : DescD) (hx : x = ⟨ds[k].owner_, st, ds[k].entries_⟩) : ownL S (w.setCell ⟨g, k * 3 + 1, none⟩ (.int .i64 st)) (.slice (some ⟨g, 0, none⟩) n cap) (ds.set k x) := by
  obtain ⟨g', cap', v2, e, -, -, -, -, -, -, -, hs⟩ := own_desc h k hk
  have e1 : g = g' := by simp only [Value.slice.injEq, Option.some.injEq, Addr.mk.injEq, and_true, true_and] at e; exact e.1
  subst e1 hx
  exact hs st
end Go.Proofs.YtbbdchlabdilcabGreat
