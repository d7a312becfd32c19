/- Chapter 7's model: Announce. -/
import Derived.Test.YtpdgpblekbongaaS7b
import Derived.Test.YtpdgpblekbongaaF7a
namespace Go.Proofs.Ytpdgpblekbongaa
set_option maxRecDepth 100000
open Go.RowKit Go.Proofs Go.Own
open Go Go.BigFrame
set_option linter.unusedVariables false
set_option linter.unusedSimpArgs false
theorem spec_StoreOkIs (hs : List Head) (ds : List DescD) (v0 v1 : Value) (r : Bool) (w : World) (h0 : rdsL w v0 hs) (h1 : rdsL w v1 ds) (e : storeOk hs ds = r) :
    Calls Try.prog 11 #[.agg #[v0, v1]] w fun e w' => e = .returned (.bool r) ∧ Below w.heap.size w w' := by
  subst e; exact spec_StoreOk0 hs ds v0 v1 w h0 h1
theorem Ext.rds {α : Type} [A : Enc α] {W : World} {v : Value} {xs : List α} (h : rdsL W v xs) : ∀ e : Ext W, rdsL e.w v xs := fun e => rdsL.below h e.h
theorem BoxF.lower' {X w : World} {b M : Nat} {cs : List Value} (h : BoxF X b cs) (hb : Below M X w) (hM : b < M) : BoxF w b cs :=
  ⟨⟨Nat.lt_of_lt_of_le h.1.1 hb.size, fun j hj => (hb.cell (p := ⟨b, j, none⟩) hM).trans (h.1.2 j hj)⟩, fun j hj => (hb.frozen (p := ⟨b, j, none⟩) hM).trans (h.2 j hj)⟩
set_option maxHeartbeats 4000000 in
theorem spec_Announce0 (hs : List Head) (ds : List DescD) (d : DescD) (v0 v1 v2 : Value) (w : World) (hx0 : hs.length ≤ 1048576) (hx1 : ds.length ≤ 1048576) (hx2 : ∀ i, (h : i < ds.length) → ds[i].entries_.length ≤ 1048576) (hxd : d.entries_.length ≤ 1048576) (h0 : rdsL w v0 hs) (h1 : rdsL w v1 ds) (h2 : rdsL w v2 d.entries_) :
    Calls Try.prog 26 #[.agg #[v0, v1], .agg #[.int .i64 d.owner_, .int .i64 d.status_, v2]] w fun e w' => ∃ u0 u1 : Value, e = .returned (.tuple #[.agg #[u0, u1], .int .i64 (annN hs ds d), .bool (annOk hs ds d)]) ∧ StoreOwn w w' u0 u1 hs (annL hs ds d) ∧ Below w.heap.size w w' := by
  obtain ⟨j0, hj, hy0, hy1, hy2⟩ := info_parts infoDesc
  have H0 := hid h0
  have H1 := hid h1
  have H2 := hid (rdsEntrys.1 h2)
  have HX2 := hid hx2
  obtain ⟨a0, cap0, rfl, hl0, hm0, -⟩ := rdsL_open h0
  obtain ⟨a1, cap1, rfl, hl1, hm1, -⟩ := rdsL_open h1
  obtain ⟨a2, cap2, rfl, hl2, hm2, hc2⟩ := (rdsEntrys.1 h2).open
  have HC2 := hid hc2
  clear h0 h1 h2 hc2 hx2
  have hlen0 : hs.length ≤ 9223372036854775807 := by omega
  have hlen1 : ds.length ≤ 9223372036854775807 := by omega
  have hlen2 : d.entries_.length ≤ 9223372036854775807 := by omega
  obtain ⟨W1, hW1⟩ : ∃ X, ((w.alloc (.cells #[Value.slice a0 hs.length cap0, Value.slice a1 ds.length cap1] 31)).alloc (.cells #[.int .i64 d.owner_, .int .i64 d.status_, Value.slice a2 d.entries_.length cap2] 57)).alloc (.cells #[Value.slice none 0 0, Value.slice none 0 0] 31) = X := ⟨_, rfl⟩
  have hB1 : Below w.heap.size w W1 := by rw [← hW1]; exact (((Below.refl _ _).alloc (Nat.le_refl _) _).alloc (by simp) _).alloc (by simp; omega) _
  have hN : W1.heap.size = w.heap.size + 3 := by rw [← hW1]; simp
  have bp : BoxF W1 w.heap.size [Value.slice a0 hs.length cap0, Value.slice a1 ds.length cap1] := by
    rw [← hW1]
    exact ((BoxF.alloc w #[Value.slice a0 hs.length cap0, Value.slice a1 ds.length cap1] 31).below ((Below.refl _ _).alloc (Nat.le_refl _) _)).below ((Below.refl _ _).alloc (Nat.le_refl _) _)
  have bd : BoxF W1 (w.heap.size + 1) [.int .i64 d.owner_, .int .i64 d.status_, Value.slice a2 d.entries_.length cap2] := by
    rw [← hW1]
    have h1 := BoxF.alloc (w.alloc (.cells #[Value.slice a0 hs.length cap0, Value.slice a1 ds.length cap1] 31)) #[.int .i64 d.owner_, .int .i64 d.status_, Value.slice a2 d.entries_.length cap2] 57
    rw [show (w.alloc (.cells #[Value.slice a0 hs.length cap0, Value.slice a1 ds.length cap1] 31)).heap.size = w.heap.size + 1 by simp] at h1
    exact h1.below ((Below.refl _ _).alloc (Nat.le_refl _) _)
  have br : BoxF W1 (w.heap.size + 1 + 1) [Value.slice none 0 0, Value.slice none 0 0] := by
    rw [← hW1]
    have h1 := BoxF.alloc ((w.alloc (.cells #[Value.slice a0 hs.length cap0, Value.slice a1 ds.length cap1] 31)).alloc (.cells #[.int .i64 d.owner_, .int .i64 d.status_, Value.slice a2 d.entries_.length cap2] 57)) #[Value.slice none 0 0, Value.slice none 0 0] 31
    rw [show ((w.alloc (.cells #[Value.slice a0 hs.length cap0, Value.slice a1 ds.length cap1] 31)).alloc (.cells #[.int .i64 d.owner_, .int .i64 d.status_, Value.slice a2 d.entries_.length cap2] 57)).heap.size = w.heap.size + 1 + 1 by simp] at h1
    exact h1
  have k0 : W1.cell? ⟨w.heap.size, 0, none⟩ = some (Value.slice a0 hs.length cap0) := bp.1.2 0 (by simp)
  have k1 : W1.cell? ⟨w.heap.size, 1, none⟩ = some (Value.slice a1 ds.length cap1) := bp.1.2 1 (by simp)
  have R0 := hid (rdsL.below H0.out hB1)
  have R1 := hid (rdsL.below H1.out hB1)
  have BP := hid bp
  have BD := hid bd
  have BR := hid br
  have HW1 := hid hW1
  clear bp bd br hW1
  go_enter Try.func26, Try.ntmps26
  go_wp2_with fail
  rw [HW1.out]
  refine (spec_l7Copy0 hs ds _ _ _ hx0 hx1 HX2.out R0.out R1.out).mono ?_
  rintro e w2 ⟨u0, u1, S0, S1, rfl, o0, o1, rg0, rg1, dj, b2⟩
  obtain ⟨xa, xm, xc, rfl⟩ := ownL_shape o0
  obtain ⟨ya, ym, yc, rfl⟩ := ownL_shape o1
  have hB2 := hB1.trans (b2.mono hB1.size)
  have hs2 := b2.size
  obtain ⟨V, hV⟩ : ∃ X, w2.alloc (.cells #[Value.slice xa xm xc, Value.slice ya ym yc] 31) = X := ⟨_, rfl⟩
  have hsV : V.heap.size = w2.heap.size + 1 := by rw [← hV]; simp
  have b2V : Below w2.heap.size w2 V := by rw [← hV]; exact (Below.refl _ _).alloc (Nat.le_refl _) _
  have hBV := hB2.trans (b2V.mono hB2.size)
  have BPV := (BP.out.below b2).below b2V
  have BDV := (BD.out.below b2).below b2V
  have BRV := hid ((BR.out.below b2).below b2V)
  have BOV : Hid (BoxF V w2.heap.size [Value.slice xa xm xc, Value.slice ya ym yc]) := by rw [← hV]; exact hid (BoxF.alloc w2 #[Value.slice xa xm xc, Value.slice ya ym yc] 31)
  have O0V := hid (o0.keep (w' := V) fun b hb => b2V.block b (rg0 b hb).2)
  have O1V := hid (o1.keep (w' := V) fun b hb => b2V.block b (rg1 b hb).2)
  have RG0 := hid rg0
  have RG1 := hid rg1
  have DJ := hid dj
  have hR0 := rdsL.below H0.out hBV
  have hR1 := rdsL.below H1.out hBV
  have hY := Entrys.below H2.out hBV
  have hN1 : w.heap.size + 1 + 1 < V.heap.size := by omega
  have q0 := Ext.cell (show w.heap.size < V.heap.size by omega) (BPV.1.2 0 (by simp) : V.cell? ⟨w.heap.size, 0, none⟩ = some (Value.slice a0 hs.length cap0))
  have q1 := Ext.cell (show w.heap.size < V.heap.size by omega) (BPV.1.2 1 (by simp) : V.cell? ⟨w.heap.size, 1, none⟩ = some (Value.slice a1 ds.length cap1))
  have q2 := Ext.cell (show w.heap.size + 1 < V.heap.size by omega) (BDV.1.2 0 (by simp) : V.cell? ⟨w.heap.size + 1, 0, none⟩ = some (.int .i64 d.owner_))
  have q3 := Ext.cell (show w.heap.size + 1 < V.heap.size by omega) (BDV.1.2 1 (by simp) : V.cell? ⟨w.heap.size + 1, 1, none⟩ = some (.int .i64 d.status_))
  have q4 := Ext.cell (show w.heap.size + 1 < V.heap.size by omega) (BDV.1.2 2 (by simp) : V.cell? ⟨w.heap.size + 1, 2, none⟩ = some (Value.slice a2 d.entries_.length cap2))
  have BDV' := hid BDV
  have HV := hid hV
  have HR0 := hid hR0
  have HR1 := hid hR1
  have HY0 := hid hY
  have HQ := hid (And.intro q0 (And.intro q1 (And.intro q2 (And.intro q3 q4))))
  have hMM : w.heap.size + 3 ≤ w2.heap.size := by omega
  clear o0 o1 rg0 rg1 dj hV BPV BDV BP BD BR R0 R1 HW1 k0 k1 b2 b2V hR0 hR1 hY q0 q1 q2 q3 q4
  go_wp2
  rw [HV.out]
  have tail : ∀ (w5 : World), Below V.heap.size V w5 → BoxF w5 (w.heap.size + 1 + 1) [Value.slice none 0 0, Value.slice none 0 0] ∧ BoxF w5 w2.heap.size [Value.slice xa xm xc, Value.slice ya ym yc] ∧ ownL S0 w5 (Value.slice xa xm xc) hs ∧ ownL S1 w5 (Value.slice ya ym yc) ds ∧ BoxF w5 (w.heap.size + 1) [.int .i64 d.owner_, .int .i64 d.status_, Value.slice a2 d.entries_.length cap2] ∧ Entrys w5 (Value.slice a2 d.entries_.length cap2) d.entries_ ∧ Below w.heap.size w w5 := fun w5 b5 =>
    ⟨BRV.out.below b5, BOV.out.below b5, O0V.out.keep fun b hb => b5.block b (by have := (RG0.out b hb).2; omega), O1V.out.keep fun b hb => b5.block b (by have := (RG1.out b hb).2; omega), BDV'.out.below b5, Entrys.below H2.out (hBV.trans (b5.mono hBV.size)), hBV.trans (b5.mono hBV.size)⟩
  have TL := hid tail
  clear tail
  cases hs0 : storeOk hs ds with
  | false =>
    have Hn := hid (ann1 (d := d) hs0)
    have Hnn := hid (annN_no Hn.out)
    have Hl := hid (annL_no Hn.out)
    have hS := hid hs0
    have hD := hid (show descOk d.owner_ d.status_ d.entries_ = descOk d.owner_ d.status_ d.entries_ from rfl)
    clear hs0
    have hR0 := HR0.out; have hR1 := HR1.out; have hY := HY0.out; obtain ⟨q0, q1, q2, q3, q4⟩ := HQ.out; clear HQ; refine wp_region_ext V (Below.refl _ _) (by kernel_rfl) (by kernel_rfl) ?_
    repeat (go_big_quiet_step (first | (go_at_call 11; exact call_ext _ (spec_StoreOkIs hs ds _ _ _ _ (Ext.rds hR0 _) (Ext.rds hR1 _) hS.out)) | (go_at_call 43; exact call_ext _ (spec_DescOkIs _ _ _ _ _ _ (Ext.flat hY _) hD.out))))
    refine wpQuiet_nil ?_; rintro _ ⟨E, rfl⟩
    clear hR0 hR1 hY q0 q1 q2 q3 q4
    obtain ⟨g1, g2, g3, g4, g5, g6, g7⟩ := TL.out E.w E.h; have n0 : E.w.cell? ⟨w.heap.size + 1 + 1, 0, none⟩ = some (Value.slice none 0 0) := g1.1.2 0 (by simp); have n1 : E.w.cell? ⟨w.heap.size + 1 + 1, 1, none⟩ = some (Value.slice none 0 0) := g1.1.2 1 (by simp); have n2 : E.w.frozen? ⟨w.heap.size + 1 + 1, 0, none⟩ = false := g1.2 0 (by simp); have n3 : E.w.frozen? ⟨w.heap.size + 1 + 1, 1, none⟩ = false := g1.2 1 (by simp); have m0 : E.w.cell? ⟨w2.heap.size, 0, none⟩ = some (Value.slice xa xm xc) := g2.1.2 0 (by simp); have m1 : E.w.cell? ⟨w2.heap.size, 1, none⟩ = some (Value.slice ya ym yc) := g2.1.2 1 (by simp)
    have G3 := hid g3
    have G4 := hid g4
    have G7 := hid g7
    clear g1 g2 g3 g4 g5 g6 g7
    go_wp2
    refine bodyPost_ret (v := .tuple #[.agg #[Value.slice xa xm xc, Value.slice ya ym yc], .int .i64 (-1), .bool false]) ?_ rfl ⟨_, _, by rw [Hn.out, Hnn.out], ⟨S0, S1, ?_, ?_, ?_, ?_, ?_⟩, ?_⟩
    · simp [results, Try.results26, go_sem, n0, n1, n2, n3, m0, m1]
    · exact G3.out.keep fun b hb => by
        have := (RG0.out b hb).1
        rw [heap_setCell_other _ _ b _ (by show b ≠ w.heap.size + 1 + 1; omega), heap_setCell_other _ _ b _ (by show b ≠ w.heap.size + 1 + 1; omega)]
    · rw [Hl.out]
      exact G4.out.keep fun b hb => by
        have := (RG1.out b hb).1
        rw [heap_setCell_other _ _ b _ (by show b ≠ w.heap.size + 1 + 1; omega), heap_setCell_other _ _ b _ (by show b ≠ w.heap.size + 1 + 1; omega)]
    · intro b hb
      have h8 := RG0.out b hb
      have h81 := h8.1
      have h82 := h8.2
      have hsE := E.h.size
      exact ⟨by omega, by simp [World.setCell]; omega⟩
    · intro b hb
      have h8 := RG1.out b hb
      have h81 := h8.1
      have h82 := h8.2
      have hsE := E.h.size
      exact ⟨by omega, by simp [World.setCell]; omega⟩
    · exact DJ.out
    · exact (G7.out.setCell (by show w.heap.size ≤ w.heap.size + 1 + 1; omega) _).setCell (by show w.heap.size ≤ w.heap.size + 1 + 1; omega) _
  | true =>
  have hS := hid hs0
  clear hs0
  cases hd0 : descOk d.owner_ d.status_ d.entries_ with
  | false =>
    have Hn := hid (ann2 (hs := hs) (ds := ds) hd0)
    have Hnn := hid (annN_no Hn.out)
    have Hl := hid (annL_no Hn.out)
    have hD := hid hd0
    clear hd0
    have hR0 := HR0.out; have hR1 := HR1.out; have hY := HY0.out; obtain ⟨q0, q1, q2, q3, q4⟩ := HQ.out; clear HQ; refine wp_region_ext V (Below.refl _ _) (by kernel_rfl) (by kernel_rfl) ?_
    repeat (go_big_quiet_step (first | (go_at_call 11; exact call_ext _ (spec_StoreOkIs hs ds _ _ _ _ (Ext.rds hR0 _) (Ext.rds hR1 _) hS.out)) | (go_at_call 43; exact call_ext _ (spec_DescOkIs _ _ _ _ _ _ (Ext.flat hY _) hD.out))))
    refine wpQuiet_nil ?_; rintro _ ⟨E, rfl⟩
    clear hR0 hR1 hY q0 q1 q2 q3 q4
    obtain ⟨g1, g2, g3, g4, g5, g6, g7⟩ := TL.out E.w E.h; have n0 : E.w.cell? ⟨w.heap.size + 1 + 1, 0, none⟩ = some (Value.slice none 0 0) := g1.1.2 0 (by simp); have n1 : E.w.cell? ⟨w.heap.size + 1 + 1, 1, none⟩ = some (Value.slice none 0 0) := g1.1.2 1 (by simp); have n2 : E.w.frozen? ⟨w.heap.size + 1 + 1, 0, none⟩ = false := g1.2 0 (by simp); have n3 : E.w.frozen? ⟨w.heap.size + 1 + 1, 1, none⟩ = false := g1.2 1 (by simp); have m0 : E.w.cell? ⟨w2.heap.size, 0, none⟩ = some (Value.slice xa xm xc) := g2.1.2 0 (by simp); have m1 : E.w.cell? ⟨w2.heap.size, 1, none⟩ = some (Value.slice ya ym yc) := g2.1.2 1 (by simp)
    have G3 := hid g3
    have G4 := hid g4
    have G7 := hid g7
    clear g1 g2 g3 g4 g5 g6 g7
    go_wp2
    refine bodyPost_ret (v := .tuple #[.agg #[Value.slice xa xm xc, Value.slice ya ym yc], .int .i64 (-1), .bool false]) ?_ rfl ⟨_, _, by rw [Hn.out, Hnn.out], ⟨S0, S1, ?_, ?_, ?_, ?_, ?_⟩, ?_⟩
    · simp [results, Try.results26, go_sem, n0, n1, n2, n3, m0, m1]
    · exact G3.out.keep fun b hb => by
        have := (RG0.out b hb).1
        rw [heap_setCell_other _ _ b _ (by show b ≠ w.heap.size + 1 + 1; omega), heap_setCell_other _ _ b _ (by show b ≠ w.heap.size + 1 + 1; omega)]
    · rw [Hl.out]
      exact G4.out.keep fun b hb => by
        have := (RG1.out b hb).1
        rw [heap_setCell_other _ _ b _ (by show b ≠ w.heap.size + 1 + 1; omega), heap_setCell_other _ _ b _ (by show b ≠ w.heap.size + 1 + 1; omega)]
    · intro b hb
      have h8 := RG0.out b hb
      have h81 := h8.1
      have h82 := h8.2
      have hsE := E.h.size
      exact ⟨by omega, by simp [World.setCell]; omega⟩
    · intro b hb
      have h8 := RG1.out b hb
      have h81 := h8.1
      have h82 := h8.2
      have hsE := E.h.size
      exact ⟨by omega, by simp [World.setCell]; omega⟩
    · exact DJ.out
    · exact (G7.out.setCell (by show w.heap.size ≤ w.heap.size + 1 + 1; omega) _).setCell (by show w.heap.size ≤ w.heap.size + 1 + 1; omega) _
  | true =>
  obtain ⟨hd1, hd6⟩ := descOk_len hd0
  have hD := hid hd0
  clear hd0
  by_cases hst : d.status_ = 0
  · have hst' : (d.status_ != 0) = false := by simp [hst]
    have Hst := hid hst
    clear hst
    have hle := lastO_eq (show d.entries_.length - 1 < d.entries_.length by omega)
    obtain ⟨b2, off2, rfl, hb2, d0, -⟩ := HC2.out (d.entries_.length - 1) (by omega)
    rw [← hle] at d0
    have z0 := Ext.cell (Nat.lt_of_lt_of_le hb2 hBV.size) ((hBV.cell (p := ⟨b2, off2 + (d.entries_.length - 1) * 5, none⟩) hb2).trans d0)
    clear HC2 d0 hle
    have hix : ((d.entries_.length : Int) - 1).toNat = d.entries_.length - 1 := by omega
    have hix0 : (0 : Int) ≤ (d.entries_.length : Int) - 1 := by omega
    have hix1 : (d.entries_.length : Int) - 1 < (d.entries_.length : Int) := by omega
    by_cases hge : (hs.length : Int) ≤ lastO d.entries_
    · have Hn := hid (ann4 (ds := ds) hge)
      have Hnn := hid (annN_no Hn.out)
      have Hl := hid (annL_no Hn.out)
      have hR0 := HR0.out; have hR1 := HR1.out; have hY := HY0.out; obtain ⟨q0, q1, q2, q3, q4⟩ := HQ.out; clear HQ; refine wp_region_ext V (Below.refl _ _) (by kernel_rfl) (by kernel_rfl) ?_
      repeat (go_big_quiet_step (first | (go_at_call 11; exact call_ext _ (spec_StoreOkIs hs ds _ _ _ _ (Ext.rds hR0 _) (Ext.rds hR1 _) hS.out)) | (go_at_call 43; exact call_ext _ (spec_DescOkIs _ _ _ _ _ _ (Ext.flat hY _) hD.out))))
      refine wpQuiet_nil ?_; rintro _ ⟨E, rfl⟩
      clear hR0 hR1 hY q0 q1 q2 q3 q4
      obtain ⟨g1, g2, g3, g4, g5, g6, g7⟩ := TL.out E.w E.h; have n0 : E.w.cell? ⟨w.heap.size + 1 + 1, 0, none⟩ = some (Value.slice none 0 0) := g1.1.2 0 (by simp); have n1 : E.w.cell? ⟨w.heap.size + 1 + 1, 1, none⟩ = some (Value.slice none 0 0) := g1.1.2 1 (by simp); have n2 : E.w.frozen? ⟨w.heap.size + 1 + 1, 0, none⟩ = false := g1.2 0 (by simp); have n3 : E.w.frozen? ⟨w.heap.size + 1 + 1, 1, none⟩ = false := g1.2 1 (by simp); have m0 : E.w.cell? ⟨w2.heap.size, 0, none⟩ = some (Value.slice xa xm xc) := g2.1.2 0 (by simp); have m1 : E.w.cell? ⟨w2.heap.size, 1, none⟩ = some (Value.slice ya ym yc) := g2.1.2 1 (by simp)
      have G3 := hid g3
      have G4 := hid g4
      have G7 := hid g7
      clear g1 g2 g3 g4 g5 g6 g7
      go_wp2
      refine bodyPost_ret (v := .tuple #[.agg #[Value.slice xa xm xc, Value.slice ya ym yc], .int .i64 (-1), .bool false]) ?_ rfl ⟨_, _, by rw [Hn.out, Hnn.out], ⟨S0, S1, ?_, ?_, ?_, ?_, ?_⟩, ?_⟩
      · simp [results, Try.results26, go_sem, n0, n1, n2, n3, m0, m1]
      · exact G3.out.keep fun b hb => by
          have := (RG0.out b hb).1
          rw [heap_setCell_other _ _ b _ (by show b ≠ w.heap.size + 1 + 1; omega), heap_setCell_other _ _ b _ (by show b ≠ w.heap.size + 1 + 1; omega)]
      · rw [Hl.out]
        exact G4.out.keep fun b hb => by
          have := (RG1.out b hb).1
          rw [heap_setCell_other _ _ b _ (by show b ≠ w.heap.size + 1 + 1; omega), heap_setCell_other _ _ b _ (by show b ≠ w.heap.size + 1 + 1; omega)]
      · intro b hb
        have h8 := RG0.out b hb
        have h81 := h8.1
        have h82 := h8.2
        have hsE := E.h.size
        exact ⟨by omega, by simp [World.setCell]; omega⟩
      · intro b hb
        have h8 := RG1.out b hb
        have h81 := h8.1
        have h82 := h8.2
        have hsE := E.h.size
        exact ⟨by omega, by simp [World.setCell]; omega⟩
      · exact DJ.out
      · exact (G7.out.setCell (by show w.heap.size ≤ w.heap.size + 1 + 1; omega) _).setCell (by show w.heap.size ≤ w.heap.size + 1 + 1; omega) _
    · by_cases h60 : ds.length = 60
      · have Hn := hid (ann5 (hs := hs) (d := d) h60)
        have Hnn := hid (annN_no Hn.out)
        have Hl := hid (annL_no Hn.out)
        have h60' : ((ds.length : Int) == 60) = true := by rw [beq_iff_eq]; omega
        clear h60
        have hR0 := HR0.out; have hR1 := HR1.out; have hY := HY0.out; obtain ⟨q0, q1, q2, q3, q4⟩ := HQ.out; clear HQ; refine wp_region_ext V (Below.refl _ _) (by kernel_rfl) (by kernel_rfl) ?_
        repeat (go_big_quiet_step (first | (go_at_call 11; exact call_ext _ (spec_StoreOkIs hs ds _ _ _ _ (Ext.rds hR0 _) (Ext.rds hR1 _) hS.out)) | (go_at_call 43; exact call_ext _ (spec_DescOkIs _ _ _ _ _ _ (Ext.flat hY _) hD.out))))
        refine wpQuiet_nil ?_; rintro _ ⟨E, rfl⟩
        clear hR0 hR1 hY q0 q1 q2 q3 q4
        obtain ⟨g1, g2, g3, g4, g5, g6, g7⟩ := TL.out E.w E.h; have n0 : E.w.cell? ⟨w.heap.size + 1 + 1, 0, none⟩ = some (Value.slice none 0 0) := g1.1.2 0 (by simp); have n1 : E.w.cell? ⟨w.heap.size + 1 + 1, 1, none⟩ = some (Value.slice none 0 0) := g1.1.2 1 (by simp); have n2 : E.w.frozen? ⟨w.heap.size + 1 + 1, 0, none⟩ = false := g1.2 0 (by simp); have n3 : E.w.frozen? ⟨w.heap.size + 1 + 1, 1, none⟩ = false := g1.2 1 (by simp); have m0 : E.w.cell? ⟨w2.heap.size, 0, none⟩ = some (Value.slice xa xm xc) := g2.1.2 0 (by simp); have m1 : E.w.cell? ⟨w2.heap.size, 1, none⟩ = some (Value.slice ya ym yc) := g2.1.2 1 (by simp)
        have G3 := hid g3
        have G4 := hid g4
        have G7 := hid g7
        clear g1 g2 g3 g4 g5 g6 g7
        go_wp2
        refine bodyPost_ret (v := .tuple #[.agg #[Value.slice xa xm xc, Value.slice ya ym yc], .int .i64 (-1), .bool false]) ?_ rfl ⟨_, _, by rw [Hn.out, Hnn.out], ⟨S0, S1, ?_, ?_, ?_, ?_, ?_⟩, ?_⟩
        · simp [results, Try.results26, go_sem, n0, n1, n2, n3, m0, m1]
        · exact G3.out.keep fun b hb => by
            have := (RG0.out b hb).1
            rw [heap_setCell_other _ _ b _ (by show b ≠ w.heap.size + 1 + 1; omega), heap_setCell_other _ _ b _ (by show b ≠ w.heap.size + 1 + 1; omega)]
        · rw [Hl.out]
          exact G4.out.keep fun b hb => by
            have := (RG1.out b hb).1
            rw [heap_setCell_other _ _ b _ (by show b ≠ w.heap.size + 1 + 1; omega), heap_setCell_other _ _ b _ (by show b ≠ w.heap.size + 1 + 1; omega)]
        · intro b hb
          have h8 := RG0.out b hb
          have h81 := h8.1
          have h82 := h8.2
          have hsE := E.h.size
          exact ⟨by omega, by simp [World.setCell]; omega⟩
        · intro b hb
          have h8 := RG1.out b hb
          have h81 := h8.1
          have h82 := h8.2
          have hsE := E.h.size
          exact ⟨by omega, by simp [World.setCell]; omega⟩
        · exact DJ.out
        · exact (G7.out.setCell (by show w.heap.size ≤ w.heap.size + 1 + 1; omega) _).setCell (by show w.heap.size ≤ w.heap.size + 1 + 1; omega) _
      · have Hy := hid (ann6 hS.out hD.out Hst.out hge h60)
        have HN := hid (annN_yes Hy.out)
        have HL := hid (annL_yes Hy.out)
        have h60' : ((ds.length : Int) == 60) = false := by rw [beq_eq_false_iff_ne]; omega
        clear h60
        have hR0 := HR0.out; have hR1 := HR1.out; have hY := HY0.out; obtain ⟨q0, q1, q2, q3, q4⟩ := HQ.out; clear HQ; refine wp_region_ext V (Below.refl _ _) (by kernel_rfl) (by kernel_rfl) ?_
        repeat (go_big_quiet_step (first | (go_at_call 11; exact call_ext _ (spec_StoreOkIs hs ds _ _ _ _ (Ext.rds hR0 _) (Ext.rds hR1 _) hS.out)) | (go_at_call 43; exact call_ext _ (spec_DescOkIs _ _ _ _ _ _ (Ext.flat hY _) hD.out))))
        refine wpQuiet_nil ?_; rintro _ ⟨E, rfl⟩
        clear hR0 hR1 hY q0 q1 q2 q3 q4 z0 hst' hge h60'
        obtain ⟨g1, g2, g3, g4, g5, g6, g7⟩ := TL.out E.w E.h
        have hsE := E.h.size
        obtain ⟨w5, hw5⟩ : ∃ X, X = E.w := ⟨_, rfl⟩
        rw [← hw5] at g1 g2 g3 g4 g5 g6 g7 hsE ⊢
        clear hw5 TL E
        have l2 : w5.cell? ⟨w.heap.size + 1, 2, none⟩ = some (Value.slice (some ⟨b2, off2, none⟩) d.entries_.length cap2) := g5.1.2 2 (by simp)
        have G1 := hid g1
        have G2 := hid g2
        have G3 := hid g3
        have G4 := hid g4
        have G5 := hid g5
        have G6 := hid g6
        have G7 := hid g7
        clear g1 g2 g3 g4 g5 g6 g7
        go_wp2_with fail
        refine (spec_l6Copy _ d.entries_ _ G6.out hxd).mono ?_
        rintro e w6 ⟨u, rfl, o6, b6⟩
        obtain ⟨ea, em, ec, rfl⟩ := owns_form3 o6
        have hs6 := b6.size
        have hB6 : Below w.heap.size w w6 := G7.out.trans (b6.mono G7.out.size)
        have hm5 : w2.heap.size + 1 ≤ w5.heap.size := by omega
        obtain ⟨W7, hW7⟩ : ∃ X, w6.setCell ⟨w.heap.size + 1, 2, none⟩ (Value.slice ea em ec) = X := ⟨_, rfl⟩
        have hs7 : W7.heap.size = w6.heap.size := by rw [← hW7]; simp [World.setCell]
        have hB7 : Below w.heap.size w W7 := by rw [← hW7]; exact hB6.setCell (show w.heap.size ≤ w.heap.size + 1 by omega) _
        have k7 : ∀ b, b < w5.heap.size → b ≠ w.heap.size + 1 → W7.heap[b]? = w5.heap[b]? := fun b hb hne => by
          rw [← hW7, heap_setCell_other _ _ b _ (by show b ≠ w.heap.size + 1; exact hne), b6.block b hb]
        have BD6 := G5.out.below b6
        have BD7 : BoxF W7 (w.heap.size + 1) [.int .i64 d.owner_, .int .i64 d.status_, Value.slice ea em ec] := by rw [← hW7]; exact BD6.set 2 (by simp) _
        have BR7 := (G1.out.below b6).other ⟨w.heap.size + 1, 2, none⟩ (Value.slice ea em ec) (by show w.heap.size + 1 ≠ w.heap.size + 1 + 1; omega); rw [hW7] at BR7
        have BO7 := (G2.out.below b6).other ⟨w.heap.size + 1, 2, none⟩ (Value.slice ea em ec) (by show w.heap.size + 1 ≠ w2.heap.size; omega); rw [hW7] at BO7
        have O07 := G3.out.keep (w' := W7) fun b hb => k7 b (by have := (RG0.out b hb).2; omega) (by have := (RG0.out b hb).1; omega)
        have O17 := G4.out.keep (w' := W7) fun b hb => k7 b (by have := (RG1.out b hb).2; omega) (by have := (RG1.out b hb).1; omega)
        have OE7 : ownL (Rg w5.heap.size w6.heap.size) W7 (Value.slice ea em ec) d.entries_ := (ownE_of o6).keep fun b hb => by
          rw [← hW7, heap_setCell_other _ _ b _ (by have := hb.1; show b ≠ w.heap.size + 1; omega)]
        obtain ⟨W8, hW8⟩ : ∃ X, W7.alloc (.cells #[.int .i64 d.owner_, .int .i64 d.status_, Value.slice ea em ec] 57) = X := ⟨_, rfl⟩
        have b78 : Below W7.heap.size W7 W8 := by rw [← hW8]; exact (Below.refl _ _).alloc (Nat.le_refl _) _
        have hs8 : W8.heap.size = W7.heap.size + 1 := by rw [← hW8]; simp
        have hl8 : Flat W8 (.slice (some ⟨W7.heap.size, 0, none⟩) 1 1) 1 3 [.int .i64 d.owner_, .int .i64 d.status_, Value.slice ea em ec] := by rw [← hW8]; exact Flat.of_owns (owns_litN W7 57 3 1 #[.int .i64 d.owner_, .int .i64 d.status_, Value.slice ea em ec] 0 (Nat.zero_le _) rfl (by decide))
        have hone8 : ∀ c ∈ [Value.int .i64 d.owner_, .int .i64 d.status_, Value.slice ea em ec], c.oneCell' = true := by intro c hc; simp at hc; rcases hc with rfl | rfl | rfl <;> rfl
        obtain ⟨css, hown8, hblk, hsn⟩ := ownL_snoc (O17.keep fun b hb => b78.block b (by have := (RG1.out b hb).2; omega))
        obtain ⟨ja, jc, je, -, -⟩ := ownL_len O17
        have hym : ym = ds.length := by have h9 := congrArg (fun v => match v with | Value.slice _ n _ => n | _ => 0) je; simpa using h9
        subst hym
        rw [hs7] at hl8
        have hB8 := hid (hB7.trans (b78.mono hB7.size))
        have BR8 := hid (BR7.below b78)
        have BO8 := hid (BO7.below b78)
        have O08 := hid (O07.keep (w' := W8) fun b hb => b78.block b (by have := (RG0.out b hb).2; omega))
        have OE8 := hid (OE7.keep (w' := W8) fun b hb => b78.block b (by have := hb.2; omega))
        have g70 : W7.cell? ⟨w2.heap.size, 1, none⟩ = some (Value.slice ya ds.length yc) := BO7.1.2 1 (by simp)
        have gd0 : W7.cell? ⟨w.heap.size + 1, 0, none⟩ = some (.int .i64 d.owner_) := BD7.1.2 0 (by simp)
        have gd1 : W7.cell? ⟨w.heap.size + 1, 1, none⟩ = some (.int .i64 d.status_) := BD7.1.2 1 (by simp)
        have gd2 : W7.cell? ⟨w.heap.size + 1, 2, none⟩ = some (Value.slice ea em ec) := BD7.1.2 2 (by simp)
        have g62 : w6.cell? ⟨w.heap.size + 1, 2, none⟩ = some _ := BD6.1.2 2 (by simp)
        have g63 : w6.frozen? ⟨w.heap.size + 1, 2, none⟩ = false := BD6.2 2 (by simp)
        have HBlk := hid hblk
        have HSN := hid hsn
        clear hsn hblk je O17 O07 BR7 BO7 BD7 BD6 OE7 k7 o6 b6 b78 hB6 hB7 l2 G1 G2 G3 G4 G5 G6 G7
        go_wp2_with (at_builtin; refine wpList_append_at rfl _ _ 29 rfl 0 57 j0 (.agg #[.int .i64 0, .int .i64 0, .slice none 0 0]) 3 40 Try.underlying29 hj hy0 hy1 hy2 rfl (by decide) _ _ _ rfl hown8 _ _ _ rfl hl8 (by decide) hone8 (by unfold maxLen; omega) (by omega) (by omega) ?_)
        intro v9 w9 o9 g9 p9
        obtain ⟨pa, pc, rfl, -, -⟩ := owns_form o9
        have hs9 := g9.size
        have hB9 : Below w.heap.size w w9 := hB8.out.trans (below_grown g9 hB8.out.size fun b e => by have := (RG1.out b (HBlk.out b e)).1; omega)
        have BR9 := BR8.out.grown g9 (fun e => by have := (RG1.out _ (HBlk.out _ e)).1; omega)
        have BO9 := BO8.out.grown g9 (fun e => by have := (RG1.out _ (HBlk.out _ e)).2; omega)
        have O09 := O08.out.keep (w' := w9) fun b hb => g9.block b (by have := (RG0.out b hb).2; omega) (fun e => DJ.out b hb (HBlk.out b e.symm))
        have OE9 := OE8.out.keep (w' := w9) fun b hb => g9.block b (by have := hb.2; omega) (fun e => by have := (RG1.out b (HBlk.out b e.symm)).2; have := hb.1; omega)
        have P9 : ∀ b, Blk (Value.slice pa (ds.length + 1) pc) b → S1 b ∨ b = w6.heap.size + 1 := fun b hb => (p9 b hb).imp (HBlk.out b) (fun e => by omega)
        have O19 := HSN.out w9 (Value.slice pa (ds.length + 1) pc) _ d (Rg w5.heap.size w6.heap.size) o9 (fun b hb => (p9 b hb).imp id fun e h => by have := (RG1.out b h).2; omega) (fun b hb hn => g9.block b (by have := (RG1.out b hb).2; omega) (fun e => hn e.symm)) ⟨_, rfl, OE9⟩
          (fun b hb => ⟨fun h => by have := (RG1.out b h).2; have := hb.1; omega, fun h => (P9 b h).elim (fun h9 => by have := (RG1.out b h9).2; have := hb.1; omega) (fun h9 => by have := hb.2; omega)⟩)
        have Lo9 : ∀ b, (S1 b ∨ Rg w5.heap.size w6.heap.size b ∨ Blk (Value.slice pa (ds.length + 1) pc) b) → w.heap.size + 3 ≤ b ∧ b ≠ w2.heap.size := fun b hb => by
          rcases hb with h | h | h
          · have h8 := RG1.out b h; have h81 := h8.1; have h82 := h8.2; omega
          · have := h.1; omega
          · rcases P9 b h with h9 | h9
            · have h8 := RG1.out b h9; have h81 := h8.1; have h82 := h8.2; omega
            · omega
        obtain ⟨W10, hW10⟩ : ∃ X, w9.setCell ⟨w2.heap.size, 1, none⟩ (Value.slice pa (ds.length + 1) pc) = X := ⟨_, rfl⟩
        have hs10 : W10.heap.size = w9.heap.size := by rw [← hW10]; simp [World.setCell]
        have k10 : ∀ b, b ≠ w2.heap.size → W10.heap[b]? = w9.heap[b]? := fun b hb => by rw [← hW10, heap_setCell_other _ _ b _ (by show b ≠ w2.heap.size; exact hb)]
        have BR10 := BR9.other ⟨w2.heap.size, 1, none⟩ (Value.slice pa (ds.length + 1) pc) (by show w2.heap.size ≠ w.heap.size + 1 + 1; omega)
        have BO10 := BO9.set 1 (by simp) (Value.slice pa (ds.length + 1) pc)
        rw [hW10] at BR10 BO10
        have O010 := hid (O09.keep (w' := W10) fun b hb => k10 b (by have := (RG0.out b hb).2; omega))
        have O110 := hid (O19.keep (w' := W10) fun b hb => k10 b (Lo9 b hb).2)
        have hB10 := hid (show Below w.heap.size w W10 by rw [← hW10]; exact hB9.setCell (show w.heap.size ≤ w2.heap.size by omega) _)
        have HLo := hid Lo9
        have HP9 := hid P9
        have HHi := hid (show ∀ b, (S1 b ∨ Rg w5.heap.size w6.heap.size b ∨ Blk (Value.slice pa (ds.length + 1) pc) b) → b < W10.heap.size from fun b hb => by
          rcases hb with h | h | h
          · have h8 := (RG1.out b h).2; omega
          · have := h.2; omega
          · have := (owns_in o9 b h).2; omega)
        have HW10 := hid hW10
        have n1 : w9.cell? ⟨w2.heap.size, 1, none⟩ = some _ := BO9.1.2 1 (by simp)
        have n2 : w9.frozen? ⟨w2.heap.size, 1, none⟩ = false := BO9.2 1 (by simp)
        have m0 : W10.cell? ⟨w2.heap.size, 0, none⟩ = some (Value.slice xa xm xc) := BO10.1.2 0 (by simp)
        have m1 : W10.cell? ⟨w2.heap.size, 1, none⟩ = some (Value.slice pa (ds.length + 1) pc) := BO10.1.2 1 (by simp)
        have r0 : W10.cell? ⟨w.heap.size + 1 + 1, 0, none⟩ = some (Value.slice none 0 0) := BR10.1.2 0 (by simp)
        have r1 : W10.cell? ⟨w.heap.size + 1 + 1, 1, none⟩ = some (Value.slice none 0 0) := BR10.1.2 1 (by simp)
        have r2 : W10.frozen? ⟨w.heap.size + 1 + 1, 0, none⟩ = false := BR10.2 0 (by simp)
        have r3 : W10.frozen? ⟨w.heap.size + 1 + 1, 1, none⟩ = false := BR10.2 1 (by simp)
        clear hW10 k10 BR10 BO10 O09 O19 hB9 BR9 BO9 OE9 P9 Lo9 p9 g9 o9 hown8 hl8 hone8 g70 gd0 gd1 gd2 g62 g63 HBlk HSN BR8 BO8 O08 OE8 hB8 hW7 hW8
        go_wp2_with fail
        rw [HW10.out]
        go_region
        go_wp2
        refine bodyPost_ret (v := .tuple #[.agg #[Value.slice xa xm xc, Value.slice pa (ds.length + 1) pc], .int .i64 (ds.length : Int), .bool true]) ?_ rfl ⟨_, _, by rw [Hy.out, HN.out], ⟨S0, fun b => S1 b ∨ Rg w5.heap.size w6.heap.size b ∨ Blk (Value.slice pa (ds.length + 1) pc) b, ?_, ?_, ?_, ?_, ?_⟩, ?_⟩
        · simp [results, Try.results26, go_sem, r0, r1, r2, r3, m0, m1]
        · exact O010.out.keep fun b hb => by
            have := (RG0.out b hb).1
            exact (heap_setCell_other _ _ b _ (by show b ≠ w.heap.size + 1 + 1; omega)).trans (heap_setCell_other _ _ b _ (by show b ≠ w.heap.size + 1 + 1; omega))
        · rw [HL.out]
          exact O110.out.keep fun b hb => by
            have := (HLo.out b hb).1
            exact (heap_setCell_other _ _ b _ (by show b ≠ w.heap.size + 1 + 1; omega)).trans (heap_setCell_other _ _ b _ (by show b ≠ w.heap.size + 1 + 1; omega))
        · intro b hb
          have h8 := RG0.out b hb
          have h81 := h8.1
          have h82 := h8.2
          exact ⟨by omega, by simp [World.setCell]; omega⟩
        · intro b hb
          have h81 := (HLo.out b hb).1
          have h82 := HHi.out b hb
          exact ⟨by omega, by simp [World.setCell]; omega⟩
        · intro b hb h
          have h8 := RG0.out b hb
          have h82 := h8.2
          rcases h with h | h | h
          · exact DJ.out b hb h
          · have := h.1; omega
          · rcases HP9.out b h with h9 | h9
            · exact DJ.out b hb h9
            · omega
        · exact ((hB10.out.drew).setCell (by show w.heap.size ≤ w.heap.size + 1 + 1; omega) _).setCell (by show w.heap.size ≤ w.heap.size + 1 + 1; omega) _
  · have Hn := hid (ann3 (hs := hs) (ds := ds) hst)
    have Hnn := hid (annN_no Hn.out)
    have Hl := hid (annL_no Hn.out)
    have hst' : (d.status_ != 0) = true := by simp [hst]
    clear hst
    have hR0 := HR0.out; have hR1 := HR1.out; have hY := HY0.out; obtain ⟨q0, q1, q2, q3, q4⟩ := HQ.out; clear HQ; refine wp_region_ext V (Below.refl _ _) (by kernel_rfl) (by kernel_rfl) ?_
    repeat (go_big_quiet_step (first | (go_at_call 11; exact call_ext _ (spec_StoreOkIs hs ds _ _ _ _ (Ext.rds hR0 _) (Ext.rds hR1 _) hS.out)) | (go_at_call 43; exact call_ext _ (spec_DescOkIs _ _ _ _ _ _ (Ext.flat hY _) hD.out))))
    refine wpQuiet_nil ?_; rintro _ ⟨E, rfl⟩
    clear hR0 hR1 hY q0 q1 q2 q3 q4
    obtain ⟨g1, g2, g3, g4, g5, g6, g7⟩ := TL.out E.w E.h; have n0 : E.w.cell? ⟨w.heap.size + 1 + 1, 0, none⟩ = some (Value.slice none 0 0) := g1.1.2 0 (by simp); have n1 : E.w.cell? ⟨w.heap.size + 1 + 1, 1, none⟩ = some (Value.slice none 0 0) := g1.1.2 1 (by simp); have n2 : E.w.frozen? ⟨w.heap.size + 1 + 1, 0, none⟩ = false := g1.2 0 (by simp); have n3 : E.w.frozen? ⟨w.heap.size + 1 + 1, 1, none⟩ = false := g1.2 1 (by simp); have m0 : E.w.cell? ⟨w2.heap.size, 0, none⟩ = some (Value.slice xa xm xc) := g2.1.2 0 (by simp); have m1 : E.w.cell? ⟨w2.heap.size, 1, none⟩ = some (Value.slice ya ym yc) := g2.1.2 1 (by simp)
    have G3 := hid g3
    have G4 := hid g4
    have G7 := hid g7
    clear g1 g2 g3 g4 g5 g6 g7
    go_wp2
    refine bodyPost_ret (v := .tuple #[.agg #[Value.slice xa xm xc, Value.slice ya ym yc], .int .i64 (-1), .bool false]) ?_ rfl ⟨_, _, by rw [Hn.out, Hnn.out], ⟨S0, S1, ?_, ?_, ?_, ?_, ?_⟩, ?_⟩
    · simp [results, Try.results26, go_sem, n0, n1, n2, n3, m0, m1]
    · exact G3.out.keep fun b hb => by
        have := (RG0.out b hb).1
        rw [heap_setCell_other _ _ b _ (by show b ≠ w.heap.size + 1 + 1; omega), heap_setCell_other _ _ b _ (by show b ≠ w.heap.size + 1 + 1; omega)]
    · rw [Hl.out]
      exact G4.out.keep fun b hb => by
        have := (RG1.out b hb).1
        rw [heap_setCell_other _ _ b _ (by show b ≠ w.heap.size + 1 + 1; omega), heap_setCell_other _ _ b _ (by show b ≠ w.heap.size + 1 + 1; omega)]
    · intro b hb
      have h8 := RG0.out b hb
      have h81 := h8.1
      have h82 := h8.2
      have hsE := E.h.size
      exact ⟨by omega, by simp [World.setCell]; omega⟩
    · intro b hb
      have h8 := RG1.out b hb
      have h81 := h8.1
      have h82 := h8.2
      have hsE := E.h.size
      exact ⟨by omega, by simp [World.setCell]; omega⟩
    · exact DJ.out
    · exact (G7.out.setCell (by show w.heap.size ≤ w.heap.size + 1 + 1; omega) _).setCell (by show w.heap.size ≤ w.heap.size + 1 + 1; omega) _
end Go.Proofs.Ytpdgpblekbongaa
