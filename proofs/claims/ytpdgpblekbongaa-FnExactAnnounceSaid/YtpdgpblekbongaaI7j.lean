/- Chapter 7's program: Announce. -/
import Derived.Test.YtpdgpblekbongaaI7g
import Derived.Test.YtpdgpblekbongaaF7a
namespace Go.Proofs.Ytpdgpblekbongaa
set_option maxRecDepth 100000
open Go.RowKit Go.Proofs Go.Own
set_option linter.unusedVariables false
set_option linter.unusedSimpArgs false
theorem objs_is {n : Nat} {d : DescD} (h : descOk d.owner_ d.status_ d.entries_ = true) : d.entries_.all (objIn n) = !decide ((n : Int) ≤ lastO d.entries_) := by
  have h1 := descIn_is (n := n) (d := d)
  rw [descIn_ok h, h, Bool.true_and] at h1
  exact h1.symm
set_option maxHeartbeats 4000000 in
theorem impl_Announce0 (hs : List Head) (ds : List DescD) (d : DescD) (v0 v1 v2 : Value) (w : World) (hx0 : hs.length ≤ 1048576) (hx1 : ds.length ≤ 1048576) (hx2 : ∀ i, (h : i < ds.length) → ds[i].entries_.length ≤ 1048576) (hxd : d.entries_.length ≤ 1048576) (h0 : rdsL w v0 hs) (h1 : rdsL w v1 ds) (h2 : rdsL w v2 d.entries_) :
    Calls Try.prog 28 #[.agg #[v0, v1], .agg #[.int .i64 d.owner_, .int .i64 d.status_, v2]] w fun e w' => ∃ u0 u1 : Value, ∃ S0 S1 : Nat → Prop, e = .returned (.tuple #[.agg #[u0, u1], .int .i64 (annN hs ds d), .bool (annOk hs ds d)]) ∧ ownL S0 w' u0 hs ∧ ownL S1 w' u1 (annL hs ds d) ∧ (∀ k, S0 k → Rg w.heap.size w'.heap.size k) ∧ (∀ k, S1 k → Rg w.heap.size w'.heap.size k) ∧ (∀ k, S0 k → ¬ S1 k) ∧ Below w.heap.size w w' := by
  obtain ⟨j0, hj, hy0, hy1, hy2⟩ := info_parts infoDesc
  have H0 := hid h0
  have H1 := hid h1
  have H2 := hid h2
  have HX2 := hid hx2
  obtain ⟨a0, cap0, rfl, hl0, hm0, -⟩ := rdsL_open h0
  obtain ⟨a1, cap1, rfl, hl1, hm1, -⟩ := rdsL_open h1
  obtain ⟨a2, cap2, rfl, hl2, hm2, -⟩ := rdsL_open h2
  clear h0 h1 h2 hx2
  have hlen0 : hs.length ≤ 9223372036854775807 := by omega
  have hlen1 : ds.length ≤ 9223372036854775807 := by omega
  have hlen2 : d.entries_.length ≤ 9223372036854775807 := by omega
  obtain ⟨W1, hW1⟩ : ∃ X, ((w.alloc (.cells #[Value.slice a0 hs.length cap0, Value.slice a1 ds.length cap1] 31)).alloc (.cells #[.int .i64 d.owner_, .int .i64 d.status_, Value.slice a2 d.entries_.length cap2] 57)).alloc (.cells #[Value.slice none 0 0, Value.slice none 0 0] 31) = X := ⟨_, rfl⟩
  have hB1 : Below w.heap.size w W1 := by rw [← hW1]; exact (((Below.refl _ _).alloc (Nat.le_refl _) _).alloc (by simp) _).alloc (by simp; omega) _
  have hN : W1.heap.size = w.heap.size + 3 := by rw [← hW1]; simp
  have bp : BoxF W1 w.heap.size [Value.slice a0 hs.length cap0, Value.slice a1 ds.length cap1] := by
    rw [← hW1]
    exact ((BoxF.alloc w #[Value.slice a0 hs.length cap0, Value.slice a1 ds.length cap1] 31).below ((Below.refl _ _).alloc (Nat.le_refl _) _)).below ((Below.refl _ _).alloc (Nat.le_refl _) _)
  have bd : BoxF W1 (w.heap.size + 1) [.int .i64 d.owner_, .int .i64 d.status_, Value.slice a2 d.entries_.length cap2] := by
    rw [← hW1]
    have h1 := BoxF.alloc (w.alloc (.cells #[Value.slice a0 hs.length cap0, Value.slice a1 ds.length cap1] 31)) #[.int .i64 d.owner_, .int .i64 d.status_, Value.slice a2 d.entries_.length cap2] 57
    rw [show (w.alloc (.cells #[Value.slice a0 hs.length cap0, Value.slice a1 ds.length cap1] 31)).heap.size = w.heap.size + 1 by simp] at h1
    exact h1.below ((Below.refl _ _).alloc (Nat.le_refl _) _)
  have br : BoxF W1 (w.heap.size + 1 + 1) [Value.slice none 0 0, Value.slice none 0 0] := by
    rw [← hW1]
    have h1 := BoxF.alloc ((w.alloc (.cells #[Value.slice a0 hs.length cap0, Value.slice a1 ds.length cap1] 31)).alloc (.cells #[.int .i64 d.owner_, .int .i64 d.status_, Value.slice a2 d.entries_.length cap2] 57)) #[Value.slice none 0 0, Value.slice none 0 0] 31
    rw [show ((w.alloc (.cells #[Value.slice a0 hs.length cap0, Value.slice a1 ds.length cap1] 31)).alloc (.cells #[.int .i64 d.owner_, .int .i64 d.status_, Value.slice a2 d.entries_.length cap2] 57)).heap.size = w.heap.size + 1 + 1 by simp] at h1
    exact h1
  have k0 : W1.cell? ⟨w.heap.size, 0, none⟩ = some (Value.slice a0 hs.length cap0) := bp.1.2 0 (by simp)
  have k1 : W1.cell? ⟨w.heap.size, 1, none⟩ = some (Value.slice a1 ds.length cap1) := bp.1.2 1 (by simp)
  have R0 := hid (rdsL.below H0.out hB1)
  have R1 := hid (rdsL.below H1.out hB1)
  have BD := hid bd
  have BR := hid br
  have HW1 := hid hW1
  clear bp bd br hW1
  go_enter Try.func28, Try.ntmps28
  go_wp2_with fail
  rw [HW1.out]
  refine (impl_copyStore0 hs ds _ _ _ hx0 hx1 HX2.out R0.out R1.out).mono ?_
  rintro e w2 ⟨u0, u1, S0, S1, rfl, o0, o1, rg0, rg1, dj, b2⟩
  obtain ⟨xa, xc, rfl, -, -⟩ := ownL_len o0
  obtain ⟨ya, yc, rfl, -, -⟩ := ownL_len o1
  have hB2 := hB1.trans (b2.mono hB1.size)
  have hs2 := b2.size
  obtain ⟨V, hV⟩ : ∃ X, w2.alloc (.cells #[Value.slice xa hs.length xc, Value.slice ya ds.length yc] 31) = X := ⟨_, rfl⟩
  have hsV : V.heap.size = w2.heap.size + 1 := by rw [← hV]; simp
  have b2V : Below w2.heap.size w2 V := by rw [← hV]; exact (Below.refl _ _).alloc (Nat.le_refl _) _
  have hBV := hB2.trans (b2V.mono hB2.size)
  have BDV := hid ((BD.out.below b2).below b2V)
  have BRV := hid ((BR.out.below b2).below b2V)
  have BOV : Hid (BoxF V w2.heap.size [Value.slice xa hs.length xc, Value.slice ya ds.length yc]) := by rw [← hV]; exact hid (BoxF.alloc w2 #[Value.slice xa hs.length xc, Value.slice ya ds.length yc] 31)
  have O0V := hid (o0.keep (w' := V) fun b hb => b2V.block b (rg0 b hb).2)
  have O1V := hid (o1.keep (w' := V) fun b hb => b2V.block b (rg1 b hb).2)
  have RG0 := hid rg0
  have RG1 := hid rg1
  have DJ := hid dj
  have HV := hid hV
  have hMM : w.heap.size + 3 ≤ w2.heap.size := by omega
  have tail : ∀ (w5 : World), Below V.heap.size V w5 → BoxF w5 (w.heap.size + 1 + 1) [Value.slice none 0 0, Value.slice none 0 0] ∧ BoxF w5 w2.heap.size [Value.slice xa hs.length xc, Value.slice ya ds.length yc] ∧ ownL S0 w5 (Value.slice xa hs.length xc) hs ∧ ownL S1 w5 (Value.slice ya ds.length yc) ds ∧ BoxF w5 (w.heap.size + 1) [.int .i64 d.owner_, .int .i64 d.status_, Value.slice a2 d.entries_.length cap2] ∧ rdsL w5 (Value.slice a2 d.entries_.length cap2) d.entries_ ∧ Below w.heap.size w w5 := fun w5 b5 =>
    ⟨BRV.out.below b5, BOV.out.below b5, O0V.out.keep fun b hb => b5.block b (by have := (RG0.out b hb).2; omega), O1V.out.keep fun b hb => b5.block b (by have := (RG1.out b hb).2; omega), BDV.out.below b5, rdsL.below H2.out (hBV.trans (b5.mono hBV.size)), hBV.trans (b5.mono hBV.size)⟩
  have TL := hid tail
  have m0 : V.cell? ⟨w2.heap.size, 0, none⟩ = some (Value.slice xa hs.length xc) := BOV.out.1.2 0 (by simp)
  have m1 : V.cell? ⟨w2.heap.size, 1, none⟩ = some (Value.slice ya ds.length yc) := BOV.out.1.2 1 (by simp)
  have hR0 := hid (ownL.rds O0V.out)
  have hR1 := hid (ownL.rds O1V.out)
  have m0a : (w2.alloc (.cells #[Value.slice xa hs.length xc, Value.slice ya ds.length yc] 31)).cell? ⟨w2.heap.size, 0, none⟩ = some (Value.slice xa hs.length xc) := by rw [HV.out]; exact m0
  have m1a : (w2.alloc (.cells #[Value.slice xa hs.length xc, Value.slice ya ds.length yc] 31)).cell? ⟨w2.heap.size, 1, none⟩ = some (Value.slice ya ds.length yc) := by rw [HV.out]; exact m1
  clear o0 o1 rg0 rg1 dj hV BD BR R0 R1 HW1 k0 k1 b2 b2V tail BRV BDV BOV O0V O1V m0 m1
  go_wp2_with fail
  rw [HV.out]
  clear m0a m1a
  refine (impl_StoreOk0 hs ds _ _ _ hR0.out hR1.out).mono ?_
  rintro e w3 ⟨rfl, b3⟩
  obtain ⟨g1, g2, g3, g4, g5, g6, g7⟩ := TL.out w3 b3
  cases hs0 : storeOk hs ds with
  | false =>
    have Hn := hid (ann1 (d := d) hs0)
    have Hnn := hid (annN_no Hn.out)
    have Hl := hid (annL_no Hn.out)
    clear hs0 g5 g6
    obtain ⟨X, hX⟩ : ∃ X, X = w3 := ⟨_, rfl⟩
    rw [← hX] at g1 g2 g3 g4 g7 ⊢
    have hsX : Hid (w2.heap.size ≤ X.heap.size) := hid (by rw [hX]; have := b3.size; omega)
    clear hX
    have n0 : X.cell? ⟨w.heap.size + 1 + 1, 0, none⟩ = some (Value.slice none 0 0) := g1.1.2 0 (by simp); have n1 : X.cell? ⟨w.heap.size + 1 + 1, 1, none⟩ = some (Value.slice none 0 0) := g1.1.2 1 (by simp); have n2 : X.frozen? ⟨w.heap.size + 1 + 1, 0, none⟩ = false := g1.2 0 (by simp); have n3 : X.frozen? ⟨w.heap.size + 1 + 1, 1, none⟩ = false := g1.2 1 (by simp); have m0 : X.cell? ⟨w2.heap.size, 0, none⟩ = some (Value.slice xa hs.length xc) := g2.1.2 0 (by simp); have m1 : X.cell? ⟨w2.heap.size, 1, none⟩ = some (Value.slice ya ds.length yc) := g2.1.2 1 (by simp)
    have G3 := hid g3
    have G4 := hid g4
    have G7 := hid g7
    clear g1 g2 g3 g4 g7
    go_wp2
    refine bodyPost_ret (v := .tuple #[.agg #[Value.slice xa hs.length xc, Value.slice ya ds.length yc], .int .i64 (-1), .bool false]) ?_ rfl ⟨_, _, S0, S1, by rw [Hn.out, Hnn.out], ?_, ?_, ?_, ?_, ?_, ?_⟩
    · simp [results, Try.results28, go_sem, n0, n1, n2, n3, m0, m1]
    · exact G3.out.keep fun b hb => by
        have := (RG0.out b hb).1
        rw [heap_setCell_other _ _ b _ (by show b ≠ w.heap.size + 1 + 1; omega), heap_setCell_other _ _ b _ (by show b ≠ w.heap.size + 1 + 1; omega)]
    · rw [Hl.out]
      exact G4.out.keep fun b hb => by
        have := (RG1.out b hb).1
        rw [heap_setCell_other _ _ b _ (by show b ≠ w.heap.size + 1 + 1; omega), heap_setCell_other _ _ b _ (by show b ≠ w.heap.size + 1 + 1; omega)]
    · intro b hb
      have h8 := RG0.out b hb
      exact ⟨by have := h8.1; omega, by have := h8.2; have := hsX.out; simp [World.setCell]; omega⟩
    · intro b hb
      have h8 := RG1.out b hb
      exact ⟨by have := h8.1; omega, by have := h8.2; have := hsX.out; simp [World.setCell]; omega⟩
    · exact DJ.out
    · exact (G7.out.setCell (by show w.heap.size ≤ w.heap.size + 1 + 1; omega) _).setCell (by show w.heap.size ≤ w.heap.size + 1 + 1; omega) _
  | true =>
  have hS := hid hs0
  clear hs0
  have q0 : w3.cell? ⟨w.heap.size + 1, 0, none⟩ = some (.int .i64 d.owner_) := g5.1.2 0 (by simp)
  have q1 : w3.cell? ⟨w.heap.size + 1, 1, none⟩ = some (.int .i64 d.status_) := g5.1.2 1 (by simp)
  have q2 : w3.cell? ⟨w.heap.size + 1, 2, none⟩ = some (Value.slice a2 d.entries_.length cap2) := g5.1.2 2 (by simp)
  have hY3 := hid (rdsEntrys.1 g6)
  clear g1 g2 g3 g4 g5 g6 g7
  go_wp2_with fail
  refine (impl_DescOk0 _ _ _ _ _ hY3.out).mono ?_
  rintro e w4 ⟨rfl, b4⟩
  replace b4 : Below V.heap.size V w4 := b3.trans (b4.mono b3.size)
  clear q0 q1 q2 hY3
  obtain ⟨g1, g2, g3, g4, g5, g6, g7⟩ := TL.out w4 b4
  cases hd0 : descOk d.owner_ d.status_ d.entries_ with
  | false =>
    have Hn := hid (ann2 (hs := hs) (ds := ds) hd0)
    have Hnn := hid (annN_no Hn.out)
    have Hl := hid (annL_no Hn.out)
    clear hd0 g5 g6
    obtain ⟨X, hX⟩ : ∃ X, X = w4 := ⟨_, rfl⟩
    rw [← hX] at g1 g2 g3 g4 g7 ⊢
    have hsX : Hid (w2.heap.size ≤ X.heap.size) := hid (by rw [hX]; have := b4.size; omega)
    clear hX
    have n0 : X.cell? ⟨w.heap.size + 1 + 1, 0, none⟩ = some (Value.slice none 0 0) := g1.1.2 0 (by simp); have n1 : X.cell? ⟨w.heap.size + 1 + 1, 1, none⟩ = some (Value.slice none 0 0) := g1.1.2 1 (by simp); have n2 : X.frozen? ⟨w.heap.size + 1 + 1, 0, none⟩ = false := g1.2 0 (by simp); have n3 : X.frozen? ⟨w.heap.size + 1 + 1, 1, none⟩ = false := g1.2 1 (by simp); have m0 : X.cell? ⟨w2.heap.size, 0, none⟩ = some (Value.slice xa hs.length xc) := g2.1.2 0 (by simp); have m1 : X.cell? ⟨w2.heap.size, 1, none⟩ = some (Value.slice ya ds.length yc) := g2.1.2 1 (by simp)
    have G3 := hid g3
    have G4 := hid g4
    have G7 := hid g7
    clear g1 g2 g3 g4 g7
    go_wp2
    refine bodyPost_ret (v := .tuple #[.agg #[Value.slice xa hs.length xc, Value.slice ya ds.length yc], .int .i64 (-1), .bool false]) ?_ rfl ⟨_, _, S0, S1, by rw [Hn.out, Hnn.out], ?_, ?_, ?_, ?_, ?_, ?_⟩
    · simp [results, Try.results28, go_sem, n0, n1, n2, n3, m0, m1]
    · exact G3.out.keep fun b hb => by
        have := (RG0.out b hb).1
        rw [heap_setCell_other _ _ b _ (by show b ≠ w.heap.size + 1 + 1; omega), heap_setCell_other _ _ b _ (by show b ≠ w.heap.size + 1 + 1; omega)]
    · rw [Hl.out]
      exact G4.out.keep fun b hb => by
        have := (RG1.out b hb).1
        rw [heap_setCell_other _ _ b _ (by show b ≠ w.heap.size + 1 + 1; omega), heap_setCell_other _ _ b _ (by show b ≠ w.heap.size + 1 + 1; omega)]
    · intro b hb
      have h8 := RG0.out b hb
      exact ⟨by have := h8.1; omega, by have := h8.2; have := hsX.out; simp [World.setCell]; omega⟩
    · intro b hb
      have h8 := RG1.out b hb
      exact ⟨by have := h8.1; omega, by have := h8.2; have := hsX.out; simp [World.setCell]; omega⟩
    · exact DJ.out
    · exact (G7.out.setCell (by show w.heap.size ≤ w.heap.size + 1 + 1; omega) _).setCell (by show w.heap.size ≤ w.heap.size + 1 + 1; omega) _
  | true =>
  have hD := hid hd0
  clear hd0
  have q1 : w4.cell? ⟨w.heap.size + 1, 1, none⟩ = some (.int .i64 d.status_) := g5.1.2 1 (by simp)
  by_cases hst : d.status_ = 0
  · have hst' : (d.status_ != 0) = false := by simp [hst]
    have Hst := hid hst
    clear hst
    have q0 : w4.cell? ⟨w.heap.size + 1, 0, none⟩ = some (.int .i64 d.owner_) := g5.1.2 0 (by simp)
    have q2 : w4.cell? ⟨w.heap.size + 1, 2, none⟩ = some (Value.slice a2 d.entries_.length cap2) := g5.1.2 2 (by simp)
    have m0 : w4.cell? ⟨w2.heap.size, 0, none⟩ = some (Value.slice xa hs.length xc) := g2.1.2 0 (by simp)
    have m1 : w4.cell? ⟨w2.heap.size, 1, none⟩ = some (Value.slice ya ds.length yc) := g2.1.2 1 (by simp)
    have hY4 := hid (rdsEntrys.1 g6)
    clear g1 g2 g3 g4 g5 g6 g7
    go_wp2_with fail
    refine (impl_hasObjectsOf xa hs.length xc ya ds.length yc d.owner_ d.status_ _ _ _ hlen0 hY4.out).mono ?_
    rintro e w5 ⟨rfl, b5⟩
    replace b5 : Below V.heap.size V w5 := b4.trans (b5.mono b4.size)
    clear q0 q1 q2 m0 m1 hY4 hst'
    obtain ⟨g1, g2, g3, g4, g5, g6, g7⟩ := TL.out w5 b5
    have hob := hid (objs_is (n := hs.length) hD.out)
    by_cases hge : (hs.length : Int) ≤ lastO d.entries_
    · have hob2 := hid (show d.entries_.all (objIn hs.length) = false by rw [hob.out, decide_eq_true hge]; rfl)
      rw [hob2.out]
      have Hn := hid (ann4 (ds := ds) hge)
      have Hnn := hid (annN_no Hn.out)
      have Hl := hid (annL_no Hn.out)
      clear hge g5 g6
      obtain ⟨X, hX⟩ : ∃ X, X = w5 := ⟨_, rfl⟩
      rw [← hX] at g1 g2 g3 g4 g7 ⊢
      have hsX : Hid (w2.heap.size ≤ X.heap.size) := hid (by rw [hX]; have := b5.size; omega)
      clear hX
      have n0 : X.cell? ⟨w.heap.size + 1 + 1, 0, none⟩ = some (Value.slice none 0 0) := g1.1.2 0 (by simp); have n1 : X.cell? ⟨w.heap.size + 1 + 1, 1, none⟩ = some (Value.slice none 0 0) := g1.1.2 1 (by simp); have n2 : X.frozen? ⟨w.heap.size + 1 + 1, 0, none⟩ = false := g1.2 0 (by simp); have n3 : X.frozen? ⟨w.heap.size + 1 + 1, 1, none⟩ = false := g1.2 1 (by simp); have m0 : X.cell? ⟨w2.heap.size, 0, none⟩ = some (Value.slice xa hs.length xc) := g2.1.2 0 (by simp); have m1 : X.cell? ⟨w2.heap.size, 1, none⟩ = some (Value.slice ya ds.length yc) := g2.1.2 1 (by simp)
      have G3 := hid g3
      have G4 := hid g4
      have G7 := hid g7
      clear g1 g2 g3 g4 g7
      go_wp2
      refine bodyPost_ret (v := .tuple #[.agg #[Value.slice xa hs.length xc, Value.slice ya ds.length yc], .int .i64 (-1), .bool false]) ?_ rfl ⟨_, _, S0, S1, by rw [Hn.out, Hnn.out], ?_, ?_, ?_, ?_, ?_, ?_⟩
      · simp [results, Try.results28, go_sem, n0, n1, n2, n3, m0, m1]
      · exact G3.out.keep fun b hb => by
          have := (RG0.out b hb).1
          rw [heap_setCell_other _ _ b _ (by show b ≠ w.heap.size + 1 + 1; omega), heap_setCell_other _ _ b _ (by show b ≠ w.heap.size + 1 + 1; omega)]
      · rw [Hl.out]
        exact G4.out.keep fun b hb => by
          have := (RG1.out b hb).1
          rw [heap_setCell_other _ _ b _ (by show b ≠ w.heap.size + 1 + 1; omega), heap_setCell_other _ _ b _ (by show b ≠ w.heap.size + 1 + 1; omega)]
      · intro b hb
        have h8 := RG0.out b hb
        exact ⟨by have := h8.1; omega, by have := h8.2; have := hsX.out; simp [World.setCell]; omega⟩
      · intro b hb
        have h8 := RG1.out b hb
        exact ⟨by have := h8.1; omega, by have := h8.2; have := hsX.out; simp [World.setCell]; omega⟩
      · exact DJ.out
      · exact (G7.out.setCell (by show w.heap.size ≤ w.heap.size + 1 + 1; omega) _).setCell (by show w.heap.size ≤ w.heap.size + 1 + 1; omega) _
    · have hob2 := hid (show d.entries_.all (objIn hs.length) = true by rw [hob.out, decide_eq_false hge]; rfl)
      rw [hob2.out]
      by_cases h60 : ds.length = 60
      · have h60' : ((ds.length : Int) == 60) = true := by rw [beq_iff_eq]; omega
        have Hn := hid (ann5 (hs := hs) (d := d) h60)
        have Hnn := hid (annN_no Hn.out)
        have Hl := hid (annL_no Hn.out)
        clear h60 hge g5 g6
        obtain ⟨X, hX⟩ : ∃ X, X = w5 := ⟨_, rfl⟩
        rw [← hX] at g1 g2 g3 g4 g7 ⊢
        have hsX : Hid (w2.heap.size ≤ X.heap.size) := hid (by rw [hX]; have := b5.size; omega)
        clear hX
        have n0 : X.cell? ⟨w.heap.size + 1 + 1, 0, none⟩ = some (Value.slice none 0 0) := g1.1.2 0 (by simp); have n1 : X.cell? ⟨w.heap.size + 1 + 1, 1, none⟩ = some (Value.slice none 0 0) := g1.1.2 1 (by simp); have n2 : X.frozen? ⟨w.heap.size + 1 + 1, 0, none⟩ = false := g1.2 0 (by simp); have n3 : X.frozen? ⟨w.heap.size + 1 + 1, 1, none⟩ = false := g1.2 1 (by simp); have m0 : X.cell? ⟨w2.heap.size, 0, none⟩ = some (Value.slice xa hs.length xc) := g2.1.2 0 (by simp); have m1 : X.cell? ⟨w2.heap.size, 1, none⟩ = some (Value.slice ya ds.length yc) := g2.1.2 1 (by simp)
        have G3 := hid g3
        have G4 := hid g4
        have G7 := hid g7
        clear g1 g2 g3 g4 g7
        go_wp2
        refine bodyPost_ret (v := .tuple #[.agg #[Value.slice xa hs.length xc, Value.slice ya ds.length yc], .int .i64 (-1), .bool false]) ?_ rfl ⟨_, _, S0, S1, by rw [Hn.out, Hnn.out], ?_, ?_, ?_, ?_, ?_, ?_⟩
        · simp [results, Try.results28, go_sem, n0, n1, n2, n3, m0, m1]
        · exact G3.out.keep fun b hb => by
            have := (RG0.out b hb).1
            rw [heap_setCell_other _ _ b _ (by show b ≠ w.heap.size + 1 + 1; omega), heap_setCell_other _ _ b _ (by show b ≠ w.heap.size + 1 + 1; omega)]
        · rw [Hl.out]
          exact G4.out.keep fun b hb => by
            have := (RG1.out b hb).1
            rw [heap_setCell_other _ _ b _ (by show b ≠ w.heap.size + 1 + 1; omega), heap_setCell_other _ _ b _ (by show b ≠ w.heap.size + 1 + 1; omega)]
        · intro b hb
          have h8 := RG0.out b hb
          exact ⟨by have := h8.1; omega, by have := h8.2; have := hsX.out; simp [World.setCell]; omega⟩
        · intro b hb
          have h8 := RG1.out b hb
          exact ⟨by have := h8.1; omega, by have := h8.2; have := hsX.out; simp [World.setCell]; omega⟩
        · exact DJ.out
        · exact (G7.out.setCell (by show w.heap.size ≤ w.heap.size + 1 + 1; omega) _).setCell (by show w.heap.size ≤ w.heap.size + 1 + 1; omega) _
      · have Hy := hid (ann6 hS.out hD.out Hst.out hge h60)
        have HN := hid (annN_yes Hy.out)
        have HL := hid (annL_yes Hy.out)
        have h60' : ((ds.length : Int) == 60) = false := by rw [beq_eq_false_iff_ne]; omega
        obtain ⟨V5, hV5⟩ : ∃ X, X = w5 := ⟨_, rfl⟩
        rw [← hV5] at g1 g2 g3 g4 g5 g6 g7 b5 ⊢
        have hs5 := b5.size
        clear h60 hge hV5
        have q0 : V5.cell? ⟨w.heap.size + 1, 0, none⟩ = some (.int .i64 d.owner_) := g5.1.2 0 (by simp)
        have q1 : V5.cell? ⟨w.heap.size + 1, 1, none⟩ = some (.int .i64 d.status_) := g5.1.2 1 (by simp)
        have q2 : V5.cell? ⟨w.heap.size + 1, 2, none⟩ = some (Value.slice a2 d.entries_.length cap2) := g5.1.2 2 (by simp)
        have m1 : V5.cell? ⟨w2.heap.size, 1, none⟩ = some (Value.slice ya ds.length yc) := g2.1.2 1 (by simp)
        have BRV5 := hid g1
        have BOV5 := hid g2
        have O0V5 := hid g3
        have ODV := hid g4
        have HY := hid g6
        have HBV5 := hid g7
        have hSM := hid (show ∀ b, S1 b → b < V5.heap.size ∧ b ≠ w2.heap.size from fun b hb => by have h8 := (RG1.out b hb).2; exact ⟨by omega, by omega⟩)
        clear g1 g2 g3 g4 g5 g6 g7 TL
        go_wp2_with fail
        go_region_law (first
          | (go_simp; go_at_call 67; refine (impl_copyDesc d _ _ (rdsL.below HY.out (by repeat (first | exact Below.refl _ _ | refine Below.drew ?_ | refine Below.alloc ?_ (by simp) _))) hxd).mono ?_; rintro e w6 ⟨u, rfl, o6, b6⟩; obtain ⟨ea, em, ec, rfl⟩ := ownL_shape o6; have hb6 : Below V5.heap.size V5 w6 := Below.trans (by repeat (first | exact Below.refl _ _ | refine Below.drew ?_ | refine Below.alloc ?_ (by simp) _)) (b6.mono (by simp)); obtain ⟨-, css, hown8, hl8, hfin⟩ := append_box (A := encDesc) (j := 1) ODV.out hSM.out BOV5.out (by simp) hb6 (⟨_, rfl, o6⟩ : encDesc.own _ w6 [.int .i64 d.owner_, .int .i64 d.status_, Value.slice ea em ec] d) (fun b hb => hb); have kM : w6.cell? ⟨w2.heap.size, 1, none⟩ = some (Value.slice ya ds.length yc) := (hb6.cell (p := ⟨w2.heap.size, 1, none⟩) BOV5.out.1.1).trans (BOV5.out.1.2 1 (by simp)); have kMa : (w6.alloc (.cells #[.int .i64 d.owner_, .int .i64 d.status_, Value.slice ea em ec] 57)).cell? ⟨w2.heap.size, 1, none⟩ = some (Value.slice ya ds.length yc) := (((Below.refl _ _).alloc (Nat.le_refl _) _ : Below w6.heap.size w6 (w6.alloc (.cells #[.int .i64 d.owner_, .int .i64 d.status_, Value.slice ea em ec] 57))).cell (p := ⟨w2.heap.size, 1, none⟩) (Nat.lt_of_lt_of_le BOV5.out.1.1 hb6.size)).trans kM; have hone8 : ∀ c ∈ [Value.int .i64 d.owner_, .int .i64 d.status_, Value.slice ea em ec], c.oneCell' = true := (by intro c hc; simp at hc; rcases hc with rfl | rfl | rfl <;> rfl))
          | (refine step_append_at rfl (.tmp 38) (.tmp 41) 29 rfl 0 57 j0 (.agg #[.int .i64 0, .int .i64 0, .slice none 0 0]) 3 40 Try.underlying29 hj hy0 hy1 hy2 rfl (by decide) _ ds.length _ rfl hown8 _ 1 [Value.int .i64 d.owner_, .int .i64 d.status_, Value.slice ea em ec] rfl hl8 (by decide) hone8 (by unfold maxLen; omega) (by omega) (by simp) ?_; intro v8 w8 o8 g8 p8; obtain ⟨za, zc, rfl, BM8, BM9, OD9, C9, C8, hs9, hs8⟩ := hfin v8 w8 o8 g8 p8; have n1 : w8.cell? ⟨w2.heap.size, 1, none⟩ = some (Value.slice ya ds.length yc) := BM8.1.2 1 (by simp); have n2 : w8.frozen? ⟨w2.heap.size, 1, none⟩ = false := BM8.2 1 (by simp)))
        all_goals have hnb : ∀ b, b < w2.heap.size → ¬ S1 b → ¬ (b = w2.heap.size ∨ S1 b) := fun b h1 h2 h => h.elim (fun h => by omega) h2
        all_goals have BR9 := BRV5.out.chg C9 (hnb _ (by omega) (fun h => by have := (RG1.out _ h).1; omega))
        all_goals have O09 := O0V5.out.chg C9 fun b hb => ⟨by have := (RG0.out b hb).2; omega, hnb b (RG0.out b hb).2 (DJ.out b hb)⟩
        all_goals obtain ⟨W9, hW9⟩ : ∃ X, w8.setCell ⟨w2.heap.size, 1, none⟩ (Value.slice za (ds.length + 1) zc) = X := ⟨_, rfl⟩
        all_goals rw [hW9] at BM9 OD9 C9 hs9 BR9 O09
        all_goals have BO9 : BoxF W9 w2.heap.size [Value.slice xa hs.length xc, Value.slice za (ds.length + 1) zc] := BM9
        all_goals have O19 := hid OD9
        all_goals have O09' := hid O09
        all_goals have hB9 := hid (below_chg HBV5.out C9 (by have := HBV5.out.size; omega) fun b hb => hb.elim (fun h => by omega) fun h => by have := (RG1.out b h).1; omega)
        all_goals have x0 : W9.cell? ⟨w2.heap.size, 0, none⟩ = some (Value.slice xa hs.length xc) := BO9.1.2 0 (by simp)
        all_goals have x1 : W9.cell? ⟨w2.heap.size, 1, none⟩ = some (Value.slice za (ds.length + 1) zc) := BO9.1.2 1 (by simp)
        all_goals have r0 : W9.cell? ⟨w.heap.size + 1 + 1, 0, none⟩ = some (Value.slice none 0 0) := BR9.1.2 0 (by simp)
        all_goals have r1 : W9.cell? ⟨w.heap.size + 1 + 1, 1, none⟩ = some (Value.slice none 0 0) := BR9.1.2 1 (by simp)
        all_goals have r2 : W9.frozen? ⟨w.heap.size + 1 + 1, 0, none⟩ = false := BR9.2 0 (by simp)
        all_goals have r3 : W9.frozen? ⟨w.heap.size + 1 + 1, 1, none⟩ = false := BR9.2 1 (by simp)
        all_goals have Hs9 := hid hs9
        all_goals have Hs8 := hid hs8
        all_goals have HW9 := hid hW9
        all_goals have hq1 := hid (show ∀ b, (S1 b ∨ (V5.heap.size ≤ b ∧ b < w8.heap.size)) → b ≠ w.heap.size + 1 + 1 from fun b hb => hb.elim (fun h => by have := (RG1.out b h).1; omega) (fun h => by have := h.1; omega))
        all_goals have hq2 := hid (show ∀ N, N = W9.heap.size → ∀ b, (S1 b ∨ (V5.heap.size ≤ b ∧ b < w8.heap.size)) → Rg w.heap.size N b from fun N hN b hb => hb.elim (fun h => by have h8 := RG1.out b h; have h81 := h8.1; have h82 := h8.2; exact ⟨by omega, by omega⟩) (fun h => ⟨by have := h.1; omega, by have := h.2; omega⟩))
        all_goals clear hW9 BM8 BM9 OD9 C9 C8 hfin o8 g8 p8 hown8 hl8 hone8 o6 b6 hb6 kM kMa q0 q1 q2 m1 hnb BO9 BR9 O09 hs9 hs8
        all_goals rw [HW9.out]
        all_goals go_wp2
        all_goals refine bodyPost_ret (v := .tuple #[.agg #[Value.slice xa hs.length xc, Value.slice za (ds.length + 1) zc], .int .i64 (ds.length : Int), .bool true]) ?_ rfl ?_
        all_goals first
          | (simp [results, Try.results28, go_sem, r0, r1, r2, r3, x0, x1]; done)
          | refine ⟨_, _, S0, _, by rw [Hy.out, HN.out], O09'.out.keep fun b hb => ?_, by rw [HL.out]; exact O19.out.keep fun b hb => (heap_setCell_other _ _ b _ (hq1.out b hb)).trans (heap_setCell_other _ _ b _ (hq1.out b hb)), fun b hb => ?_, fun b hb => hq2.out _ (by simp [World.setCell]) b hb, fun b hb h => ?_, (hB9.out.setCell (by show w.heap.size ≤ w.heap.size + 1 + 1; omega) _).setCell (by show w.heap.size ≤ w.heap.size + 1 + 1; omega) _⟩
        all_goals have h8 := RG0.out b hb
        all_goals have h81 := h8.1
        all_goals have h82 := h8.2
        all_goals first
          | exact (heap_setCell_other _ _ b _ (by show b ≠ w.heap.size + 1 + 1; omega)).trans (heap_setCell_other _ _ b _ (by show b ≠ w.heap.size + 1 + 1; omega))
          | exact ⟨by omega, by have := Hs9.out; have := Hs8.out; simp [World.setCell]; omega⟩
          | (rcases h with h | h; (exact DJ.out b hb h); (have := h.1; omega))
  · have Hn := hid (ann3 (hs := hs) (ds := ds) hst)
    have Hnn := hid (annN_no Hn.out)
    have Hl := hid (annL_no Hn.out)
    have hst' : (d.status_ != 0) = true := by simp [hst]
    clear hst g5 g6
    obtain ⟨X, hX⟩ : ∃ X, X = w4 := ⟨_, rfl⟩
    rw [← hX] at g1 g2 g3 g4 g7 q1 ⊢
    have hsX : Hid (w2.heap.size ≤ X.heap.size) := hid (by rw [hX]; have := b4.size; omega)
    clear hX
    have n0 : X.cell? ⟨w.heap.size + 1 + 1, 0, none⟩ = some (Value.slice none 0 0) := g1.1.2 0 (by simp); have n1 : X.cell? ⟨w.heap.size + 1 + 1, 1, none⟩ = some (Value.slice none 0 0) := g1.1.2 1 (by simp); have n2 : X.frozen? ⟨w.heap.size + 1 + 1, 0, none⟩ = false := g1.2 0 (by simp); have n3 : X.frozen? ⟨w.heap.size + 1 + 1, 1, none⟩ = false := g1.2 1 (by simp); have m0 : X.cell? ⟨w2.heap.size, 0, none⟩ = some (Value.slice xa hs.length xc) := g2.1.2 0 (by simp); have m1 : X.cell? ⟨w2.heap.size, 1, none⟩ = some (Value.slice ya ds.length yc) := g2.1.2 1 (by simp)
    have G3 := hid g3
    have G4 := hid g4
    have G7 := hid g7
    clear g1 g2 g3 g4 g7
    go_wp2
    refine bodyPost_ret (v := .tuple #[.agg #[Value.slice xa hs.length xc, Value.slice ya ds.length yc], .int .i64 (-1), .bool false]) ?_ rfl ⟨_, _, S0, S1, by rw [Hn.out, Hnn.out], ?_, ?_, ?_, ?_, ?_, ?_⟩
    · simp [results, Try.results28, go_sem, n0, n1, n2, n3, m0, m1]
    · exact G3.out.keep fun b hb => by
        have := (RG0.out b hb).1
        rw [heap_setCell_other _ _ b _ (by show b ≠ w.heap.size + 1 + 1; omega), heap_setCell_other _ _ b _ (by show b ≠ w.heap.size + 1 + 1; omega)]
    · rw [Hl.out]
      exact G4.out.keep fun b hb => by
        have := (RG1.out b hb).1
        rw [heap_setCell_other _ _ b _ (by show b ≠ w.heap.size + 1 + 1; omega), heap_setCell_other _ _ b _ (by show b ≠ w.heap.size + 1 + 1; omega)]
    · intro b hb
      have h8 := RG0.out b hb
      exact ⟨by have := h8.1; omega, by have := h8.2; have := hsX.out; simp [World.setCell]; omega⟩
    · intro b hb
      have h8 := RG1.out b hb
      exact ⟨by have := h8.1; omega, by have := h8.2; have := hsX.out; simp [World.setCell]; omega⟩
    · exact DJ.out
    · exact (G7.out.setCell (by show w.heap.size ≤ w.heap.size + 1 + 1; omega) _).setCell (by show w.heap.size ≤ w.heap.size + 1 + 1; omega) _
end Go.Proofs.Ytpdgpblekbongaa
