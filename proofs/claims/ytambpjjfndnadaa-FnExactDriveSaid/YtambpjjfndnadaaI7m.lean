/- Chapter 7's program: Drive. -/
import Derived.Test.YtambpjjfndnadaaI7g
import Derived.Test.YtambpjjfndnadaaI7n
import Derived.Test.YtambpjjfndnadaaS7h
namespace Go.Proofs.Ytambpjjfndnadaa
set_option maxRecDepth 100000
open Go.RowKit Go.Proofs Go.Own
open Go Go.BigFrame
set_option linter.unusedVariables false
set_option linter.unusedSimpArgs false
set_option maxHeartbeats 8000000 in
theorem impl_Drive0 (hs : List Head) (ds : List DescD) (f : Frame) (v0 v1 : Value) (w : World) (hx0 : hs.length ≤ 1048576) (hx1 : ds.length ≤ 1048576) (hx2 : ∀ i, (h : i < ds.length) → ds[i].entries_.length ≤ 1048576) (h0 : rdsL w v0 hs) (h1 : rdsL w v1 ds) :
    Calls Try.prog 14 #[.agg #[v0, v1], .agg #[.int .i64 f.desc_, .int .i64 f.phase_, .int .i64 f.at_]] w fun e w' => ∃ u0 u1 : Value, e = .returned (.tuple #[.agg #[u0, u1], .agg #[.int .i64 (driveR hs ds f).f.desc_, .int .i64 (driveR hs ds f).f.phase_, .int .i64 (driveR hs ds f).f.at_], .int .i64 (driveR hs ds f).n]) ∧ StoreOwn w w' u0 u1 (driveR hs ds f).hs (driveR hs ds f).ds ∧ Below w.heap.size w w' := by
  have H0 := hid h0
  have H1 := hid h1
  have HX2 := hid hx2
  obtain ⟨a0, cap0, rfl, hl0, hm0, -⟩ := rdsL_open h0
  obtain ⟨a1, cap1, rfl, hl1, hm1, -⟩ := rdsL_open h1
  clear h0 h1 hx2
  have hlen0 : hs.length ≤ 9223372036854775807 := by omega
  have hlen1 : ds.length ≤ 9223372036854775807 := by omega
  obtain ⟨W1, hW1⟩ : ∃ X, ((((w.alloc (.cells #[Value.slice a0 hs.length cap0, Value.slice a1 ds.length cap1] 32)).alloc (.cells #[.int .i64 f.desc_, .int .i64 f.phase_, .int .i64 f.at_] 33)).alloc (.cells #[Value.slice none 0 0, Value.slice none 0 0] 32)).alloc (.cells #[.int .i64 0, .int .i64 0, .int .i64 0] 33)) = X := ⟨_, rfl⟩
  have hB1 : Below w.heap.size w W1 := by rw [← hW1]; exact ((((Below.refl _ _).alloc (Nat.le_refl _) _).alloc (by simp) _).alloc (by simp; omega) _).alloc (by simp; omega) _
  have hN : W1.heap.size = w.heap.size + 4 := by rw [← hW1]; simp
  have bs : BoxF W1 (w.heap.size) [Value.slice a0 hs.length cap0, Value.slice a1 ds.length cap1] := by
    rw [← hW1]
    have h1 := BoxF.alloc w #[Value.slice a0 hs.length cap0, Value.slice a1 ds.length cap1] 32
    exact (((h1.below ((Below.refl _ _).alloc (Nat.le_refl _) _)).below ((Below.refl _ _).alloc (Nat.le_refl _) _)).below ((Below.refl _ _).alloc (Nat.le_refl _) _))
  have bf : BoxF W1 (w.heap.size + 1) [.int .i64 f.desc_, .int .i64 f.phase_, .int .i64 f.at_] := by
    rw [← hW1]
    have h1 := BoxF.alloc (w.alloc (.cells #[Value.slice a0 hs.length cap0, Value.slice a1 ds.length cap1] 32)) #[.int .i64 f.desc_, .int .i64 f.phase_, .int .i64 f.at_] 33
    rw [show (w.alloc (.cells #[Value.slice a0 hs.length cap0, Value.slice a1 ds.length cap1] 32)).heap.size = w.heap.size + 1 by simp] at h1
    exact ((h1.below ((Below.refl _ _).alloc (Nat.le_refl _) _)).below ((Below.refl _ _).alloc (Nat.le_refl _) _))
  have bq : BoxF W1 (w.heap.size + 1 + 1) [Value.slice none 0 0, Value.slice none 0 0] := by
    rw [← hW1]
    have h1 := BoxF.alloc ((w.alloc (.cells #[Value.slice a0 hs.length cap0, Value.slice a1 ds.length cap1] 32)).alloc (.cells #[.int .i64 f.desc_, .int .i64 f.phase_, .int .i64 f.at_] 33)) #[Value.slice none 0 0, Value.slice none 0 0] 32
    rw [show ((w.alloc (.cells #[Value.slice a0 hs.length cap0, Value.slice a1 ds.length cap1] 32)).alloc (.cells #[.int .i64 f.desc_, .int .i64 f.phase_, .int .i64 f.at_] 33)).heap.size = w.heap.size + 1 + 1 by simp] at h1
    exact (h1.below ((Below.refl _ _).alloc (Nat.le_refl _) _))
  have br : BoxF W1 (w.heap.size + 1 + 1 + 1) [.int .i64 0, .int .i64 0, .int .i64 0] := by
    rw [← hW1]
    have h1 := BoxF.alloc (((w.alloc (.cells #[Value.slice a0 hs.length cap0, Value.slice a1 ds.length cap1] 32)).alloc (.cells #[.int .i64 f.desc_, .int .i64 f.phase_, .int .i64 f.at_] 33)).alloc (.cells #[Value.slice none 0 0, Value.slice none 0 0] 32)) #[.int .i64 0, .int .i64 0, .int .i64 0] 33
    rw [show (((w.alloc (.cells #[Value.slice a0 hs.length cap0, Value.slice a1 ds.length cap1] 32)).alloc (.cells #[.int .i64 f.desc_, .int .i64 f.phase_, .int .i64 f.at_] 33)).alloc (.cells #[Value.slice none 0 0, Value.slice none 0 0] 32)).heap.size = w.heap.size + 1 + 1 + 1 by simp] at h1
    exact h1
  have k0 : W1.cell? ⟨w.heap.size, 0, none⟩ = some (Value.slice a0 hs.length cap0) := bs.1.2 0 (by simp)
  have k1 : W1.cell? ⟨w.heap.size, 1, none⟩ = some (Value.slice a1 ds.length cap1) := bs.1.2 1 (by simp)
  have R0 := hid (rdsL.below H0.out hB1)
  have R1 := hid (rdsL.below H1.out hB1)
  have BS := hid bs
  have BF := hid bf
  have BQ := hid bq
  have BR := hid br
  have HW1 := hid hW1
  clear bs bf bq br hW1
  go_enter Try.func14, Try.ntmps14
  go_wp2_with fail
  rw [HW1.out]
  refine (impl_copyStore0 hs ds _ _ _ hx0 hx1 HX2.out R0.out R1.out).mono ?_
  rintro e w2 ⟨u0, u1, S0, S1, rfl, o0, o1, rg0, rg1, dj, b2⟩
  obtain ⟨xa, xc, rfl, -, -⟩ := ownL_len o0
  obtain ⟨ya, yc, rfl, -, -⟩ := ownL_len o1
  have hB2 := hB1.trans (b2.mono hB1.size)
  have hs2 := b2.size
  obtain ⟨V, hV⟩ : ∃ X, w2.alloc (.cells #[Value.slice xa hs.length xc, Value.slice ya ds.length yc] 32) = X := ⟨_, rfl⟩
  have hsV : V.heap.size = w2.heap.size + 1 := by rw [← hV]; simp
  have b2V : Below w2.heap.size w2 V := by rw [← hV]; exact (Below.refl _ _).alloc (Nat.le_refl _) _
  have hBV := hB2.trans (b2V.mono hB2.size)
  have BSV := hid ((BS.out.below b2).below b2V)
  have BFV := hid ((BF.out.below b2).below b2V)
  have BQV := hid ((BQ.out.below b2).below b2V)
  have BRV := hid ((BR.out.below b2).below b2V)
  have BOV : Hid (BoxF V w2.heap.size [Value.slice xa hs.length xc, Value.slice ya ds.length yc]) := by rw [← hV]; exact hid (BoxF.alloc w2 #[Value.slice xa hs.length xc, Value.slice ya ds.length yc] 32)
  have O0V := hid (o0.keep (w' := V) fun b hb => b2V.block b (rg0 b hb).2)
  have O1V := hid (o1.keep (w' := V) fun b hb => b2V.block b (rg1 b hb).2)
  have hMM : w.heap.size + 4 ≤ w2.heap.size := by omega
  have RG0 := hid (fun b (hb : S0 b) => (show w.heap.size + 4 ≤ b ∧ b < w2.heap.size from ⟨by have := (rg0 b hb).1; omega, (rg0 b hb).2⟩))
  have RG1 := hid (fun b (hb : S1 b) => (show w.heap.size + 4 ≤ b ∧ b < w2.heap.size from ⟨by have := (rg1 b hb).1; omega, (rg1 b hb).2⟩))
  have DJ := hid dj
  have HV := hid hV
  have HBV := hid hBV
  have q0 : (w2.alloc (.cells #[Value.slice xa hs.length xc, Value.slice ya ds.length yc] 32)).cell? ⟨w2.heap.size, 0, none⟩ = some (Value.slice xa hs.length xc) := by rw [HV.out]; exact BOV.out.1.2 0 (by simp)
  have q1 : (w2.alloc (.cells #[Value.slice xa hs.length xc, Value.slice ya ds.length yc] 32)).cell? ⟨w2.heap.size, 1, none⟩ = some (Value.slice ya ds.length yc) := by rw [HV.out]; exact BOV.out.1.2 1 (by simp)
  have q2 : (w2.alloc (.cells #[Value.slice xa hs.length xc, Value.slice ya ds.length yc] 32)).cell? ⟨w.heap.size + 1, 0, none⟩ = some (.int .i64 f.desc_) := by rw [HV.out]; exact BFV.out.1.2 0 (by simp)
  have q3 : (w2.alloc (.cells #[Value.slice xa hs.length xc, Value.slice ya ds.length yc] 32)).cell? ⟨w.heap.size + 1, 1, none⟩ = some (.int .i64 f.phase_) := by rw [HV.out]; exact BFV.out.1.2 1 (by simp)
  have q4 : (w2.alloc (.cells #[Value.slice xa hs.length xc, Value.slice ya ds.length yc] 32)).cell? ⟨w.heap.size + 1, 2, none⟩ = some (.int .i64 f.at_) := by rw [HV.out]; exact BFV.out.1.2 2 (by simp)
  have P0 := hid (ownL.rds O0V.out)
  have P1 := hid (ownL.rds O1V.out)
  clear o0 o1 rg0 rg1 dj hV BS BF BQ BR R0 R1 HW1 k0 k1 b2 b2V hBV
  go_wp2_with fail
  rw [HV.out]
  clear q0 q1 q2 q3 q4
  refine (impl_FrameOk0 hs ds _ _ f _ P0.out P1.out).mono ?_
  rintro e w3 ⟨rfl, b3⟩
  have hs3 := b3.size
  have HB3 := hid (HBV.out.trans (b3.mono HBV.out.size))
  have BF3 := hid (BFV.out.below b3)
  have BQ3 := hid (BQV.out.below b3)
  have BR3 := hid (BRV.out.below b3)
  have BO3 := hid (BOV.out.below b3)
  have O03 := hid (O0V.out.keep (w' := w3) fun b hb => b3.block b (by have := (RG0.out b hb).2; omega))
  have O13 := hid (O1V.out.keep (w' := w3) fun b hb => b3.block b (by have := (RG1.out b hb).2; omega))
  clear P0 P1 BSV BFV BQV BRV BOV O0V O1V b3
  have hs3b := hid (show w2.heap.size ≤ w3.heap.size by omega)
  have hbq : w.heap.size + 1 + 1 ≠ w.heap.size + 1 + 1 + 1 := by omega
  cases hfo : frameOk hs ds f with
  | false =>
    have HR := hid (driveR_no hfo)
    have m0 : w3.cell? ⟨w2.heap.size, 0, none⟩ = some (Value.slice xa hs.length xc) := BO3.out.1.2 0 (by simp)
    have m1 : w3.cell? ⟨w2.heap.size, 1, none⟩ = some (Value.slice ya ds.length yc) := BO3.out.1.2 1 (by simp)
    have p0 : w3.cell? ⟨w.heap.size + 1, 0, none⟩ = some (.int .i64 f.desc_) := BF3.out.1.2 0 (by simp)
    have p1 : w3.cell? ⟨w.heap.size + 1, 1, none⟩ = some (.int .i64 f.phase_) := BF3.out.1.2 1 (by simp)
    have p2 : w3.cell? ⟨w.heap.size + 1, 2, none⟩ = some (.int .i64 f.at_) := BF3.out.1.2 2 (by simp)
    have n0 : w3.cell? ⟨w.heap.size + 1 + 1, 0, none⟩ = some (Value.slice none 0 0) := BQ3.out.1.2 0 (by simp)
    have zn0 : w3.frozen? ⟨w.heap.size + 1 + 1, 0, none⟩ = false := BQ3.out.2 0 (by simp)
    have n1 : w3.cell? ⟨w.heap.size + 1 + 1, 1, none⟩ = some (Value.slice none 0 0) := BQ3.out.1.2 1 (by simp)
    have zn1 : w3.frozen? ⟨w.heap.size + 1 + 1, 1, none⟩ = false := BQ3.out.2 1 (by simp)
    have r0 : w3.cell? ⟨w.heap.size + 1 + 1 + 1, 0, none⟩ = some (.int .i64 0) := BR3.out.1.2 0 (by simp)
    have zr0 : w3.frozen? ⟨w.heap.size + 1 + 1 + 1, 0, none⟩ = false := BR3.out.2 0 (by simp)
    have r1 : w3.cell? ⟨w.heap.size + 1 + 1 + 1, 1, none⟩ = some (.int .i64 0) := BR3.out.1.2 1 (by simp)
    have zr1 : w3.frozen? ⟨w.heap.size + 1 + 1 + 1, 1, none⟩ = false := BR3.out.2 1 (by simp)
    have r2 : w3.cell? ⟨w.heap.size + 1 + 1 + 1, 2, none⟩ = some (.int .i64 0) := BR3.out.1.2 2 (by simp)
    have zr2 : w3.frozen? ⟨w.heap.size + 1 + 1 + 1, 2, none⟩ = false := BR3.out.2 2 (by simp)
    go_wp2_with fail
    go_region
    all_goals go_wp2_with ((try simp only [Exit.inBlock, Exit.then]); (with_reducible refine bodyPost_ret (v := .tuple #[.agg #[Value.slice xa hs.length xc, Value.slice ya ds.length yc], .agg #[.int .i64 f.desc_, .int .i64 f.phase_, .int .i64 f.at_], .int .i64 (-1)]) ?_ (by exact rfl) ?_); (simp [results, Try.results14, go_sem, n0, n1, zn0, zn1, r0, r1, r2, zr0, zr1, zr2, hbq]); (exact ⟨_, _, by rw [HR.out], StoreOwn.five (by rw [HR.out]; exact O03.out) (by rw [HR.out]; exact O13.out) RG0.out RG1.out DJ.out hs3b.out HB3.out, by first | exact five_below HB3.out (by omega) (by omega) | exact (five_below HB3.out (by omega) (by omega)).drew | exact five_below HB3.out.drew (by omega) (by omega)⟩))
  | true =>
    have HR := hid (driveR_yes hfo)
    have m0 : w3.cell? ⟨w2.heap.size, 0, none⟩ = some (Value.slice xa hs.length xc) := BO3.out.1.2 0 (by simp)
    have m1 : w3.cell? ⟨w2.heap.size, 1, none⟩ = some (Value.slice ya ds.length yc) := BO3.out.1.2 1 (by simp)
    have p0 : w3.cell? ⟨w.heap.size + 1, 0, none⟩ = some (.int .i64 f.desc_) := BF3.out.1.2 0 (by simp)
    have p1 : w3.cell? ⟨w.heap.size + 1, 1, none⟩ = some (.int .i64 f.phase_) := BF3.out.1.2 1 (by simp)
    have p2 : w3.cell? ⟨w.heap.size + 1, 2, none⟩ = some (.int .i64 f.at_) := BF3.out.1.2 2 (by simp)
    go_wp2_with fail
    refine (impl_drive0 hs ds S0 S1 _ _ f _ (fun b hb => by have := (RG0.out b hb).2; omega) (fun b hb => by have := (RG1.out b hb).2; omega) DJ.out O03.out O13.out hfo).mono ?_
    rintro e w4 ⟨rfl, o04, o14, C4⟩
    have hs4 := C4.size
    have hnS : ∀ b, (b < w.heap.size + 4 ∨ w2.heap.size ≤ b) → ¬ (S0 b ∨ S1 b) := fun b h hb => hb.elim (fun h8 => by have := RG0.out b h8; omega) fun h8 => by have := RG1.out b h8; omega
    obtain ⟨FR, hFR⟩ : ∃ FR, Hid (stepF hs ds f = FR) := ⟨_, hid rfl⟩
    obtain ⟨NV, hNV⟩ : ∃ NV, Hid (stepN hs ds f = NV) := ⟨_, hid rfl⟩
    have HR2 := hid (show driveR hs ds f = ⟨stepH hs ds f, stepD ds f, FR, NV⟩ by rw [HR.out, hFR.out, hNV.out])
    rw [hFR.out, hNV.out]
    obtain ⟨V5, hV5⟩ : ∃ X, w4.alloc (.cells #[.int .i64 FR.desc_, .int .i64 FR.phase_, .int .i64 FR.at_] 33) = X := ⟨_, rfl⟩
    have b5 : Below w4.heap.size w4 V5 := by rw [← hV5]; exact (Below.refl _ _).alloc (Nat.le_refl _) _
    have hs5 : V5.heap.size = w4.heap.size + 1 := by rw [← hV5]; simp
    have BQ5 := hid ((BQ3.out.chg C4 (hnS _ (by omega))).below b5)
    have BR5 := hid ((BR3.out.chg C4 (hnS _ (by omega))).below b5)
    have BO5 := hid ((BO3.out.chg C4 (hnS _ (by omega))).below b5)
    have BE5 : Hid (BoxF V5 w4.heap.size [.int .i64 FR.desc_, .int .i64 FR.phase_, .int .i64 FR.at_]) := by rw [← hV5]; exact hid (BoxF.alloc w4 #[.int .i64 FR.desc_, .int .i64 FR.phase_, .int .i64 FR.at_] 33)
    have O05 := hid (o04.keep (w' := V5) fun b hb => b5.block b (by have := (RG0.out b hb).2; omega))
    have O15 := hid (o14.keep (w' := V5) fun b hb => b5.block b (by have := (RG1.out b hb).2; omega))
    have HB5 := hid ((below_chg HB3.out C4 HB3.out.size (fun b hb => hb.elim (fun h8 => by have := (RG0.out b h8).1; omega) fun h8 => by have := (RG1.out b h8).1; omega)).trans (b5.mono (by have := HB3.out.size; omega)))
    have hs6b := hid (show w2.heap.size ≤ V5.heap.size by omega)
    have HV5 := hid hV5
    clear BF3 BQ3 BR3 BO3 O03 O13 o04 o14 C4 b5 hnS m0 m1 p0 p1 p2 hV5
    have hw4 : Hid (w2.heap.size < w4.heap.size) := hid (by omega)
    have m0 : V5.cell? ⟨w2.heap.size, 0, none⟩ = some (Value.slice xa hs.length xc) := BO5.out.1.2 0 (by simp)
    have m1 : V5.cell? ⟨w2.heap.size, 1, none⟩ = some (Value.slice ya ds.length yc) := BO5.out.1.2 1 (by simp)
    have p0 : V5.cell? ⟨w4.heap.size, 0, none⟩ = some (.int .i64 FR.desc_) := BE5.out.1.2 0 (by simp)
    have p1 : V5.cell? ⟨w4.heap.size, 1, none⟩ = some (.int .i64 FR.phase_) := BE5.out.1.2 1 (by simp)
    have p2 : V5.cell? ⟨w4.heap.size, 2, none⟩ = some (.int .i64 FR.at_) := BE5.out.1.2 2 (by simp)
    have n0 : V5.cell? ⟨w.heap.size + 1 + 1, 0, none⟩ = some (Value.slice none 0 0) := BQ5.out.1.2 0 (by simp)
    have zn0 : V5.frozen? ⟨w.heap.size + 1 + 1, 0, none⟩ = false := BQ5.out.2 0 (by simp)
    have n1 : V5.cell? ⟨w.heap.size + 1 + 1, 1, none⟩ = some (Value.slice none 0 0) := BQ5.out.1.2 1 (by simp)
    have zn1 : V5.frozen? ⟨w.heap.size + 1 + 1, 1, none⟩ = false := BQ5.out.2 1 (by simp)
    have r0 : V5.cell? ⟨w.heap.size + 1 + 1 + 1, 0, none⟩ = some (.int .i64 0) := BR5.out.1.2 0 (by simp)
    have zr0 : V5.frozen? ⟨w.heap.size + 1 + 1 + 1, 0, none⟩ = false := BR5.out.2 0 (by simp)
    have r1 : V5.cell? ⟨w.heap.size + 1 + 1 + 1, 1, none⟩ = some (.int .i64 0) := BR5.out.1.2 1 (by simp)
    have zr1 : V5.frozen? ⟨w.heap.size + 1 + 1 + 1, 1, none⟩ = false := BR5.out.2 1 (by simp)
    have r2 : V5.cell? ⟨w.heap.size + 1 + 1 + 1, 2, none⟩ = some (.int .i64 0) := BR5.out.1.2 2 (by simp)
    have zr2 : V5.frozen? ⟨w.heap.size + 1 + 1 + 1, 2, none⟩ = false := BR5.out.2 2 (by simp)
    have hv5 := HV5.out
    have hne1 : w4.heap.size ≠ w.heap.size + 1 + 1 := by have h8 := hw4.out; omega
    have hne2 : w4.heap.size ≠ w.heap.size + 1 + 1 + 1 := by have h8 := hw4.out; omega
    have hne3 : w2.heap.size ≠ w.heap.size + 1 + 1 := by omega
    have hne4 : w2.heap.size ≠ w.heap.size + 1 + 1 + 1 := by omega
    go_wp2_with fail
    go_region
    all_goals go_wp2_with ((try simp only [Exit.inBlock, Exit.then]); (with_reducible refine bodyPost_ret (v := .tuple #[.agg #[Value.slice xa hs.length xc, Value.slice ya ds.length yc], .agg #[.int .i64 FR.desc_, .int .i64 FR.phase_, .int .i64 FR.at_], .int .i64 (NV)]) ?_ (by exact rfl) ?_); (simp [results, Try.results14, go_sem, n0, n1, zn0, zn1, r0, r1, r2, zr0, zr1, zr2, hbq]); (exact ⟨_, _, by rw [HR2.out], StoreOwn.five (by rw [HR2.out]; exact O05.out) (by rw [HR2.out]; exact O15.out) RG0.out RG1.out DJ.out hs6b.out HB5.out, by first | exact five_below HB5.out (by omega) (by omega) | exact (five_below HB5.out (by omega) (by omega)).drew | exact five_below HB5.out.drew (by omega) (by omega)⟩))
end Go.Proofs.Ytambpjjfndnadaa
