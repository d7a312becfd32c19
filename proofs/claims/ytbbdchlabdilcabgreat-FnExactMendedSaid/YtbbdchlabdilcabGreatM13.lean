/- Chapter 8's model: Finish. -/
import Derived.Test.YtbbdchlabdilcabGreatS8b
import Derived.Test.YtbbdchlabdilcabGreatM12
import Derived.WalkMore
namespace Go.Proofs.YtbbdchlabdilcabGreat
set_option maxRecDepth 100000
open Go.RowKit Go.Proofs Go.Own
open Go Go.BigFrame
set_option linter.unusedVariables false
set_option linter.unusedSimpArgs false
/-- The result's box is laid: what is the call's own stays. -/
theorem SOwn.fin {w X : World} {u0 u1 : Value} {hs : List Head} {ds : List DescD} {S0 S1 : Nat → Prop} {R : Nat} {a b : Value} (o0 : ownL S0 X u0 hs) (o1 : ownL S1 X u1 ds) (g0 : ∀ k, S0 k → w.heap.size ≤ k ∧ k < X.heap.size ∧ k ≠ R) (g1 : ∀ k, S1 k → w.heap.size ≤ k ∧ k < X.heap.size ∧ k ≠ R)
    (d01 : ∀ k, S0 k → ¬ S1 k) : StoreOwn w ((X.setCell ⟨R, 0, none⟩ a).setCell ⟨R, 1, none⟩ b) u0 u1 hs ds :=
  ⟨S0, S1, own_set (own_set o0 fun k h => (g0 k h).2.2) fun k h => (g0 k h).2.2, own_set (own_set o1 fun k h => (g1 k h).2.2) fun k h => (g1 k h).2.2,
    fun k h => ⟨(g0 k h).1, by simpa [World.setCell] using (g0 k h).2.1⟩, fun k h => ⟨(g1 k h).1, by simpa [World.setCell] using (g1 k h).2.1⟩, d01⟩
/-- What has been reached behind some steps, in memory. -/
def FinMem (m : Nat) (x : HS) (S0 S1 S2 : Nat → Prop) (v0 v1 : Value) (wb wr : World) (n : Nat) (ua : Option Addr) (um uc : Nat) (y : HS) (S' : Nat → Prop) : Prop := FinAt m x n y ∧ ownL S0 wr v0 y.hs ∧ ownL S1 wr v1 y.ds ∧ ownL S' wr (Value.slice ua um uc) y.st ∧ (∀ b, S' b → (S2 b ∨ wb.heap.size ≤ b) ∧ b < wr.heap.size) ∧ ChgS (fun b => S0 b ∨ S1 b ∨ S2 b) wb wr
set_option maxHeartbeats 8000000 in
theorem spec_Finish0 (hs : List Head) (ds : List DescD) (st : List Frame) (v0 v1 v2 : Value) (most : Int) (w : World) (hx0 : hs.length ≤ 1048576) (hx1 : ds.length ≤ 1048576) (hx2 : ∀ i, (h : i < ds.length) → ds[i].entries_.length ≤ 1048576) (hx3 : st.length ≤ 1048576) (h0 : rdsL w v0 hs) (h1 : rdsL w v1 ds) (h2 : rdsL w v2 st) :
    Calls Tryz.prog 41 #[.agg #[v0, v1], v2, .int .i64 most] w fun e w' => ∃ u0 u1 : Value, e = .returned (.tuple #[.agg #[u0, u1], .int .i64 (finA hs ds st most).n, .bool (finA hs ds st most).b]) ∧ StoreOwn w w' u0 u1 (finA hs ds st most).x.hs (finA hs ds st most).x.ds ∧ Below w.heap.size w w' := by
  have H0 := hid h0
  have H1 := hid h1
  have H2 := hid h2
  have HX2 := hid hx2
  obtain ⟨a0, cap0, rfl, hl0, hm0, -⟩ := rdsL_open h0
  obtain ⟨a1, cap1, rfl, hl1, hm1, -⟩ := rdsL_open h1
  obtain ⟨a2, cap2, rfl, hl2, hm2, -⟩ := rdsL_open h2
  clear h0 h1 h2 hx2
  obtain ⟨W1, hW1⟩ : ∃ X, (w.alloc (.cells #[Value.slice a0 hs.length cap0, Value.slice a1 ds.length cap1] 37)).alloc (.cells #[Value.slice none 0 0, Value.slice none 0 0] 37) = X := ⟨_, rfl⟩
  have hB1 : Below w.heap.size w W1 := by rw [← hW1]; exact ((Below.refl _ _).alloc (Nat.le_refl _) _).alloc (by simp) _
  have hN : W1.heap.size = w.heap.size + 2 := by rw [← hW1]; simp
  have bs : BoxF W1 w.heap.size [Value.slice a0 hs.length cap0, Value.slice a1 ds.length cap1] := by rw [← hW1]; exact (BoxF.alloc w #[Value.slice a0 hs.length cap0, Value.slice a1 ds.length cap1] 37).below ((Below.refl _ _).alloc (Nat.le_refl _) _)
  have bq : BoxF W1 (w.heap.size + 1) [Value.slice none 0 0, Value.slice none 0 0] := by
    rw [← hW1]
    have h1 := BoxF.alloc (w.alloc (.cells #[Value.slice a0 hs.length cap0, Value.slice a1 ds.length cap1] 37)) #[Value.slice none 0 0, Value.slice none 0 0] 37
    rw [show (w.alloc (.cells #[Value.slice a0 hs.length cap0, Value.slice a1 ds.length cap1] 37)).heap.size = w.heap.size + 1 by simp] at h1
    exact h1
  have k0 : W1.cell? ⟨w.heap.size, 0, none⟩ = some (Value.slice a0 hs.length cap0) := bs.1.2 0 (by simp)
  have k1 : W1.cell? ⟨w.heap.size, 1, none⟩ = some (Value.slice a1 ds.length cap1) := bs.1.2 1 (by simp)
  have R0 := hid (rdsL.below H0.out hB1)
  have R1 := hid (rdsL.below H1.out hB1)
  have BS := hid bs
  have BQ := hid bq
  have HW1 := hid hW1
  clear bs bq hW1
  go_enter Tryz.func41, Tryz.ntmps41
  go_wp2_with fail
  rw [HW1.out]
  refine (spec_l7Copy0 hs ds _ _ _ hx0 hx1 HX2.out R0.out R1.out).mono ?_
  rintro e w2 ⟨u0, u1, S0, S1, rfl, o0, o1, rg0, rg1, dj, b2⟩
  obtain ⟨xa, xc, rfl, -, -⟩ := ownL_len o0
  obtain ⟨ya, yc, rfl, -, -⟩ := ownL_len o1
  have hB2 := hB1.trans (b2.mono hB1.size)
  have hs2 := b2.size
  have R2 := hid (rdsL.below H2.out hB2)
  have O0 := hid o0
  have O1 := hid o1
  have RG0 := hid rg0
  have RG1 := hid rg1
  have DJ := hid dj
  have BS2 := hid (BS.out.below b2)
  have BQ2 := hid (BQ.out.below b2)
  clear o0 o1 rg0 rg1 dj k0 k1 R0 R1 BS BQ b2
  go_wp2_with fail
  refine (spec_l8Copy _ st _ R2.out hx3).mono ?_
  rintro e w3 ⟨u2, S2, rfl, o2, rg2, b3⟩
  obtain ⟨za, zc, rfl, -, -⟩ := ownL_len o2
  have hB3 := hB2.trans (b3.mono hB2.size)
  have hs3 := b3.size
  obtain ⟨V, hV⟩ : ∃ X, w3.alloc (.cells #[Value.slice xa hs.length xc, Value.slice ya ds.length yc] 37) = X := ⟨_, rfl⟩
  have bV : Below w3.heap.size w3 V := by rw [← hV]; exact (Below.refl _ _).alloc (Nat.le_refl _) _
  have hsV : V.heap.size = w3.heap.size + 1 := by rw [← hV]; simp
  have HBV := hid (hB3.trans (bV.mono hB3.size))
  have BSV := hid ((BS2.out.below b3).below bV)
  have BQV := hid ((BQ2.out.below b3).below bV)
  have BOV : Hid (BoxF V w3.heap.size [Value.slice xa hs.length xc, Value.slice ya ds.length yc]) := by rw [← hV]; exact hid (BoxF.alloc w3 #[Value.slice xa hs.length xc, Value.slice ya ds.length yc] 37)
  have G0 := hid (fun b (hb : S0 b) => (show w.heap.size + 2 ≤ b ∧ b < w2.heap.size from ⟨by have := (RG0.out b hb).1; omega, (RG0.out b hb).2⟩))
  have G1 := hid (fun b (hb : S1 b) => (show w.heap.size + 2 ≤ b ∧ b < w2.heap.size from ⟨by have := (RG1.out b hb).1; omega, (RG1.out b hb).2⟩))
  have G2 := hid (fun b (hb : S2 b) => (show w2.heap.size ≤ b ∧ b < w3.heap.size from ⟨(rg2 b hb).1, (rg2 b hb).2⟩))
  have O0V := hid (O0.out.keep (w' := V) fun b hb => (bV.block b (by have := (G0.out b hb).2; omega)).trans (b3.block b (G0.out b hb).2))
  have O1V := hid (O1.out.keep (w' := V) fun b hb => (bV.block b (by have := (G1.out b hb).2; omega)).trans (b3.block b (G1.out b hb).2))
  have O2V := hid (o2.keep (w' := V) fun b hb => bV.block b (G2.out b hb).2)
  have D02 := hid (show ∀ b, S0 b → ¬ S2 b from fun b h h9 => by have := G0.out b h; have := G2.out b h9; omega)
  have D12 := hid (show ∀ b, S1 b → ¬ S2 b from fun b h h9 => by have := G1.out b h; have := G2.out b h9; omega)
  have q0 : V.cell? ⟨w.heap.size, 0, none⟩ = some (Value.slice a0 hs.length cap0) := BSV.out.1.2 0 (by simp)
  have q1 : V.cell? ⟨w.heap.size, 1, none⟩ = some (Value.slice a1 ds.length cap1) := BSV.out.1.2 1 (by simp)
  have P0 := hid (rdsL.below H0.out HBV.out)
  have P1 := hid (rdsL.below H1.out HBV.out)
  have P2 := hid (rdsL.below H2.out HBV.out)
  clear o2 rg2 RG0 RG1 O0 O1 BS2 BQ2 R2 b3 bV
  go_wp2_with fail
  clear hV q0 q1
  refine (spec_StackOk0 hs ds st _ _ _ _ P0.out P1.out P2.out).mono ?_
  rintro e w4 ⟨rfl, b4⟩
  have hs4 := b4.size
  have HB4 := hid (HBV.out.trans (b4.mono HBV.out.size))
  have BQ4 := hid (BQV.out.below b4)
  have BO4 := hid (BOV.out.below b4)
  have hlt : w3.heap.size < V.heap.size := by omega
  have hlt2 : w2.heap.size ≤ V.heap.size := by omega
  have O04 := hid (O0V.out.keep (w' := w4) fun b hb => b4.block b (by have := (G0.out b hb).2; omega))
  have O14 := hid (O1V.out.keep (w' := w4) fun b hb => b4.block b (by have := (G1.out b hb).2; omega))
  have O24 := hid (O2V.out.keep (w' := w4) fun b hb => b4.block b (by have := (G2.out b hb).2; omega))
  have G3 := hid (show w.heap.size + 2 ≤ w3.heap.size ∧ w3.heap.size < w4.heap.size ∧ w.heap.size + 1 < w4.heap.size by omega)
  clear P0 P1 P2 BSV BQV BOV O0V O1V O2V b4
  have hu := hid (show finOk hs ds st most = (stackOk hs ds st && inB most 0 2000) from rfl)
  cases hso : stackOk hs ds st with
  | false =>
    have HR := hid (finA_no (m := most) (show finOk hs ds st most = false by rw [hu.out, hso]; rfl))
    have m0 : w4.cell? ⟨w3.heap.size, 0, none⟩ = some (Value.slice xa hs.length xc) := BO4.out.1.2 0 (by simp)
    have m1 : w4.cell? ⟨w3.heap.size, 1, none⟩ = some (Value.slice ya ds.length yc) := BO4.out.1.2 1 (by simp)
    have n0 : w4.cell? ⟨w.heap.size + 1, 0, none⟩ = some (Value.slice none 0 0) := BQ4.out.1.2 0 (by simp)
    have z0 : w4.frozen? ⟨w.heap.size + 1, 0, none⟩ = false := BQ4.out.2 0 (by simp)
    have n1 : w4.cell? ⟨w.heap.size + 1, 1, none⟩ = some (Value.slice none 0 0) := BQ4.out.1.2 1 (by simp)
    have z1 : w4.frozen? ⟨w.heap.size + 1, 1, none⟩ = false := BQ4.out.2 1 (by simp)
    go_wp2_with ((try simp only [Exit.inBlock, Exit.then]); (with_reducible refine bodyPost_ret (v := .tuple #[.agg #[Value.slice xa hs.length xc, Value.slice ya ds.length yc], .int .i64 (0), .bool false]) ?_ (by exact rfl) ?_); (simp [results, Tryz.results41, go_sem, n0, n1, z0, z1]); (exact ⟨_, _, by rw [HR.out], SOwn.fin (by rw [HR.out]; exact O04.out) (by rw [HR.out]; exact O14.out) (fun k hk => by have := G0.out k hk; have := G3.out; exact ⟨by omega, by omega, by omega⟩) (fun k hk => by have := G1.out k hk; have := G3.out; exact ⟨by omega, by omega, by omega⟩) DJ.out, (HB4.out.setCell (by show w.heap.size ≤ w.heap.size + 1; omega) _).setCell (by show w.heap.size ≤ w.heap.size + 1; omega) _⟩))
  | true =>
  cases hb : inB most 0 2000 with
  | false =>
    have HR := hid (finA_no (m := most) (show finOk hs ds st most = false by rw [hu.out, hb, Bool.and_false]))
    have m0 : w4.cell? ⟨w3.heap.size, 0, none⟩ = some (Value.slice xa hs.length xc) := BO4.out.1.2 0 (by simp)
    have m1 : w4.cell? ⟨w3.heap.size, 1, none⟩ = some (Value.slice ya ds.length yc) := BO4.out.1.2 1 (by simp)
    have n0 : w4.cell? ⟨w.heap.size + 1, 0, none⟩ = some (Value.slice none 0 0) := BQ4.out.1.2 0 (by simp)
    have z0 : w4.frozen? ⟨w.heap.size + 1, 0, none⟩ = false := BQ4.out.2 0 (by simp)
    have n1 : w4.cell? ⟨w.heap.size + 1, 1, none⟩ = some (Value.slice none 0 0) := BQ4.out.1.2 1 (by simp)
    have z1 : w4.frozen? ⟨w.heap.size + 1, 1, none⟩ = false := BQ4.out.2 1 (by simp)
    go_wp2_with (first | (go_at_call 36; refine (spec_l1In _ _ _ _).mono ?_; rintro e w' ⟨rfl, rfl⟩) | (try simp only [Exit.inBlock, Exit.then]); (with_reducible refine bodyPost_ret (v := .tuple #[.agg #[Value.slice xa hs.length xc, Value.slice ya ds.length yc], .int .i64 (0), .bool false]) ?_ (by exact rfl) ?_); (simp [results, Tryz.results41, go_sem, n0, n1, z0, z1]); (exact ⟨_, _, by rw [HR.out], SOwn.fin (by rw [HR.out]; exact O04.out) (by rw [HR.out]; exact O14.out) (fun k hk => by have := G0.out k hk; have := G3.out; exact ⟨by omega, by omega, by omega⟩) (fun k hk => by have := G1.out k hk; have := G3.out; exact ⟨by omega, by omega, by omega⟩) DJ.out, (HB4.out.setCell (by show w.heap.size ≤ w.heap.size + 1; omega) _).setCell (by show w.heap.size ≤ w.heap.size + 1; omega) _⟩))
  | true =>
  obtain ⟨hm0', hm2⟩ : 0 ≤ most ∧ most ≤ 2000 := by simpa [inB] using hb
  obtain ⟨m, rfl⟩ := Int.eq_ofNat_of_zero_le hm0'
  have hmm : m ≤ 2000 := by omega
  have HFO := hid (show finOk hs ds st (m : Int) = true by rw [hu.out, hso, hb]; rfl)
  have hnS : ∀ b, (b < w.heap.size + 2 ∨ w3.heap.size ≤ b) → ¬ (S0 b ∨ S1 b ∨ S2 b) := fun b h hb => by rcases hb with h8 | h8 | h8; (have := G0.out b h8; omega); (have := G1.out b h8; omega); (have := G2.out b h8; omega)
  have HnS := hid hnS
  have HSO := hid hso
  clear hnS hm0'
  have M0 := hid (show FinMem m ⟨hs, ds, st⟩ S0 S1 S2 (Value.slice xa hs.length xc) (Value.slice ya ds.length yc) w4 w4 0 za st.length zc ⟨hs, ds, st⟩ S2 from ⟨FinAt.zero m hso, O04.out, O14.out, O24.out, fun b hb => ⟨.inl hb, by have := (G2.out b hb).2; omega⟩, ChgS.refl _ _⟩)
  clear hso hu O04 O14 O24
  go_wp2_with (go_at_call 36; refine (spec_l1In _ _ _ _).mono ?_; rintro e w' ⟨rfl, rfl⟩)
  go_loopw [11, 10] (fun i u wr => ∃ (k : Nat) (ua : Option Addr) (um uc : Nat) (y : HS) (S' : Nat → Prop), i = .int .i64 k ∧ u = Value.slice ua um uc ∧ k ≤ m ∧ Hid (FinMem m ⟨hs, ds, st⟩ S0 S1 S2 (Value.slice xa hs.length xc) (Value.slice ya ds.length yc) w4 wr k ua um uc y S')) (fun i _ _ => m + 1 - (intOf i).toNat)
  case atStart => exact ⟨0, _, _, _, _, S2, rfl, rfl, Nat.zero_le _, M0⟩
  case round =>
    clear M0
    obtain ⟨k, ua, um, uc, y, S', rfl, rfl, hkm, HM⟩ := hrel
    have hum : Hid (um = y.st.length) := by
      obtain ⟨-, -, -, o2, -⟩ := HM.out
      obtain ⟨a9, c9, e9, -, -⟩ := ownL_len o2
      simp only [Value.slice.injEq] at e9
      exact hid e9.2.1
    have hul : um ≤ 130 := by rw [hum.out]; exact (stackOk_iff.1 HM.out.1.2.1).2.1
    have hulb : um ≤ 9223372036854775807 := by omega
    have hsz : w4.heap.size ≤ wr.heap.size := HM.out.2.2.2.2.2.size
    have BOr := hid (BO4.out.chg HM.out.2.2.2.2.2 (HnS.out _ (.inr (Nat.le_refl _))))
    have BQr := hid (BQ4.out.chg HM.out.2.2.2.2.2 (HnS.out _ (.inl (by omega))))
    have HBr := hid (below_chg HB4.out HM.out.2.2.2.2.2 HB4.out.size (fun b hb => by rcases hb with h8 | h8 | h8; (have := G0.out b h8; omega); (have := G1.out b h8; omega); (have := G2.out b h8; omega)))
    have G3' := G3.out
    have G3 := hid (show w.heap.size + 2 ≤ w3.heap.size ∧ w3.heap.size < wr.heap.size ∧ w.heap.size + 1 < wr.heap.size by omega)
    clear G3'
    by_cases hgo : k < m ∧ 0 < um
    · obtain ⟨hkl, hu0⟩ := hgo
      have hy0 := hid (show ¬ y.st.length = 0 by rw [← hum.out]; omega)
      have k0 : wr.cell? ⟨w3.heap.size, 0, none⟩ = some (Value.slice xa hs.length xc) := BOr.out.1.2 0 (by simp)
      have k1 : wr.cell? ⟨w3.heap.size, 1, none⟩ = some (Value.slice ya ds.length yc) := BOr.out.1.2 1 (by simp)
      have hki : (k : Int) < (m : Int) := by omega
      have hui : (0 : Int) < (um : Int) := by omega
      go_wp2_with fail
      obtain ⟨F1, F2, F3, F4, F5, F6⟩ := HM.out
      have G3' := G3.out
      refine (spec_l8Help0 y S0 S1 S' _ _ _ _ (fun b hb => by have := G0.out b hb; omega) (fun b hb => by have := G1.out b hb; omega) (fun b hb => (F5 b hb).2) DJ.out (fun b hb h => (F5 b h).1.elim (D02.out b hb) (fun h9 => by have := G0.out b hb; omega)) (fun b hb h => (F5 b h).1.elim (D12.out b hb) (fun h9 => by have := G1.out b hb; omega)) F2 F3 F4 F1.2.1).mono ?_
      clear G3'
      rintro e w5 ⟨u5, rfl, S5, p0, p1, p2, p3, C5⟩
      obtain ⟨a5, c5, rfl, -, -⟩ := ownL_len p2
      have hs5 := C5.size
      have HM5 := hid (show FinMem m ⟨hs, ds, st⟩ S0 S1 S2 (Value.slice xa hs.length xc) (Value.slice ya ds.length yc) w4 w5 (k+1) a5 (helpR y).st.length c5 (helpR y) S5 from ⟨F1.step hkl hy0.out, p0, p1, p2, fun b hb => (p3 b hb).elim (fun h => ⟨(F5 b h).1, Nat.lt_of_lt_of_le (F5 b h).2 hs5⟩) (fun h => ⟨.inr (by omega), h.2⟩),
        ⟨C5.os.trans F6.os, C5.tape.trans F6.tape, C5.output.trans F6.output, Nat.le_trans F6.size hs5, fun b hb hn => (C5.block b (Nat.lt_of_lt_of_le hb F6.size) (fun h => by rcases h with h | h | h; (exact hn (.inl h)); (exact hn (.inr (.inl h))); (exact (F5 b h).1.elim (fun h9 => hn (.inr (.inr h9))) (fun h9 => by omega)))).trans (F6.block b hb hn)⟩⟩)
      clear p0 p1 p2 p3 C5 F1 F2 F3 F4 F5 F6 HM BOr BQr HBr k0 k1
      go_wp2
      go_roundw
      case rel => exact ⟨k+1, _, _, _, _, S5, by go_num, rfl, by omega, HM5⟩
      case measure => simp [intOf]; omega
    · have HE := hid (HM.out.1.end (by rw [← hum.out]; omega))
      have HR := hid (finA_yes HFO.out HE.out)
      obtain ⟨UB, hUB⟩ : ∃ UB, Hid (decide (um = 0) = UB) := ⟨_, hid rfl⟩
      have hbq : ((um : Int) == 0) = UB := by rw [← hUB.out]; by_cases h : um = 0 <;> simp [h]
      have m0 : wr.cell? ⟨w3.heap.size, 0, none⟩ = some (Value.slice xa hs.length xc) := BOr.out.1.2 0 (by simp)
      have m1 : wr.cell? ⟨w3.heap.size, 1, none⟩ = some (Value.slice ya ds.length yc) := BOr.out.1.2 1 (by simp)
      have n0 : wr.cell? ⟨w.heap.size + 1, 0, none⟩ = some (Value.slice none 0 0) := BQr.out.1.2 0 (by simp)
      have z0 : wr.frozen? ⟨w.heap.size + 1, 0, none⟩ = false := BQr.out.2 0 (by simp)
      have n1 : wr.cell? ⟨w.heap.size + 1, 1, none⟩ = some (Value.slice none 0 0) := BQr.out.1.2 1 (by simp)
      have z1 : wr.frozen? ⟨w.heap.size + 1, 1, none⟩ = false := BQr.out.2 1 (by simp)
      by_cases hki : k < m
      · have hu0 : ¬ 0 < um := fun h => hgo ⟨hki, h⟩
        have hki' : (k : Int) < (m : Int) := by omega
        have hui : ¬ (0 : Int) < (um : Int) := by omega
        clear hgo hki
        go_wp2_with ((try simp only [Exit.inBlock, Exit.then]); (with_reducible refine bodyPost_ret (v := .tuple #[.agg #[Value.slice xa hs.length xc, Value.slice ya ds.length yc], .int .i64 ((k : Int)), .bool UB]) ?_ (by exact rfl) ?_); (simp [results, Tryz.results41, go_sem, n0, n1, z0, z1]); (exact ⟨_, _, by rw [HR.out]; rw [← hUB.out, hum.out], SOwn.fin (by rw [HR.out]; exact HM.out.2.1) (by rw [HR.out]; exact HM.out.2.2.1) (fun k hk => by have := G0.out k hk; have := G3.out; exact ⟨by omega, by omega, by omega⟩) (fun k hk => by have := G1.out k hk; have := G3.out; exact ⟨by omega, by omega, by omega⟩) DJ.out, (HBr.out.setCell (by show w.heap.size ≤ w.heap.size + 1; omega) _).setCell (by show w.heap.size ≤ w.heap.size + 1; omega) _⟩))
      · have hki' : ¬ (k : Int) < (m : Int) := by omega
        clear hgo
        go_wp2_with ((try simp only [Exit.inBlock, Exit.then]); (with_reducible refine bodyPost_ret (v := .tuple #[.agg #[Value.slice xa hs.length xc, Value.slice ya ds.length yc], .int .i64 ((k : Int)), .bool UB]) ?_ (by exact rfl) ?_); (simp [results, Tryz.results41, go_sem, n0, n1, z0, z1]); (exact ⟨_, _, by rw [HR.out]; rw [← hUB.out, hum.out], SOwn.fin (by rw [HR.out]; exact HM.out.2.1) (by rw [HR.out]; exact HM.out.2.2.1) (fun k hk => by have := G0.out k hk; have := G3.out; exact ⟨by omega, by omega, by omega⟩) (fun k hk => by have := G1.out k hk; have := G3.out; exact ⟨by omega, by omega, by omega⟩) DJ.out, (HBr.out.setCell (by show w.heap.size ≤ w.heap.size + 1; omega) _).setCell (by show w.heap.size ≤ w.heap.size + 1; omega) _⟩))
end Go.Proofs.YtbbdchlabdilcabGreat
/- Chapter 8's program: Finish. -/
namespace Go.Proofs.YtbbdchlabdilcabGreat
set_option maxRecDepth 100000
open Go.RowKit Go.Proofs Go.Own
open Go Go.BigFrame
set_option linter.unusedVariables false
set_option linter.unusedSimpArgs false
set_option maxHeartbeats 8000000 in
set_option maxHeartbeats 8000000 in
theorem impl_finish0 (x : HS) (S0 S1 S2 : Nat → Prop) (v0 v1 v2 : Value) (m : Nat) (w : World) (hm : m ≤ 2000) (hS0 : ∀ b, S0 b → b < w.heap.size) (hS1 : ∀ b, S1 b → b < w.heap.size) (hS2 : ∀ b, S2 b → b < w.heap.size) (d01 : ∀ b, S0 b → ¬ S1 b) (d02 : ∀ b, S0 b → ¬ S2 b) (d12 : ∀ b, S1 b → ¬ S2 b)
    (o0 : ownL S0 w v0 x.hs) (o1 : ownL S1 w v1 x.ds) (o2 : ownL S2 w v2 x.st) (hok : x.ok) :
    Calls Tryz.prog 52 #[.agg #[v0, v1], v2, .int .i64 (m : Int)] w fun e w' => e = .returned (.tuple #[.int .i64 ((finR m x).2 : Int), .bool (decide ((finR m x).1.st.length = 0))]) ∧ ownL S0 w' v0 (finR m x).1.hs ∧ ownL S1 w' v1 (finR m x).1.ds ∧ ChgS (fun b => S0 b ∨ S1 b ∨ S2 b) w w' := by
  obtain ⟨a0, cap0, rfl⟩ : ∃ a c, v0 = .slice a x.hs.length c := by obtain ⟨a, c, e, -, -⟩ := ownL_len o0; exact ⟨a, c, e⟩
  obtain ⟨a1, cap1, rfl⟩ : ∃ a c, v1 = .slice a x.ds.length c := by obtain ⟨a, c, e, -, -⟩ := ownL_len o1; exact ⟨a, c, e⟩
  obtain ⟨a2, cap2, rfl⟩ : ∃ a c, v2 = .slice a x.st.length c := by obtain ⟨a, c, e, -, -⟩ := ownL_len o2; exact ⟨a, c, e⟩
  obtain ⟨v0, hv0⟩ : ∃ v, Hid (Value.slice a0 x.hs.length cap0 = v) := ⟨_, hid rfl⟩
  obtain ⟨v1, hv1⟩ : ∃ v, Hid (Value.slice a1 x.ds.length cap1 = v) := ⟨_, hid rfl⟩
  obtain ⟨n0, hn0⟩ : ∃ n, Hid (x.hs.length = n) := ⟨_, hid rfl⟩
  obtain ⟨n1, hn1⟩ : ∃ n, Hid (x.ds.length = n) := ⟨_, hid rfl⟩
  obtain ⟨n2, hn2⟩ : ∃ n, Hid (x.st.length = n) := ⟨_, hid rfl⟩
  rw [hn0.out] at o0 hv0 ⊢
  rw [hn1.out] at o1 hv1 ⊢
  rw [hn2.out] at o2 ⊢
  obtain ⟨W1, hW1⟩ : ∃ X, w.alloc (.cells #[Value.slice a0 n0 cap0, Value.slice a1 n1 cap1] 37) = X := ⟨_, rfl⟩
  have hB1 : Below w.heap.size w W1 := by rw [← hW1]; exact (Below.refl _ _).alloc (Nat.le_refl _) _
  have hN1 : W1.heap.size = w.heap.size + 1 := by rw [← hW1]; simp
  have BP : Hid (BoxF W1 w.heap.size [Value.slice a0 n0 cap0, Value.slice a1 n1 cap1]) := by rw [← hW1]; exact hid (BoxF.alloc w #[Value.slice a0 n0 cap0, Value.slice a1 n1 cap1] 37)
  have HD := hid (And.intro d01 (And.intro d02 d12))
  have HSs := hid (And.intro hS0 (And.intro hS1 hS2))
  have M0 := hid (show FinMem m x S0 S1 S2 (.slice a0 n0 cap0) (.slice a1 n1 cap1) W1 W1 0 a2 n2 cap2 x S2 from ⟨FinAt.zero m hok, o0.keep fun b hb => hB1.block b (hS0 b hb), o1.keep fun b hb => hB1.block b (hS1 b hb), o2.keep fun b hb => hB1.block b (hS2 b hb), fun b hb => ⟨.inl hb, by have := hS2 b hb; omega⟩, ChgS.refl _ _⟩)
  have HB1 := hid hB1
  have hsw : w.heap.size < W1.heap.size := by omega
  clear o0 o1 o2 hB1 d01 d02 d12 hS0 hS1 hS2 hv0 hv1 hn0 hn1 hn2
  have HW1 := hid hW1
  clear hW1
  go_enter Tryz.func52, Tryz.ntmps52
  go_wp2
  rw [HW1.out]
  go_step3
  go_wp2
  go_step3
  go_wp2
  go_loopw [8, 1] (fun i u wr => ∃ (k : Nat) (ua : Option Addr) (um uc : Nat) (y : HS) (S' : Nat → Prop), i = .int .i64 k ∧ u = Value.slice ua um uc ∧ k ≤ m ∧ Hid (FinMem m x S0 S1 S2 (.slice a0 n0 cap0) (.slice a1 n1 cap1) W1 wr k ua um uc y S')) (fun i _ _ => m + 1 - (intOf i).toNat)
  case atStart => exact ⟨0, _, _, _, x, S2, rfl, rfl, Nat.zero_le _, M0⟩
  case round =>
    clear M0
    obtain ⟨k, ua, um, uc, y, S', rfl, rfl, hkm, HM⟩ := hrel
    have hum : Hid (um = y.st.length) := by
      obtain ⟨-, -, -, o2, -⟩ := HM.out
      obtain ⟨a9, c9, e9, -, -⟩ := ownL_len o2
      simp only [Value.slice.injEq] at e9
      exact hid e9.2.1
    have hul : um ≤ 130 := by rw [hum.out]; exact (stackOk_iff.1 HM.out.1.2.1).2.1
    have hulb : um ≤ 9223372036854775807 := by omega
    have hsz : W1.heap.size ≤ wr.heap.size := HM.out.2.2.2.2.2.size
    have BPr := hid (BP.out.chg HM.out.2.2.2.2.2 (fun h => by rcases h with h | h | h; (have := HSs.out.1 _ h; omega); (have := HSs.out.2.1 _ h; omega); (have := HSs.out.2.2 _ h; omega)))
    have HBr := hid ((ChgS.of_below HB1.out (fun b => S0 b ∨ S1 b ∨ S2 b)).trans HM.out.2.2.2.2.2)
    go_wp2_with fail
    refine (impl_isEmpty _ _ _ _ hulb).mono ?_
    rintro e w9 ⟨rfl, rfl⟩
    by_cases hz : um = 0
    · have hz' : ((um : Int) == 0) = true := by rw [hz]; rfl
      have HE := hid (HM.out.1.end (.inr (by rw [← hum.out]; exact hz)))
      have hd := hid (show decide ((finR m x).1.st.length = 0) = true by rw [HE.out]; exact decide_eq_true (by rw [← hum.out]; exact hz))
      clear hz
      go_wp2
      try rw [Exit.noGoto_ret]
      refine bodyPost_ret (v := .tuple #[.int .i64 (k : Int), .bool true]) (by simp [results, Tryz.results52, go_sem]) rfl ?_
      exact ⟨by rw [hd.out, HE.out], by rw [HE.out]; exact HM.out.2.1, by rw [HE.out]; exact HM.out.2.2.1, HBr.out⟩
    · have hz' : ((um : Int) == 0) = false := by rw [beq_eq_false_iff_ne]; omega
      by_cases hk : k = m
      · have hk' : ((k : Int) == (m : Int)) = true := by rw [hk, beq_iff_eq]
        have HE := hid (HM.out.1.end (.inl hk))
        have hd := hid (show decide ((finR m x).1.st.length = 0) = false by rw [HE.out]; exact decide_eq_false (by rw [← hum.out]; exact hz))
        have HK := hid hk
        clear hz hk
        go_wp2
        try rw [Exit.noGoto_ret]
        refine bodyPost_ret (v := .tuple #[.int .i64 (m : Int), .bool false]) (by simp [results, Tryz.results52, go_sem]) rfl ?_
        exact ⟨by rw [hd.out, HE.out, ← HK.out], by rw [HE.out]; exact HM.out.2.1, by rw [HE.out]; exact HM.out.2.2.1, HBr.out⟩
      · have hk' : ((k : Int) == (m : Int)) = false := by rw [beq_eq_false_iff_ne]; omega
        have hy0 := hid (show ¬ y.st.length = 0 by rw [← hum.out]; exact hz)
        have hkl : k < m := by omega
        have k0 : wr.cell? ⟨w.heap.size, 0, none⟩ = some (Value.slice a0 n0 cap0) := BPr.out.1.2 0 (by simp)
        have k1 : wr.cell? ⟨w.heap.size, 1, none⟩ = some (Value.slice a1 n1 cap1) := BPr.out.1.2 1 (by simp)
        clear hz hk
        go_wp2_with fail
        obtain ⟨F1, F2, F3, F4, F5, F6⟩ := HM.out
        refine (impl_help0 y S0 S1 S' _ _ _ _ (fun b hb => by have := HSs.out.1 b hb; omega) (fun b hb => by have := HSs.out.2.1 b hb; omega) (fun b hb => (F5 b hb).2) HD.out.1 (fun b hb h => (F5 b h).1.elim (HD.out.2.1 b hb) (fun h9 => by have := HSs.out.1 b hb; omega)) (fun b hb h => (F5 b h).1.elim (HD.out.2.2 b hb) (fun h9 => by have := HSs.out.2.1 b hb; omega)) F2 F3 F4 F1.2.1).mono ?_
        rintro e w5 ⟨u5, rfl, S5, p0, p1, p2, p3, C5⟩
        obtain ⟨a5, c5, rfl, -, -⟩ := ownL_len p2
        have hs5 := C5.size
        have HM5 := hid (show FinMem m x S0 S1 S2 (.slice a0 n0 cap0) (.slice a1 n1 cap1) W1 w5 (k+1) a5 (helpR y).st.length c5 (helpR y) S5 from ⟨F1.step hkl hy0.out, p0, p1, p2, fun b hb => (p3 b hb).elim (fun h => ⟨(F5 b h).1, Nat.lt_of_lt_of_le (F5 b h).2 hs5⟩) (fun h => ⟨.inr (by omega), h.2⟩),
          ⟨C5.os.trans F6.os, C5.tape.trans F6.tape, C5.output.trans F6.output, Nat.le_trans F6.size hs5, fun b hb hn => (C5.block b (Nat.lt_of_lt_of_le hb F6.size) (fun h => by rcases h with h | h | h; (exact hn (.inl h)); (exact hn (.inr (.inl h))); (exact (F5 b h).1.elim (fun h9 => hn (.inr (.inr h9))) (fun h9 => by omega)))).trans (F6.block b hb hn)⟩⟩)
        clear p0 p1 p2 p3 C5 F1 F2 F3 F4 F5 F6 HM BPr HBr k0 k1
        go_wp2
        go_roundw
        case rel => exact ⟨k+1, _, _, _, _, S5, by go_num, rfl, by omega, HM5⟩
        case measure => simp [intOf]; omega
end Go.Proofs.YtbbdchlabdilcabGreat
