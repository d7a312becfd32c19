/- Chapter 8's model: Together. -/
import Derived.Test.YtambpjjfndnadaaS8b
import Derived.Test.YtambpjjfndnadaaF8t
namespace Go.Proofs.Ytambpjjfndnadaa
set_option maxRecDepth 100000
open Go.RowKit Go.Proofs Go.Own
open Go Go.BigFrame
set_option linter.unusedVariables false
set_option linter.unusedSimpArgs false
/-- What has been reached behind some turns, in memory. -/
def TogMem (ts : List Bool) (x : TS) (S0 S1 SA SB : Nat → Prop) (v0 v1 : Value) (wb wr : World) (k : Nat) (va vb : Value) (Sa Sb : Nat → Prop) : Prop := ownL S0 wr v0 (togAt ts x k).hs ∧ ownL S1 wr v1 (togAt ts x k).ds ∧ ownL Sa wr va (togAt ts x k).a ∧ ownL Sb wr vb (togAt ts x k).b ∧ (∀ b, Sa b → (SA b ∨ wb.heap.size ≤ b) ∧ b < wr.heap.size) ∧ (∀ b, Sb b → (SB b ∨ wb.heap.size ≤ b) ∧ b < wr.heap.size) ∧ (∀ b, Sa b → ¬ Sb b) ∧ ChgS (fun b => S0 b ∨ S1 b ∨ SA b ∨ SB b) wb wr
/-- A store and two stacks of the call's own. -/
def TSOwn (w w' : World) (u0 u1 u2 u3 : Value) (y : TS) : Prop := ∃ S0 S1 S2 S3 : Nat → Prop, ownL S0 w' u0 y.hs ∧ ownL S1 w' u1 y.ds ∧ ownL S2 w' u2 y.a ∧ ownL S3 w' u3 y.b ∧ (∀ b, S0 b → Rg w.heap.size w'.heap.size b) ∧ (∀ b, S1 b → Rg w.heap.size w'.heap.size b) ∧ (∀ b, S2 b → Rg w.heap.size w'.heap.size b) ∧ (∀ b, S3 b → Rg w.heap.size w'.heap.size b) ∧ (∀ b, S0 b → ¬ S1 b) ∧ (∀ b, S0 b → ¬ S2 b) ∧ (∀ b, S0 b → ¬ S3 b) ∧ (∀ b, S1 b → ¬ S2 b) ∧ (∀ b, S1 b → ¬ S3 b) ∧ (∀ b, S2 b → ¬ S3 b)
theorem TSOwn.fin {w X : World} {u0 u1 u2 u3 : Value} {y : TS} {S0 S1 S2 S3 : Nat → Prop} {R : Nat} {a b : Value} (o0 : ownL S0 X u0 y.hs) (o1 : ownL S1 X u1 y.ds) (o2 : ownL S2 X u2 y.a) (o3 : ownL S3 X u3 y.b) (g0 : ∀ k, S0 k → w.heap.size ≤ k ∧ k < X.heap.size ∧ k ≠ R) (g1 : ∀ k, S1 k → w.heap.size ≤ k ∧ k < X.heap.size ∧ k ≠ R) (g2 : ∀ k, S2 k → w.heap.size ≤ k ∧ k < X.heap.size ∧ k ≠ R) (g3 : ∀ k, S3 k → w.heap.size ≤ k ∧ k < X.heap.size ∧ k ≠ R)
    (d01 : ∀ k, S0 k → ¬ S1 k) (d02 : ∀ k, S0 k → ¬ S2 k) (d03 : ∀ k, S0 k → ¬ S3 k) (d12 : ∀ k, S1 k → ¬ S2 k) (d13 : ∀ k, S1 k → ¬ S3 k) (d23 : ∀ k, S2 k → ¬ S3 k) : TSOwn w ((X.setCell ⟨R, 0, none⟩ a).setCell ⟨R, 1, none⟩ b) u0 u1 u2 u3 y :=
  ⟨S0, S1, S2, S3, own_set (own_set o0 fun k h => (g0 k h).2.2) fun k h => (g0 k h).2.2, own_set (own_set o1 fun k h => (g1 k h).2.2) fun k h => (g1 k h).2.2, own_set (own_set o2 fun k h => (g2 k h).2.2) fun k h => (g2 k h).2.2, own_set (own_set o3 fun k h => (g3 k h).2.2) fun k h => (g3 k h).2.2,
    fun k h => ⟨(g0 k h).1, by simpa [World.setCell] using (g0 k h).2.1⟩, fun k h => ⟨(g1 k h).1, by simpa [World.setCell] using (g1 k h).2.1⟩, fun k h => ⟨(g2 k h).1, by simpa [World.setCell] using (g2 k h).2.1⟩, fun k h => ⟨(g3 k h).1, by simpa [World.setCell] using (g3 k h).2.1⟩, d01, d02, d03, d12, d13, d23⟩
/-- A step of one of the two. -/
theorem TogMem.stepB {ts : List Bool} {x : TS} {S0 S1 SA SB : Nat → Prop} {v0 v1 : Value} {wb wr w5 : World} {k : Nat} {va vb u : Value} {Sa Sb : Nat → Prop} (h : TogMem ts x S0 S1 SA SB v0 v1 wb wr k va vb Sa Sb) (hk : k < ts.length) (ht : ts[k] = true)
    (h0 : ∀ b, S0 b → b < wb.heap.size ∧ ¬ SA b ∧ ¬ SB b) (h1 : ∀ b, S1 b → b < wb.heap.size ∧ ¬ SA b ∧ ¬ SB b) (hh : HelpOwn wr w5 v0 v1 u S0 S1 Sb (helpR ⟨(togAt ts x k).hs, (togAt ts x k).ds, (togAt ts x k).b⟩)) : ∃ S', TogMem ts x S0 S1 SA SB v0 v1 wb w5 (k+1) va u Sa S' := by
  obtain ⟨q0, q1, q2, q3, q4, q5, q6, q7⟩ := h
  obtain ⟨S5, p0, p1, p2, p3, C5⟩ := hh
  have e : togAt ts x (k+1) = ⟨(helpR ⟨(togAt ts x k).hs, (togAt ts x k).ds, (togAt ts x k).b⟩).hs, (helpR ⟨(togAt ts x k).hs, (togAt ts x k).ds, (togAt ts x k).b⟩).ds, (togAt ts x k).a, (helpR ⟨(togAt ts x k).hs, (togAt ts x k).ds, (togAt ts x k).b⟩).st⟩ := by rw [togAt_step hk, ht]; rfl
  have hs5 := C5.size
  have hs7 := q7.size
  have hna : ∀ b, Sa b → ¬ (S0 b ∨ S1 b ∨ Sb b) := fun b hb h => by
    rcases h with h | h | h
    · exact (q4 b hb).1.elim (h0 b h).2.1 (fun h9 => by have := (h0 b h).1; omega)
    · exact (q4 b hb).1.elim (h1 b h).2.1 (fun h9 => by have := (h1 b h).1; omega)
    · exact q6 b hb h
  refine ⟨S5, by rw [e]; exact p0, by rw [e]; exact p1, by rw [e]; exact q2.chg C5 (fun b hb => ⟨(q4 b hb).2, hna b hb⟩), by rw [e]; exact p2, fun b hb => ⟨(q4 b hb).1, Nat.lt_of_lt_of_le (q4 b hb).2 hs5⟩, fun b hb => (p3 b hb).elim (fun h => ⟨(q5 b h).1, Nat.lt_of_lt_of_le (q5 b h).2 hs5⟩) (fun h => ⟨.inr (by omega), h.2⟩), fun b hb h => (p3 b h).elim (q6 b hb) (fun h9 => by have := (q4 b hb).2; omega), ?_⟩
  exact ⟨C5.os.trans q7.os, C5.tape.trans q7.tape, C5.output.trans q7.output, Nat.le_trans hs7 hs5, fun b hb hn => (C5.block b (Nat.lt_of_lt_of_le hb hs7) (fun h => by rcases h with h | h | h; (exact hn (.inl h)); (exact hn (.inr (.inl h))); (exact (q5 b h).1.elim (fun h9 => hn (.inr (.inr (.inr h9)))) (fun h9 => by omega)))).trans (q7.block b hb hn)⟩
theorem TogMem.stepA {ts : List Bool} {x : TS} {S0 S1 SA SB : Nat → Prop} {v0 v1 : Value} {wb wr w5 : World} {k : Nat} {va vb u : Value} {Sa Sb : Nat → Prop} (h : TogMem ts x S0 S1 SA SB v0 v1 wb wr k va vb Sa Sb) (hk : k < ts.length) (ht : ts[k] = false)
    (h0 : ∀ b, S0 b → b < wb.heap.size ∧ ¬ SA b ∧ ¬ SB b) (h1 : ∀ b, S1 b → b < wb.heap.size ∧ ¬ SA b ∧ ¬ SB b) (hh : HelpOwn wr w5 v0 v1 u S0 S1 Sa (helpR ⟨(togAt ts x k).hs, (togAt ts x k).ds, (togAt ts x k).a⟩)) : ∃ S', TogMem ts x S0 S1 SA SB v0 v1 wb w5 (k+1) u vb S' Sb := by
  obtain ⟨q0, q1, q2, q3, q4, q5, q6, q7⟩ := h
  obtain ⟨S5, p0, p1, p2, p3, C5⟩ := hh
  have e : togAt ts x (k+1) = ⟨(helpR ⟨(togAt ts x k).hs, (togAt ts x k).ds, (togAt ts x k).a⟩).hs, (helpR ⟨(togAt ts x k).hs, (togAt ts x k).ds, (togAt ts x k).a⟩).ds, (helpR ⟨(togAt ts x k).hs, (togAt ts x k).ds, (togAt ts x k).a⟩).st, (togAt ts x k).b⟩ := by rw [togAt_step hk, ht]; rfl
  have hs5 := C5.size
  have hs7 := q7.size
  have hnb : ∀ b, Sb b → ¬ (S0 b ∨ S1 b ∨ Sa b) := fun b hb h => by
    rcases h with h | h | h
    · exact (q5 b hb).1.elim (h0 b h).2.2 (fun h9 => by have := (h0 b h).1; omega)
    · exact (q5 b hb).1.elim (h1 b h).2.2 (fun h9 => by have := (h1 b h).1; omega)
    · exact q6 b h hb
  refine ⟨S5, by rw [e]; exact p0, by rw [e]; exact p1, by rw [e]; exact p2, by rw [e]; exact q3.chg C5 (fun b hb => ⟨(q5 b hb).2, hnb b hb⟩), fun b hb => (p3 b hb).elim (fun h => ⟨(q4 b h).1, Nat.lt_of_lt_of_le (q4 b h).2 hs5⟩) (fun h => ⟨.inr (by omega), h.2⟩), fun b hb => ⟨(q5 b hb).1, Nat.lt_of_lt_of_le (q5 b hb).2 hs5⟩, fun b hb h => (p3 b hb).elim (fun h9 => q6 b h9 h) (fun h9 => by have := (q5 b h).2; omega), ?_⟩
  exact ⟨C5.os.trans q7.os, C5.tape.trans q7.tape, C5.output.trans q7.output, Nat.le_trans hs7 hs5, fun b hb hn => (C5.block b (Nat.lt_of_lt_of_le hb hs7) (fun h => by rcases h with h | h | h; (exact hn (.inl h)); (exact hn (.inr (.inl h))); (exact (q4 b h).1.elim (fun h9 => hn (.inr (.inr (.inl h9)))) (fun h9 => by omega)))).trans (q7.block b hb hn)⟩
set_option maxHeartbeats 8000000 in
theorem spec_Together0 (hs : List Head) (ds : List DescD) (sa sb : List Frame) (ts : List Bool) (v0 v1 v2 v3 v4 : Value) (w : World) (hx0 : hs.length ≤ 1048576) (hx1 : ds.length ≤ 1048576) (hx2 : ∀ i, (h : i < ds.length) → ds[i].entries_.length ≤ 1048576) (hx3 : sa.length ≤ 1048576) (hx4 : sb.length ≤ 1048576) (h0 : rdsL w v0 hs) (h1 : rdsL w v1 ds) (h2 : rdsL w v2 sa) (h3 : rdsL w v3 sb) (h4 : rdsL w v4 ts) :
    Calls Try.prog 32 #[.agg #[v0, v1], v2, v3, v4] w fun e w' => ∃ u0 u1 u2 u3 : Value, e = .returned (.tuple #[.agg #[u0, u1], u2, u3]) ∧ TSOwn w w' u0 u1 u2 u3 (togA_ hs ds sa sb ts) ∧ Below w.heap.size w w' := by
  have H0 := hid h0
  have H1 := hid h1
  have H2 := hid h2
  have H3 := hid h3
  have HX2 := hid hx2
  obtain ⟨a0, cap0, rfl, hl0, hm0, -⟩ := rdsL_open h0
  obtain ⟨a1, cap1, rfl, hl1, hm1, -⟩ := rdsL_open h1
  obtain ⟨a2, cap2, rfl, hl2, hm2, -⟩ := rdsL_open h2
  obtain ⟨a3, cap3, rfl, hl3, hm3, -⟩ := rdsL_open h3
  obtain ⟨a4, cap4, rfl, hl4, hm4, hc4⟩ := (rdsBools.1 h4).open
  have HT := hid hc4
  have hlt4 : ts.length ≤ 9223372036854775807 := by omega
  clear h0 h1 h2 h3 h4 hx2 hc4
  obtain ⟨W1, hW1⟩ : ∃ X, (w.alloc (.cells #[Value.slice a0 hs.length cap0, Value.slice a1 ds.length cap1] 32)).alloc (.cells #[Value.slice none 0 0, Value.slice none 0 0] 32) = X := ⟨_, rfl⟩
  have hB1 : Below w.heap.size w W1 := by rw [← hW1]; exact ((Below.refl _ _).alloc (Nat.le_refl _) _).alloc (by simp) _
  have hN : W1.heap.size = w.heap.size + 2 := by rw [← hW1]; simp
  have bs : BoxF W1 w.heap.size [Value.slice a0 hs.length cap0, Value.slice a1 ds.length cap1] := by rw [← hW1]; exact (BoxF.alloc w #[Value.slice a0 hs.length cap0, Value.slice a1 ds.length cap1] 32).below ((Below.refl _ _).alloc (Nat.le_refl _) _)
  have bq : BoxF W1 (w.heap.size + 1) [Value.slice none 0 0, Value.slice none 0 0] := by
    rw [← hW1]
    have h1 := BoxF.alloc (w.alloc (.cells #[Value.slice a0 hs.length cap0, Value.slice a1 ds.length cap1] 32)) #[Value.slice none 0 0, Value.slice none 0 0] 32
    rw [show (w.alloc (.cells #[Value.slice a0 hs.length cap0, Value.slice a1 ds.length cap1] 32)).heap.size = w.heap.size + 1 by simp] at h1
    exact h1
  have k0 : W1.cell? ⟨w.heap.size, 0, none⟩ = some (Value.slice a0 hs.length cap0) := bs.1.2 0 (by simp)
  have k1 : W1.cell? ⟨w.heap.size, 1, none⟩ = some (Value.slice a1 ds.length cap1) := bs.1.2 1 (by simp)
  have R0 := hid (rdsL.below H0.out hB1)
  have R1 := hid (rdsL.below H1.out hB1)
  have BS := hid bs
  have BQ := hid bq
  have HW1 := hid hW1
  clear bs bq hW1
  go_enter Try.func32, Try.ntmps32
  go_wp2_with fail
  rw [HW1.out]
  refine (spec_l7Copy0 hs ds _ _ _ hx0 hx1 HX2.out R0.out R1.out).mono ?_
  rintro e w2 ⟨u0, u1, S0, S1, rfl, o0, o1, rg0, rg1, dj, b2⟩
  obtain ⟨xa, xc, rfl, -, -⟩ := ownL_len o0
  obtain ⟨ya, yc, rfl, -, -⟩ := ownL_len o1
  have hB2 := hB1.trans (b2.mono hB1.size)
  have hs2 := b2.size
  have R2 := hid (rdsL.below H2.out hB2)
  have O0 := hid o0
  have O1 := hid o1
  have RG0 := hid rg0
  have RG1 := hid rg1
  have DJ := hid dj
  have BS2 := hid (BS.out.below b2)
  have BQ2 := hid (BQ.out.below b2)
  clear o0 o1 rg0 rg1 dj k0 k1 R0 R1 BS BQ b2
  go_wp2_with fail
  refine (spec_l8Copy _ sa _ R2.out hx3).mono ?_
  rintro e w3 ⟨u2, SA, rfl, o2, rg2, b3⟩
  obtain ⟨za, zc, rfl, -, -⟩ := ownL_len o2
  have hB3 := hB2.trans (b3.mono hB2.size)
  have hs3 := b3.size
  have R3 := hid (rdsL.below H3.out hB3)
  have O2 := hid o2
  have RG2 := hid rg2
  have B3 := hid b3
  clear o2 rg2 R2 b3
  go_wp2_with fail
  refine (spec_l8Copy _ sb _ R3.out hx4).mono ?_
  rintro e w4 ⟨u3, SB, rfl, o3, rg3, b4⟩
  obtain ⟨ta, tc, rfl, -, -⟩ := ownL_len o3
  have hB4 := hB3.trans (b4.mono hB3.size)
  have hs4 := b4.size
  obtain ⟨V, hV⟩ : ∃ X, w4.alloc (.cells #[Value.slice xa hs.length xc, Value.slice ya ds.length yc] 32) = X := ⟨_, rfl⟩
  have bV : Below w4.heap.size w4 V := by rw [← hV]; exact (Below.refl _ _).alloc (Nat.le_refl _) _
  have hsV : V.heap.size = w4.heap.size + 1 := by rw [← hV]; simp
  have HBV := hid (hB4.trans (bV.mono hB4.size))
  have BSV := hid (((BS2.out.below B3.out).below b4).below bV)
  have BQV := hid (((BQ2.out.below B3.out).below b4).below bV)
  have BOV : Hid (BoxF V w4.heap.size [Value.slice xa hs.length xc, Value.slice ya ds.length yc]) := by rw [← hV]; exact hid (BoxF.alloc w4 #[Value.slice xa hs.length xc, Value.slice ya ds.length yc] 32)
  have G0 := hid (fun b (hb : S0 b) => (show w.heap.size + 2 ≤ b ∧ b < w2.heap.size from ⟨by have := (RG0.out b hb).1; omega, (RG0.out b hb).2⟩))
  have G1 := hid (fun b (hb : S1 b) => (show w.heap.size + 2 ≤ b ∧ b < w2.heap.size from ⟨by have := (RG1.out b hb).1; omega, (RG1.out b hb).2⟩))
  have G2 := hid (fun b (hb : SA b) => (show w2.heap.size ≤ b ∧ b < w3.heap.size from ⟨(RG2.out b hb).1, (RG2.out b hb).2⟩))
  have G3 := hid (fun b (hb : SB b) => (show w3.heap.size ≤ b ∧ b < w4.heap.size from ⟨(rg3 b hb).1, (rg3 b hb).2⟩))
  have hk4 : ∀ b, b < w4.heap.size → V.heap[b]? = w4.heap[b]? := fun b hb => bV.block b hb
  have hk3 : ∀ b, b < w3.heap.size → V.heap[b]? = w3.heap[b]? := fun b hb => (hk4 b (by omega)).trans (b4.block b hb)
  have hk2 : ∀ b, b < w2.heap.size → V.heap[b]? = w2.heap[b]? := fun b hb => (hk3 b (by omega)).trans (B3.out.block b hb)
  have O0V := hid (O0.out.keep (w' := V) fun b hb => hk2 b (G0.out b hb).2)
  have O1V := hid (O1.out.keep (w' := V) fun b hb => hk2 b (G1.out b hb).2)
  have O2V := hid (O2.out.keep (w' := V) fun b hb => hk3 b (G2.out b hb).2)
  have O3V := hid (o3.keep (w' := V) fun b hb => hk4 b (G3.out b hb).2)
  have D0 := hid (show ∀ b, S0 b → b < w4.heap.size ∧ ¬ SA b ∧ ¬ SB b from fun b h => by have := G0.out b h; exact ⟨by omega, fun h9 => by have := G2.out b h9; omega, fun h9 => by have := G3.out b h9; omega⟩)
  have D1 := hid (show ∀ b, S1 b → b < w4.heap.size ∧ ¬ SA b ∧ ¬ SB b from fun b h => by have := G1.out b h; exact ⟨by omega, fun h9 => by have := G2.out b h9; omega, fun h9 => by have := G3.out b h9; omega⟩)
  have D23 := hid (show ∀ b, SA b → ¬ SB b from fun b h h9 => by have := G2.out b h; have := G3.out b h9; omega)
  have q0 : V.cell? ⟨w.heap.size, 0, none⟩ = some (Value.slice a0 hs.length cap0) := BSV.out.1.2 0 (by simp)
  have q1 : V.cell? ⟨w.heap.size, 1, none⟩ = some (Value.slice a1 ds.length cap1) := BSV.out.1.2 1 (by simp)
  have P0 := hid (rdsL.below H0.out HBV.out)
  have P1 := hid (rdsL.below H1.out HBV.out)
  have P2 := hid (rdsL.below H2.out HBV.out)
  have P3 := hid (rdsL.below H3.out HBV.out)
  clear o3 rg3 RG0 RG1 RG2 O0 O1 O2 BS2 BQ2 R3 B3 b4 bV hk4 hk3 hk2
  go_wp2_with fail
  clear hV q0 q1
  refine (spec_StackOk0 hs ds sa _ _ _ _ P0.out P1.out P2.out).mono ?_
  rintro e w5 ⟨rfl, b5⟩
  have hs5 := b5.size
  have HB5 := hid (HBV.out.trans (b5.mono HBV.out.size))
  have BS5 := hid (BSV.out.below b5)
  have BQ5 := hid (BQV.out.below b5)
  have BO5 := hid (BOV.out.below b5)
  have kp5 : ∀ b, b < w4.heap.size → w5.heap[b]? = V.heap[b]? := fun b hb => b5.block b (by omega)
  have O05 := hid (O0V.out.keep (w' := w5) fun b hb => kp5 b (D0.out b hb).1)
  have O15 := hid (O1V.out.keep (w' := w5) fun b hb => kp5 b (D1.out b hb).1)
  have O25 := hid (O2V.out.keep (w' := w5) fun b hb => kp5 b (by have := (G2.out b hb).2; omega))
  have O35 := hid (O3V.out.keep (w' := w5) fun b hb => kp5 b (G3.out b hb).2)
  have Q0 := hid (rdsL.below P0.out b5)
  have Q1 := hid (rdsL.below P1.out b5)
  have Q3 := hid (rdsL.below P3.out b5)
  have hu := hid (show togOk hs ds sa sb ts = (stackOk hs ds sa && stackOk hs ds sb && decide (ts.length ≤ 400)) from rfl)
  have GW5 := hid (show w.heap.size + 2 ≤ w4.heap.size ∧ w2.heap.size ≤ w3.heap.size ∧ w3.heap.size ≤ w4.heap.size ∧ w4.heap.size < w5.heap.size by omega)
  clear P0 P1 P2 P3 BSV BQV BOV O0V O1V O2V O3V b5 kp5
  cases hsa : stackOk hs ds sa with
  | false =>
    have HR := hid (togA_no (show togOk hs ds sa sb ts = false by rw [hu.out, hsa]; rfl))
    have m0 : w5.cell? ⟨w4.heap.size, 0, none⟩ = some (Value.slice xa hs.length xc) := BO5.out.1.2 0 (by simp)
    have m1 : w5.cell? ⟨w4.heap.size, 1, none⟩ = some (Value.slice ya ds.length yc) := BO5.out.1.2 1 (by simp)
    have n0 : w5.cell? ⟨w.heap.size + 1, 0, none⟩ = some (Value.slice none 0 0) := BQ5.out.1.2 0 (by simp)
    have z0 : w5.frozen? ⟨w.heap.size + 1, 0, none⟩ = false := BQ5.out.2 0 (by simp)
    have n1 : w5.cell? ⟨w.heap.size + 1, 1, none⟩ = some (Value.slice none 0 0) := BQ5.out.1.2 1 (by simp)
    have z1 : w5.frozen? ⟨w.heap.size + 1, 1, none⟩ = false := BQ5.out.2 1 (by simp)
    go_wp2_with ((try simp only [Exit.inBlock, Exit.then]); (with_reducible refine bodyPost_ret (v := .tuple #[.agg #[Value.slice xa hs.length xc, Value.slice ya ds.length yc], Value.slice za sa.length zc, Value.slice ta sb.length tc]) ?_ (by exact rfl) ?_); (simp [results, Try.results32, go_sem, n0, n1, z0, z1]); (exact ⟨_, _, _, _, rfl, TSOwn.fin (by rw [HR.out]; exact O05.out) (by rw [HR.out]; exact O15.out) (by rw [HR.out]; exact O25.out) (by rw [HR.out]; exact O35.out) (fun k hk => by have := G0.out k hk; have := GW5.out; exact ⟨by omega, by omega, by omega⟩) (fun k hk => by have := G1.out k hk; have := GW5.out; exact ⟨by omega, by omega, by omega⟩) (fun k hk => by have := G2.out k hk; have := GW5.out; exact ⟨by omega, by omega, by omega⟩) (fun k hk => by have := G3.out k hk; have := GW5.out; exact ⟨by omega, by omega, by omega⟩) DJ.out (fun b h => (D0.out b h).2.1) (fun b h => (D0.out b h).2.2) (fun b h => (D1.out b h).2.1) (fun b h => (D1.out b h).2.2) D23.out, (HB5.out.setCell (by show w.heap.size ≤ w.heap.size + 1; omega) _).setCell (by show w.heap.size ≤ w.heap.size + 1; omega) _⟩))
  | true =>
  have q0 : w5.cell? ⟨w.heap.size, 0, none⟩ = some (Value.slice a0 hs.length cap0) := BS5.out.1.2 0 (by simp)
  have q1 : w5.cell? ⟨w.heap.size, 1, none⟩ = some (Value.slice a1 ds.length cap1) := BS5.out.1.2 1 (by simp)
  have HSA := hid hsa
  go_wp2_with fail
  clear q0 q1
  refine (spec_StackOk0 hs ds sb _ _ _ _ Q0.out Q1.out Q3.out).mono ?_
  rintro e w6 ⟨rfl, b6⟩
  have hs6 := b6.size
  have HB6 := hid (HB5.out.trans (b6.mono HB5.out.size))
  have BQ6 := hid (BQ5.out.below b6)
  have BO6 := hid (BO5.out.below b6)
  have kp6 : ∀ b, b < w4.heap.size → w6.heap[b]? = w5.heap[b]? := fun b hb => b6.block b (by omega)
  have O06 := hid (O05.out.keep (w' := w6) fun b hb => kp6 b (D0.out b hb).1)
  have O16 := hid (O15.out.keep (w' := w6) fun b hb => kp6 b (D1.out b hb).1)
  have O26 := hid (O25.out.keep (w' := w6) fun b hb => kp6 b (by have := (G2.out b hb).2; omega))
  have O36 := hid (O35.out.keep (w' := w6) fun b hb => kp6 b (G3.out b hb).2)
  have GW6 := hid (show w.heap.size + 2 ≤ w4.heap.size ∧ w2.heap.size ≤ w3.heap.size ∧ w3.heap.size ≤ w4.heap.size ∧ w4.heap.size < w6.heap.size by omega)
  clear Q0 Q1 Q3 BS5 BQ5 BO5 O05 O15 O25 O35 b6 kp6
  cases hsb : stackOk hs ds sb with
  | false =>
    have HR := hid (togA_no (show togOk hs ds sa sb ts = false by rw [hu.out, hsb, Bool.and_false]; rfl))
    have m0 : w6.cell? ⟨w4.heap.size, 0, none⟩ = some (Value.slice xa hs.length xc) := BO6.out.1.2 0 (by simp)
    have m1 : w6.cell? ⟨w4.heap.size, 1, none⟩ = some (Value.slice ya ds.length yc) := BO6.out.1.2 1 (by simp)
    have n0 : w6.cell? ⟨w.heap.size + 1, 0, none⟩ = some (Value.slice none 0 0) := BQ6.out.1.2 0 (by simp)
    have z0 : w6.frozen? ⟨w.heap.size + 1, 0, none⟩ = false := BQ6.out.2 0 (by simp)
    have n1 : w6.cell? ⟨w.heap.size + 1, 1, none⟩ = some (Value.slice none 0 0) := BQ6.out.1.2 1 (by simp)
    have z1 : w6.frozen? ⟨w.heap.size + 1, 1, none⟩ = false := BQ6.out.2 1 (by simp)
    go_wp2_with ((try simp only [Exit.inBlock, Exit.then]); (with_reducible refine bodyPost_ret (v := .tuple #[.agg #[Value.slice xa hs.length xc, Value.slice ya ds.length yc], Value.slice za sa.length zc, Value.slice ta sb.length tc]) ?_ (by exact rfl) ?_); (simp [results, Try.results32, go_sem, n0, n1, z0, z1]); (exact ⟨_, _, _, _, rfl, TSOwn.fin (by rw [HR.out]; exact O06.out) (by rw [HR.out]; exact O16.out) (by rw [HR.out]; exact O26.out) (by rw [HR.out]; exact O36.out) (fun k hk => by have := G0.out k hk; have := GW6.out; exact ⟨by omega, by omega, by omega⟩) (fun k hk => by have := G1.out k hk; have := GW6.out; exact ⟨by omega, by omega, by omega⟩) (fun k hk => by have := G2.out k hk; have := GW6.out; exact ⟨by omega, by omega, by omega⟩) (fun k hk => by have := G3.out k hk; have := GW6.out; exact ⟨by omega, by omega, by omega⟩) DJ.out (fun b h => (D0.out b h).2.1) (fun b h => (D0.out b h).2.2) (fun b h => (D1.out b h).2.1) (fun b h => (D1.out b h).2.2) D23.out, (HB6.out.setCell (by show w.heap.size ≤ w.heap.size + 1; omega) _).setCell (by show w.heap.size ≤ w.heap.size + 1; omega) _⟩))
  | true =>
  have HSBk := hid hsb
  by_cases hbig : (400 : Int) < (ts.length : Int)
  · have HR := hid (togA_no (show togOk hs ds sa sb ts = false by rw [hu.out, decide_eq_false (show ¬ ts.length ≤ 400 by omega), Bool.and_false]))
    have m0 : w6.cell? ⟨w4.heap.size, 0, none⟩ = some (Value.slice xa hs.length xc) := BO6.out.1.2 0 (by simp)
    have m1 : w6.cell? ⟨w4.heap.size, 1, none⟩ = some (Value.slice ya ds.length yc) := BO6.out.1.2 1 (by simp)
    have n0 : w6.cell? ⟨w.heap.size + 1, 0, none⟩ = some (Value.slice none 0 0) := BQ6.out.1.2 0 (by simp)
    have z0 : w6.frozen? ⟨w.heap.size + 1, 0, none⟩ = false := BQ6.out.2 0 (by simp)
    have n1 : w6.cell? ⟨w.heap.size + 1, 1, none⟩ = some (Value.slice none 0 0) := BQ6.out.1.2 1 (by simp)
    have z1 : w6.frozen? ⟨w.heap.size + 1, 1, none⟩ = false := BQ6.out.2 1 (by simp)
    go_wp2_with ((try simp only [Exit.inBlock, Exit.then]); (with_reducible refine bodyPost_ret (v := .tuple #[.agg #[Value.slice xa hs.length xc, Value.slice ya ds.length yc], Value.slice za sa.length zc, Value.slice ta sb.length tc]) ?_ (by exact rfl) ?_); (simp [results, Try.results32, go_sem, n0, n1, z0, z1]); (exact ⟨_, _, _, _, rfl, TSOwn.fin (by rw [HR.out]; exact O06.out) (by rw [HR.out]; exact O16.out) (by rw [HR.out]; exact O26.out) (by rw [HR.out]; exact O36.out) (fun k hk => by have := G0.out k hk; have := GW6.out; exact ⟨by omega, by omega, by omega⟩) (fun k hk => by have := G1.out k hk; have := GW6.out; exact ⟨by omega, by omega, by omega⟩) (fun k hk => by have := G2.out k hk; have := GW6.out; exact ⟨by omega, by omega, by omega⟩) (fun k hk => by have := G3.out k hk; have := GW6.out; exact ⟨by omega, by omega, by omega⟩) DJ.out (fun b h => (D0.out b h).2.1) (fun b h => (D0.out b h).2.2) (fun b h => (D1.out b h).2.1) (fun b h => (D1.out b h).2.2) D23.out, (HB6.out.setCell (by show w.heap.size ≤ w.heap.size + 1; omega) _).setCell (by show w.heap.size ≤ w.heap.size + 1; omega) _⟩))
  have HTO := hid (togA_yes (show togOk hs ds sa sb ts = true by rw [hu.out, HSA.out, HSBk.out, decide_eq_true (show ts.length ≤ 400 by omega)]; rfl))
  have HOK : Hid (∀ k, k ≤ ts.length → (togAt ts ⟨hs, ds, sa, sb⟩ k).ok) := hid (togAt_ok (x := ⟨hs, ds, sa, sb⟩) ⟨HSA.out, HSBk.out⟩)
  have M0 := hid (show TogMem ts ⟨hs, ds, sa, sb⟩ S0 S1 SA SB (Value.slice xa hs.length xc) (Value.slice ya ds.length yc) w6 w6 0 (Value.slice za sa.length zc) (Value.slice ta sb.length tc) SA SB from ⟨O06.out, O16.out, O26.out, O36.out, fun b hb => ⟨.inl hb, by have := G2.out b hb; omega⟩, fun b hb => ⟨.inl hb, by have := G3.out b hb; omega⟩, D23.out, ChgS.refl _ _⟩)
  have E0 := hid (show ∀ b, S0 b → b < w6.heap.size ∧ ¬ SA b ∧ ¬ SB b from fun b h => ⟨by have := (D0.out b h).1; omega, (D0.out b h).2⟩)
  have E1 := hid (show ∀ b, S1 b → b < w6.heap.size ∧ ¬ SA b ∧ ¬ SB b from fun b h => ⟨by have := (D1.out b h).1; omega, (D1.out b h).2⟩)
  clear hsa hsb hu O06 O16 O26 O36
  go_wp2
  go_loopw [14, 12, 13] (fun i va vb wr => ∃ (k : Nat) (ua : Option Addr) (um uc : Nat) (ub : Option Addr) (un ud : Nat) (Sa Sb : Nat → Prop), i = .int .i64 k ∧ va = Value.slice ua um uc ∧ vb = Value.slice ub un ud ∧ k ≤ ts.length ∧ Hid (TogMem ts ⟨hs, ds, sa, sb⟩ S0 S1 SA SB (Value.slice xa hs.length xc) (Value.slice ya ds.length yc) w6 wr k (Value.slice ua um uc) (Value.slice ub un ud) Sa Sb)) (fun i _ _ _ => ts.length - (intOf i).toNat)
  case atStart => exact ⟨0, _, _, _, _, _, _, SA, SB, rfl, rfl, rfl, Nat.zero_le _, M0⟩
  case round =>
    clear M0
    obtain ⟨k, ua, um, uc, ub, un, ud, Sa, Sb, rfl, rfl, rfl, hkm, HM⟩ := hrel
    obtain ⟨T, hT⟩ : ∃ T, Hid (togAt ts ⟨hs, ds, sa, sb⟩ k = T) := ⟨_, hid rfl⟩
    have hTok := hid (show T.ok by rw [← hT.out]; exact HOK.out k hkm)
    have hsz : w6.heap.size ≤ wr.heap.size := HM.out.2.2.2.2.2.2.2.size
    have hnS : ∀ b, (b < w.heap.size + 2 ∨ w4.heap.size ≤ b) → ¬ (S0 b ∨ S1 b ∨ SA b ∨ SB b) := fun b h hb => by have := GW6.out; rcases hb with h8 | h8 | h8 | h8; (have := G0.out b h8; omega); (have := G1.out b h8; omega); (have := G2.out b h8; omega); (have := G3.out b h8; omega)
    have BOr := hid (BO6.out.chg HM.out.2.2.2.2.2.2.2 (hnS _ (.inr (Nat.le_refl _))))
    have BQr := hid (BQ6.out.chg HM.out.2.2.2.2.2.2.2 (hnS _ (.inl (by omega))))
    have HBr := hid (below_chg HB6.out HM.out.2.2.2.2.2.2.2 HB6.out.size (fun b hb => by have := GW6.out; rcases hb with h8 | h8 | h8 | h8; (have := G0.out b h8; omega); (have := G1.out b h8; omega); (have := G2.out b h8; omega); (have := G3.out b h8; omega)))
    have GWr := hid (show w.heap.size + 2 ≤ w4.heap.size ∧ w2.heap.size ≤ w3.heap.size ∧ w3.heap.size ≤ w4.heap.size ∧ w4.heap.size < wr.heap.size by have := GW6.out; omega)
    clear hnS
    by_cases hlt : k < ts.length
    · obtain ⟨bb, off, rfl, hbs, ct⟩ := HT.out k hlt
      obtain ⟨tv, htv⟩ : ∃ tv, Hid (ts[k] = tv) := ⟨_, hid rfl⟩
      rw [htv.out] at ct
      have hbb : ¬ (S0 bb ∨ S1 bb ∨ SA bb ∨ SB bb) := fun hb => by have := GW6.out; rcases hb with h8 | h8 | h8 | h8; (have := G0.out bb h8; omega); (have := G1.out bb h8; omega); (have := G2.out bb h8; omega); (have := G3.out bb h8; omega)
      have et : wr.cell? ⟨bb, off + k, none⟩ = some (.bool tv) := (cell_chg HM.out.2.2.2.2.2.2.2 (by have := HB6.out.size; omega) hbb).trans ((HB6.out.cell (p := ⟨bb, off + k, none⟩) hbs).trans ct)
      have k0 : wr.cell? ⟨w4.heap.size, 0, none⟩ = some (Value.slice xa hs.length xc) := BOr.out.1.2 0 (by simp)
      have k1 : wr.cell? ⟨w4.heap.size, 1, none⟩ = some (Value.slice ya ds.length yc) := BOr.out.1.2 1 (by simp)
      have hki : (k : Int) < (ts.length : Int) := by omega
      have hk0 : (0 : Int) ≤ (k : Int) := by omega
      have FM := HM.out
      clear ct hbb
      cases tv with
    | true =>
      go_wp2_with fail
      refine (spec_l8Help0 ⟨(togAt ts ⟨hs, ds, sa, sb⟩ k).hs, (togAt ts ⟨hs, ds, sa, sb⟩ k).ds, (togAt ts ⟨hs, ds, sa, sb⟩ k).b⟩ S0 S1 Sb _ _ _ _ (fun b hb => Nat.lt_of_lt_of_le (E0.out b hb).1 hsz) (fun b hb => Nat.lt_of_lt_of_le (E1.out b hb).1 hsz) (fun b hb => (FM.2.2.2.2.2.1 b hb).2) DJ.out (fun b hb h => (FM.2.2.2.2.2.1 b h).1.elim (E0.out b hb).2.2 (fun h9 => by have := (E0.out b hb).1; omega)) (fun b hb h => (FM.2.2.2.2.2.1 b h).1.elim (E1.out b hb).2.2 (fun h9 => by have := (E1.out b hb).1; omega)) FM.1 FM.2.1 FM.2.2.2.1 (by rw [hT.out]; exact hTok.out.2)).mono ?_
      rintro e w7 ⟨u7, rfl, hH⟩
      obtain ⟨a7, m7, c7, rfl⟩ : ∃ a m c, u7 = Value.slice a m c := by obtain ⟨S9, _, _, p2, _⟩ := hH; exact ownL_shape p2
      have hst := FM.stepB hlt htv.out E0.out E1.out hH
      obtain ⟨S7, hM7⟩ := hst
      have HM7 := hid hM7
      clear hM7 hH FM HM BOr BQr HBr k0 k1 et
      go_wp2
      go_roundw
      case rel => exact ⟨k+1, _, _, _, _, _, _, Sa, S7, by go_num, rfl, rfl, by omega, HM7⟩
      case measure => simp [intOf]; omega
    | false =>
      go_wp2_with fail
      refine (spec_l8Help0 ⟨(togAt ts ⟨hs, ds, sa, sb⟩ k).hs, (togAt ts ⟨hs, ds, sa, sb⟩ k).ds, (togAt ts ⟨hs, ds, sa, sb⟩ k).a⟩ S0 S1 Sa _ _ _ _ (fun b hb => Nat.lt_of_lt_of_le (E0.out b hb).1 hsz) (fun b hb => Nat.lt_of_lt_of_le (E1.out b hb).1 hsz) (fun b hb => (FM.2.2.2.2.1 b hb).2) DJ.out (fun b hb h => (FM.2.2.2.2.1 b h).1.elim (E0.out b hb).2.1 (fun h9 => by have := (E0.out b hb).1; omega)) (fun b hb h => (FM.2.2.2.2.1 b h).1.elim (E1.out b hb).2.1 (fun h9 => by have := (E1.out b hb).1; omega)) FM.1 FM.2.1 FM.2.2.1 (by rw [hT.out]; exact hTok.out.1)).mono ?_
      rintro e w7 ⟨u7, rfl, hH⟩
      obtain ⟨a7, m7, c7, rfl⟩ : ∃ a m c, u7 = Value.slice a m c := by obtain ⟨S9, _, _, p2, _⟩ := hH; exact ownL_shape p2
      have hst := FM.stepA hlt htv.out E0.out E1.out hH
      obtain ⟨S7, hM7⟩ := hst
      have HM7 := hid hM7
      clear hM7 hH FM HM BOr BQr HBr k0 k1 et
      go_wp2
      go_roundw
      case rel => exact ⟨k+1, _, _, _, _, _, _, S7, Sb, by go_num, rfl, rfl, by omega, HM7⟩
      case measure => simp [intOf]; omega
    · obtain rfl : k = ts.length := by omega
      have FM := HM.out
      obtain ⟨aa, ca, ea, -, -⟩ := ownL_len FM.2.2.1
      obtain ⟨ab, cb, eb, -, -⟩ := ownL_len FM.2.2.2.1
      have FH := hid FM
      have hki : ¬ (ts.length : Int) < (ts.length : Int) := by omega
      clear FM ea eb
      have m0 : wr.cell? ⟨w4.heap.size, 0, none⟩ = some (Value.slice xa hs.length xc) := BOr.out.1.2 0 (by simp)
      have m1 : wr.cell? ⟨w4.heap.size, 1, none⟩ = some (Value.slice ya ds.length yc) := BOr.out.1.2 1 (by simp)
      have n0 : wr.cell? ⟨w.heap.size + 1, 0, none⟩ = some (Value.slice none 0 0) := BQr.out.1.2 0 (by simp)
      have z0 : wr.frozen? ⟨w.heap.size + 1, 0, none⟩ = false := BQr.out.2 0 (by simp)
      have n1 : wr.cell? ⟨w.heap.size + 1, 1, none⟩ = some (Value.slice none 0 0) := BQr.out.1.2 1 (by simp)
      have z1 : wr.frozen? ⟨w.heap.size + 1, 1, none⟩ = false := BQr.out.2 1 (by simp)
      go_wp2_with ((try simp only [Exit.inBlock, Exit.then]); (with_reducible refine bodyPost_ret (v := .tuple #[.agg #[Value.slice xa hs.length xc, Value.slice ya ds.length yc], Value.slice ua um uc, Value.slice ub un ud]) ?_ (by exact rfl) ?_); (simp [results, Try.results32, go_sem, n0, n1, z0, z1]); (exact ⟨_, _, _, _, rfl, TSOwn.fin (by rw [HTO.out]; exact FH.out.1) (by rw [HTO.out]; exact FH.out.2.1) (by rw [HTO.out]; exact FH.out.2.2.1) (by rw [HTO.out]; exact FH.out.2.2.2.1) (fun k hk => by have := G0.out k hk; have := GWr.out; exact ⟨by omega, by omega, by omega⟩) (fun k hk => by have := G1.out k hk; have := GWr.out; exact ⟨by omega, by omega, by omega⟩) (fun k hk => by have h9 := FH.out.2.2.2.2.1 k hk; have := GWr.out; exact h9.1.elim (fun h => by have := G2.out k h; exact ⟨by omega, by omega, by omega⟩) (fun h => ⟨by omega, by omega, by omega⟩)) (fun k hk => by have h9 := FH.out.2.2.2.2.2.1 k hk; have := GWr.out; exact h9.1.elim (fun h => by have := G3.out k h; exact ⟨by omega, by omega, by omega⟩) (fun h => ⟨by omega, by omega, by omega⟩)) DJ.out (fun b hb h => (FH.out.2.2.2.2.1 b h).1.elim (E0.out b hb).2.1 (fun h9 => by have := (E0.out b hb).1; omega)) (fun b hb h => (FH.out.2.2.2.2.2.1 b h).1.elim (E0.out b hb).2.2 (fun h9 => by have := (E0.out b hb).1; omega)) (fun b hb h => (FH.out.2.2.2.2.1 b h).1.elim (E1.out b hb).2.1 (fun h9 => by have := (E1.out b hb).1; omega)) (fun b hb h => (FH.out.2.2.2.2.2.1 b h).1.elim (E1.out b hb).2.2 (fun h9 => by have := (E1.out b hb).1; omega)) FH.out.2.2.2.2.2.2.1, (HBr.out.setCell (by show w.heap.size ≤ w.heap.size + 1; omega) _).setCell (by show w.heap.size ≤ w.heap.size + 1; omega) _⟩))
end Go.Proofs.Ytambpjjfndnadaa
