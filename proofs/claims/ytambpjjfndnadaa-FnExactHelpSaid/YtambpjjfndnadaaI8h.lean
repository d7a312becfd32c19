/- Chapter 8's program: Help. -/
import Derived.Test.YtambpjjfndnadaaS8b
import Derived.Test.YtambpjjfndnadaaI8b
/- Chapter 8's model: Help. -/
namespace Go.Proofs.Ytambpjjfndnadaa
set_option maxRecDepth 100000
open Go.RowKit Go.Proofs Go.Own
open Go Go.BigFrame
set_option linter.unusedVariables false
set_option linter.unusedSimpArgs false
/-- What Help answers. -/
def helpA (hs : List Head) (ds : List DescD) (st : List Frame) : HS := if stackOk hs ds st = true then helpR ⟨hs, ds, st⟩ else ⟨hs, ds, st⟩
theorem helpA_yes {hs : List Head} {ds : List DescD} {st : List Frame} (h : stackOk hs ds st = true) : helpA hs ds st = helpR ⟨hs, ds, st⟩ := if_pos h
theorem helpA_no {hs : List Head} {ds : List DescD} {st : List Frame} (h : stackOk hs ds st = false) : helpA hs ds st = ⟨hs, ds, st⟩ := if_neg (by rw [h]; simp)
/-- A store and a stack of the call's own. -/
def HSOwn (w w' : World) (u0 u1 u2 : Value) (y : HS) : Prop := ∃ S0 S1 S2 : Nat → Prop, ownL S0 w' u0 y.hs ∧ ownL S1 w' u1 y.ds ∧ ownL S2 w' u2 y.st ∧ (∀ b, S0 b → Rg w.heap.size w'.heap.size b) ∧ (∀ b, S1 b → Rg w.heap.size w'.heap.size b) ∧ (∀ b, S2 b → Rg w.heap.size w'.heap.size b) ∧ (∀ b, S0 b → ¬ S1 b) ∧ (∀ b, S0 b → ¬ S2 b) ∧ (∀ b, S1 b → ¬ S2 b)
/-- The result's box is laid: what is the call's own stays. -/
theorem HSOwn.fin {w X : World} {u0 u1 u2 : Value} {y : HS} {S0 S1 S2 : Nat → Prop} {R : Nat} {a b : Value} (o0 : ownL S0 X u0 y.hs) (o1 : ownL S1 X u1 y.ds) (o2 : ownL S2 X u2 y.st) (g0 : ∀ k, S0 k → w.heap.size ≤ k ∧ k < X.heap.size ∧ k ≠ R) (g1 : ∀ k, S1 k → w.heap.size ≤ k ∧ k < X.heap.size ∧ k ≠ R) (g2 : ∀ k, S2 k → w.heap.size ≤ k ∧ k < X.heap.size ∧ k ≠ R)
    (d01 : ∀ k, S0 k → ¬ S1 k) (d02 : ∀ k, S0 k → ¬ S2 k) (d12 : ∀ k, S1 k → ¬ S2 k) : HSOwn w ((X.setCell ⟨R, 0, none⟩ a).setCell ⟨R, 1, none⟩ b) u0 u1 u2 y :=
  ⟨S0, S1, S2, own_set (own_set o0 fun k h => (g0 k h).2.2) fun k h => (g0 k h).2.2, own_set (own_set o1 fun k h => (g1 k h).2.2) fun k h => (g1 k h).2.2, own_set (own_set o2 fun k h => (g2 k h).2.2) fun k h => (g2 k h).2.2,
    fun k h => ⟨(g0 k h).1, by simpa [World.setCell] using (g0 k h).2.1⟩, fun k h => ⟨(g1 k h).1, by simpa [World.setCell] using (g1 k h).2.1⟩, fun k h => ⟨(g2 k h).1, by simpa [World.setCell] using (g2 k h).2.1⟩, d01, d02, d12⟩
set_option maxHeartbeats 8000000 in
theorem spec_Help0 (hs : List Head) (ds : List DescD) (st : List Frame) (v0 v1 v2 : Value) (w : World) (hx0 : hs.length ≤ 1048576) (hx1 : ds.length ≤ 1048576) (hx2 : ∀ i, (h : i < ds.length) → ds[i].entries_.length ≤ 1048576) (hx3 : st.length ≤ 1048576) (h0 : rdsL w v0 hs) (h1 : rdsL w v1 ds) (h2 : rdsL w v2 st) :
    Calls Try.prog 24 #[.agg #[v0, v1], v2] w fun e w' => ∃ u0 u1 u2 : Value, e = .returned (.tuple #[.agg #[u0, u1], u2]) ∧ HSOwn w w' u0 u1 u2 (helpA hs ds st) ∧ Below w.heap.size w w' := by
  have H0 := hid h0
  have H1 := hid h1
  have H2 := hid h2
  have HX2 := hid hx2
  obtain ⟨a0, cap0, rfl, hl0, hm0, -⟩ := rdsL_open h0
  obtain ⟨a1, cap1, rfl, hl1, hm1, -⟩ := rdsL_open h1
  obtain ⟨a2, cap2, rfl, hl2, hm2, -⟩ := rdsL_open h2
  clear h0 h1 h2 hx2
  obtain ⟨W1, hW1⟩ : ∃ X, (w.alloc (.cells #[Value.slice a0 hs.length cap0, Value.slice a1 ds.length cap1] 32)).alloc (.cells #[Value.slice none 0 0, Value.slice none 0 0] 32) = X := ⟨_, rfl⟩
  have hB1 : Below w.heap.size w W1 := by rw [← hW1]; exact ((Below.refl _ _).alloc (Nat.le_refl _) _).alloc (by simp) _
  have hN : W1.heap.size = w.heap.size + 2 := by rw [← hW1]; simp
  have bs : BoxF W1 w.heap.size [Value.slice a0 hs.length cap0, Value.slice a1 ds.length cap1] := by rw [← hW1]; exact (BoxF.alloc w #[Value.slice a0 hs.length cap0, Value.slice a1 ds.length cap1] 32).below ((Below.refl _ _).alloc (Nat.le_refl _) _)
  have bq : BoxF W1 (w.heap.size + 1) [Value.slice none 0 0, Value.slice none 0 0] := by
    rw [← hW1]
    have h1 := BoxF.alloc (w.alloc (.cells #[Value.slice a0 hs.length cap0, Value.slice a1 ds.length cap1] 32)) #[Value.slice none 0 0, Value.slice none 0 0] 32
    rw [show (w.alloc (.cells #[Value.slice a0 hs.length cap0, Value.slice a1 ds.length cap1] 32)).heap.size = w.heap.size + 1 by simp] at h1
    exact h1
  have k0 : W1.cell? ⟨w.heap.size, 0, none⟩ = some (Value.slice a0 hs.length cap0) := bs.1.2 0 (by simp)
  have k1 : W1.cell? ⟨w.heap.size, 1, none⟩ = some (Value.slice a1 ds.length cap1) := bs.1.2 1 (by simp)
  have R0 := hid (rdsL.below H0.out hB1)
  have R1 := hid (rdsL.below H1.out hB1)
  have BS := hid bs
  have BQ := hid bq
  have HW1 := hid hW1
  clear bs bq hW1
  go_enter Try.func24, Try.ntmps24
  go_wp2_with fail
  rw [HW1.out]
  refine (spec_l7Copy0 hs ds _ _ _ hx0 hx1 HX2.out R0.out R1.out).mono ?_
  rintro e w2 ⟨u0, u1, S0, S1, rfl, o0, o1, rg0, rg1, dj, b2⟩
  obtain ⟨xa, xc, rfl, -, -⟩ := ownL_len o0
  obtain ⟨ya, yc, rfl, -, -⟩ := ownL_len o1
  have hB2 := hB1.trans (b2.mono hB1.size)
  have hs2 := b2.size
  have R2 := hid (rdsL.below H2.out hB2)
  have O0 := hid o0
  have O1 := hid o1
  have RG0 := hid rg0
  have RG1 := hid rg1
  have DJ := hid dj
  have BS2 := hid (BS.out.below b2)
  have BQ2 := hid (BQ.out.below b2)
  clear o0 o1 rg0 rg1 dj k0 k1 R0 R1 BS BQ b2
  go_wp2_with fail
  refine (spec_l8Copy _ st _ R2.out hx3).mono ?_
  rintro e w3 ⟨u2, S2, rfl, o2, rg2, b3⟩
  obtain ⟨za, zc, rfl, -, -⟩ := ownL_len o2
  have hB3 := hB2.trans (b3.mono hB2.size)
  have hs3 := b3.size
  obtain ⟨V, hV⟩ : ∃ X, w3.alloc (.cells #[Value.slice xa hs.length xc, Value.slice ya ds.length yc] 32) = X := ⟨_, rfl⟩
  have bV : Below w3.heap.size w3 V := by rw [← hV]; exact (Below.refl _ _).alloc (Nat.le_refl _) _
  have hsV : V.heap.size = w3.heap.size + 1 := by rw [← hV]; simp
  have HBV := hid (hB3.trans (bV.mono hB3.size))
  have BSV := hid ((BS2.out.below b3).below bV)
  have BQV := hid ((BQ2.out.below b3).below bV)
  have BOV : Hid (BoxF V w3.heap.size [Value.slice xa hs.length xc, Value.slice ya ds.length yc]) := by rw [← hV]; exact hid (BoxF.alloc w3 #[Value.slice xa hs.length xc, Value.slice ya ds.length yc] 32)
  have G0 := hid (fun b (hb : S0 b) => (show w.heap.size + 2 ≤ b ∧ b < w2.heap.size from ⟨by have := (RG0.out b hb).1; omega, (RG0.out b hb).2⟩))
  have G1 := hid (fun b (hb : S1 b) => (show w.heap.size + 2 ≤ b ∧ b < w2.heap.size from ⟨by have := (RG1.out b hb).1; omega, (RG1.out b hb).2⟩))
  have G2 := hid (fun b (hb : S2 b) => (show w2.heap.size ≤ b ∧ b < w3.heap.size from ⟨(rg2 b hb).1, (rg2 b hb).2⟩))
  have O0V := hid (O0.out.keep (w' := V) fun b hb => (bV.block b (by have := (G0.out b hb).2; omega)).trans (b3.block b (G0.out b hb).2))
  have O1V := hid (O1.out.keep (w' := V) fun b hb => (bV.block b (by have := (G1.out b hb).2; omega)).trans (b3.block b (G1.out b hb).2))
  have O2V := hid (o2.keep (w' := V) fun b hb => bV.block b (G2.out b hb).2)
  have D02 := hid (show ∀ b, S0 b → ¬ S2 b from fun b h h9 => by have := G0.out b h; have := G2.out b h9; omega)
  have D12 := hid (show ∀ b, S1 b → ¬ S2 b from fun b h h9 => by have := G1.out b h; have := G2.out b h9; omega)
  have q0 : V.cell? ⟨w.heap.size, 0, none⟩ = some (Value.slice a0 hs.length cap0) := BSV.out.1.2 0 (by simp)
  have q1 : V.cell? ⟨w.heap.size, 1, none⟩ = some (Value.slice a1 ds.length cap1) := BSV.out.1.2 1 (by simp)
  have P0 := hid (rdsL.below H0.out HBV.out)
  have P1 := hid (rdsL.below H1.out HBV.out)
  have P2 := hid (rdsL.below H2.out HBV.out)
  clear o2 rg2 RG0 RG1 O0 O1 BS2 BQ2 R2 b3 bV
  go_wp2_with fail
  clear hV q0 q1
  refine (spec_StackOk0 hs ds st _ _ _ _ P0.out P1.out P2.out).mono ?_
  rintro e w4 ⟨rfl, b4⟩
  have hs4 := b4.size
  have HB4 := hid (HBV.out.trans (b4.mono HBV.out.size))
  have BQ4 := hid (BQV.out.below b4)
  have BO4 := hid (BOV.out.below b4)
  have hlt : w3.heap.size < V.heap.size := by omega
  have hlt2 : w2.heap.size ≤ V.heap.size := by omega
  have O04 := hid (O0V.out.keep (w' := w4) fun b hb => b4.block b (by have := (G0.out b hb).2; omega))
  have O14 := hid (O1V.out.keep (w' := w4) fun b hb => b4.block b (by have := (G1.out b hb).2; omega))
  have O24 := hid (O2V.out.keep (w' := w4) fun b hb => b4.block b (by have := (G2.out b hb).2; omega))
  clear P0 P1 P2 BSV BQV BOV O0V O1V O2V b4
  cases hso : stackOk hs ds st with
  | false =>
    have HR := hid (helpA_no hso)
    have m0 : w4.cell? ⟨w3.heap.size, 0, none⟩ = some (Value.slice xa hs.length xc) := BO4.out.1.2 0 (by simp)
    have m1 : w4.cell? ⟨w3.heap.size, 1, none⟩ = some (Value.slice ya ds.length yc) := BO4.out.1.2 1 (by simp)
    have n0 : w4.cell? ⟨w.heap.size + 1, 0, none⟩ = some (Value.slice none 0 0) := BQ4.out.1.2 0 (by simp)
    have z0 : w4.frozen? ⟨w.heap.size + 1, 0, none⟩ = false := BQ4.out.2 0 (by simp)
    have n1 : w4.cell? ⟨w.heap.size + 1, 1, none⟩ = some (Value.slice none 0 0) := BQ4.out.1.2 1 (by simp)
    have z1 : w4.frozen? ⟨w.heap.size + 1, 1, none⟩ = false := BQ4.out.2 1 (by simp)
    go_wp2_with ((try simp only [Exit.inBlock, Exit.then]); (with_reducible refine bodyPost_ret (v := .tuple #[.agg #[Value.slice xa hs.length xc, Value.slice ya ds.length yc], Value.slice za st.length zc]) ?_ (by exact rfl) ?_); (simp [results, Try.results24, go_sem, n0, n1, z0, z1]); (exact ⟨_, _, _, rfl, HSOwn.fin (by rw [HR.out]; exact O04.out) (by rw [HR.out]; exact O14.out) (by rw [HR.out]; exact O24.out) (fun k hk => by have := G0.out k hk; exact ⟨by omega, by omega, by omega⟩) (fun k hk => by have := G1.out k hk; exact ⟨by omega, by omega, by omega⟩) (fun k hk => by have := G2.out k hk; exact ⟨by omega, by omega, by omega⟩) DJ.out D02.out D12.out, (HB4.out.setCell (by show w.heap.size ≤ w.heap.size + 1; omega) _).setCell (by show w.heap.size ≤ w.heap.size + 1; omega) _⟩))
  | true =>
    have HR := hid (helpA_yes hso)
    have m0 : w4.cell? ⟨w3.heap.size, 0, none⟩ = some (Value.slice xa hs.length xc) := BO4.out.1.2 0 (by simp)
    have m1 : w4.cell? ⟨w3.heap.size, 1, none⟩ = some (Value.slice ya ds.length yc) := BO4.out.1.2 1 (by simp)
    go_wp2_with fail
    clear m0 m1
    refine (spec_l8Help0 ⟨hs, ds, st⟩ S0 S1 S2 _ _ _ _ (fun b hb => by have := (G0.out b hb).2; omega) (fun b hb => by have := (G1.out b hb).2; omega) (fun b hb => by have := (G2.out b hb).2; omega) DJ.out D02.out D12.out O04.out O14.out O24.out hso).mono ?_
    rintro e w5 ⟨u3, rfl, S', p0, p1, p2, hS', C⟩
    obtain ⟨za3, zc3, rfl, -, -⟩ := ownL_len p2
    have hs5 := C.size
    have P0 := hid p0
    have P1 := hid p1
    have P2 := hid p2
    have HS' := hid hS'
    have hnS : ∀ b, (b < w.heap.size + 2 ∨ w3.heap.size ≤ b) → ¬ (S0 b ∨ S1 b ∨ S2 b) := fun b h hb => by rcases hb with h8 | h8 | h8; (have := G0.out b h8; omega); (have := G1.out b h8; omega); (have := G2.out b h8; omega)
    have BO5 := hid (BO4.out.chg C (hnS _ (.inr (Nat.le_refl _))))
    have BQ5 := hid (BQ4.out.chg C (hnS _ (.inl (by omega))))
    have HB5 := hid (below_chg HB4.out C HB4.out.size (fun b hb => by rcases hb with h8 | h8 | h8; (have := G0.out b h8; omega); (have := G1.out b h8; omega); (have := G2.out b h8; omega)))
    have D0 := hid (show ∀ b, S0 b → ¬ S' b from fun b h h9 => (HS'.out b h9).elim (D02.out b h) (fun h8 => by have := G0.out b h; omega))
    have D1 := hid (show ∀ b, S1 b → ¬ S' b from fun b h h9 => (HS'.out b h9).elim (D12.out b h) (fun h8 => by have := G1.out b h; omega))
    clear p0 p1 p2 hS' C BO4 BQ4 O04 O14 O24 hnS hso
    have m0 : w5.cell? ⟨w3.heap.size, 0, none⟩ = some (Value.slice xa hs.length xc) := BO5.out.1.2 0 (by simp)
    have m1 : w5.cell? ⟨w3.heap.size, 1, none⟩ = some (Value.slice ya ds.length yc) := BO5.out.1.2 1 (by simp)
    have n0 : w5.cell? ⟨w.heap.size + 1, 0, none⟩ = some (Value.slice none 0 0) := BQ5.out.1.2 0 (by simp)
    have z0 : w5.frozen? ⟨w.heap.size + 1, 0, none⟩ = false := BQ5.out.2 0 (by simp)
    have n1 : w5.cell? ⟨w.heap.size + 1, 1, none⟩ = some (Value.slice none 0 0) := BQ5.out.1.2 1 (by simp)
    have z1 : w5.frozen? ⟨w.heap.size + 1, 1, none⟩ = false := BQ5.out.2 1 (by simp)
    go_wp2_with ((try simp only [Exit.inBlock, Exit.then]); (with_reducible refine bodyPost_ret (v := .tuple #[.agg #[Value.slice xa hs.length xc, Value.slice ya ds.length yc], Value.slice za3 (helpR ⟨hs, ds, st⟩).st.length zc3]) ?_ (by exact rfl) ?_); (simp [results, Try.results24, go_sem, n0, n1, z0, z1]); (exact ⟨_, _, _, rfl, HSOwn.fin (by rw [HR.out]; exact P0.out) (by rw [HR.out]; exact P1.out) (by rw [HR.out]; exact P2.out) (fun k hk => by have := G0.out k hk; exact ⟨by omega, by omega, by omega⟩) (fun k hk => by have := G1.out k hk; exact ⟨by omega, by omega, by omega⟩) (fun k hk => (HS'.out k hk).elim (fun h => by have := G2.out k h; exact ⟨by omega, by omega, by omega⟩) (fun h => ⟨by omega, by omega, by omega⟩)) DJ.out D0.out D1.out, (HB5.out.setCell (by show w.heap.size ≤ w.heap.size + 1; omega) _).setCell (by show w.heap.size ≤ w.heap.size + 1; omega) _⟩))
end Go.Proofs.Ytambpjjfndnadaa
namespace Go.Proofs.Ytambpjjfndnadaa
set_option maxRecDepth 100000
open Go.RowKit Go.Proofs Go.Own
open Go Go.BigFrame
set_option linter.unusedVariables false
set_option linter.unusedSimpArgs false
set_option maxHeartbeats 8000000 in
theorem impl_Help0 (hs : List Head) (ds : List DescD) (st : List Frame) (v0 v1 v2 : Value) (w : World) (hx0 : hs.length ≤ 1048576) (hx1 : ds.length ≤ 1048576) (hx2 : ∀ i, (h : i < ds.length) → ds[i].entries_.length ≤ 1048576) (hx3 : st.length ≤ 1048576) (h0 : rdsL w v0 hs) (h1 : rdsL w v1 ds) (h2 : rdsL w v2 st) :
    Calls Try.prog 25 #[.agg #[v0, v1], v2] w fun e w' => ∃ u0 u1 u2 : Value, e = .returned (.tuple #[.agg #[u0, u1], u2]) ∧ HSOwn w w' u0 u1 u2 (helpA hs ds st) ∧ Below w.heap.size w w' := by
  have H0 := hid h0
  have H1 := hid h1
  have H2 := hid h2
  have HX2 := hid hx2
  obtain ⟨a0, cap0, rfl, hl0, hm0, -⟩ := rdsL_open h0
  obtain ⟨a1, cap1, rfl, hl1, hm1, -⟩ := rdsL_open h1
  obtain ⟨a2, cap2, rfl, hl2, hm2, -⟩ := rdsL_open h2
  clear h0 h1 h2 hx2
  obtain ⟨W1, hW1⟩ : ∃ X, (w.alloc (.cells #[Value.slice a0 hs.length cap0, Value.slice a1 ds.length cap1] 32)).alloc (.cells #[Value.slice none 0 0, Value.slice none 0 0] 32) = X := ⟨_, rfl⟩
  have hB1 : Below w.heap.size w W1 := by rw [← hW1]; exact ((Below.refl _ _).alloc (Nat.le_refl _) _).alloc (by simp) _
  have hN : W1.heap.size = w.heap.size + 2 := by rw [← hW1]; simp
  have bs : BoxF W1 w.heap.size [Value.slice a0 hs.length cap0, Value.slice a1 ds.length cap1] := by rw [← hW1]; exact (BoxF.alloc w #[Value.slice a0 hs.length cap0, Value.slice a1 ds.length cap1] 32).below ((Below.refl _ _).alloc (Nat.le_refl _) _)
  have bq : BoxF W1 (w.heap.size + 1) [Value.slice none 0 0, Value.slice none 0 0] := by
    rw [← hW1]
    have h1 := BoxF.alloc (w.alloc (.cells #[Value.slice a0 hs.length cap0, Value.slice a1 ds.length cap1] 32)) #[Value.slice none 0 0, Value.slice none 0 0] 32
    rw [show (w.alloc (.cells #[Value.slice a0 hs.length cap0, Value.slice a1 ds.length cap1] 32)).heap.size = w.heap.size + 1 by simp] at h1
    exact h1
  have k0 : W1.cell? ⟨w.heap.size, 0, none⟩ = some (Value.slice a0 hs.length cap0) := bs.1.2 0 (by simp)
  have k1 : W1.cell? ⟨w.heap.size, 1, none⟩ = some (Value.slice a1 ds.length cap1) := bs.1.2 1 (by simp)
  have R0 := hid (rdsL.below H0.out hB1)
  have R1 := hid (rdsL.below H1.out hB1)
  have BS := hid bs
  have BQ := hid bq
  have HW1 := hid hW1
  clear bs bq hW1
  go_enter Try.func25, Try.ntmps25
  go_wp2_with fail
  rw [HW1.out]
  refine (impl_copyStore0 hs ds _ _ _ hx0 hx1 HX2.out R0.out R1.out).mono ?_
  rintro e w2 ⟨u0, u1, S0, S1, rfl, o0, o1, rg0, rg1, dj, b2⟩
  obtain ⟨xa, xc, rfl, -, -⟩ := ownL_len o0
  obtain ⟨ya, yc, rfl, -, -⟩ := ownL_len o1
  have hB2 := hB1.trans (b2.mono hB1.size)
  have hs2 := b2.size
  have R2 := hid (rdsL.below H2.out hB2)
  have O0 := hid o0
  have O1 := hid o1
  have RG0 := hid rg0
  have RG1 := hid rg1
  have DJ := hid dj
  have BS2 := hid (BS.out.below b2)
  have BQ2 := hid (BQ.out.below b2)
  clear o0 o1 rg0 rg1 dj k0 k1 R0 R1 BS BQ b2
  go_wp2_with fail
  refine (impl_copyStack _ st _ R2.out hx3).mono ?_
  rintro e w3 ⟨u2, S2, rfl, o2, rg2, b3⟩
  obtain ⟨za, zc, rfl, -, -⟩ := ownL_len o2
  have hB3 := hB2.trans (b3.mono hB2.size)
  have hs3 := b3.size
  obtain ⟨V, hV⟩ : ∃ X, w3.alloc (.cells #[Value.slice xa hs.length xc, Value.slice ya ds.length yc] 32) = X := ⟨_, rfl⟩
  have bV : Below w3.heap.size w3 V := by rw [← hV]; exact (Below.refl _ _).alloc (Nat.le_refl _) _
  have hsV : V.heap.size = w3.heap.size + 1 := by rw [← hV]; simp
  have HBV := hid (hB3.trans (bV.mono hB3.size))
  have BSV := hid ((BS2.out.below b3).below bV)
  have BQV := hid ((BQ2.out.below b3).below bV)
  have BOV : Hid (BoxF V w3.heap.size [Value.slice xa hs.length xc, Value.slice ya ds.length yc]) := by rw [← hV]; exact hid (BoxF.alloc w3 #[Value.slice xa hs.length xc, Value.slice ya ds.length yc] 32)
  have G0 := hid (fun b (hb : S0 b) => (show w.heap.size + 2 ≤ b ∧ b < w2.heap.size from ⟨by have := (RG0.out b hb).1; omega, (RG0.out b hb).2⟩))
  have G1 := hid (fun b (hb : S1 b) => (show w.heap.size + 2 ≤ b ∧ b < w2.heap.size from ⟨by have := (RG1.out b hb).1; omega, (RG1.out b hb).2⟩))
  have G2 := hid (fun b (hb : S2 b) => (show w2.heap.size ≤ b ∧ b < w3.heap.size from ⟨(rg2 b hb).1, (rg2 b hb).2⟩))
  have O0V := hid (O0.out.keep (w' := V) fun b hb => (bV.block b (by have := (G0.out b hb).2; omega)).trans (b3.block b (G0.out b hb).2))
  have O1V := hid (O1.out.keep (w' := V) fun b hb => (bV.block b (by have := (G1.out b hb).2; omega)).trans (b3.block b (G1.out b hb).2))
  have O2V := hid (o2.keep (w' := V) fun b hb => bV.block b (G2.out b hb).2)
  have D02 := hid (show ∀ b, S0 b → ¬ S2 b from fun b h h9 => by have := G0.out b h; have := G2.out b h9; omega)
  have D12 := hid (show ∀ b, S1 b → ¬ S2 b from fun b h h9 => by have := G1.out b h; have := G2.out b h9; omega)
  have q0 : V.cell? ⟨w3.heap.size, 0, none⟩ = some (Value.slice xa hs.length xc) := BOV.out.1.2 0 (by simp)
  have q1 : V.cell? ⟨w3.heap.size, 1, none⟩ = some (Value.slice ya ds.length yc) := BOV.out.1.2 1 (by simp)
  have P0 := hid (ownL.rds O0V.out)
  have P1 := hid (ownL.rds O1V.out)
  have P2 := hid (ownL.rds O2V.out)
  clear o2 rg2 RG0 RG1 O0 O1 BS2 BQ2 R2 b3 bV
  go_wp2_with fail
  clear hV q0 q1
  refine (impl_StackOk0 hs ds st _ _ _ _ P0.out P1.out P2.out).mono ?_
  rintro e w4 ⟨rfl, b4⟩
  have hs4 := b4.size
  have HB4 := hid (HBV.out.trans (b4.mono HBV.out.size))
  have BQ4 := hid (BQV.out.below b4)
  have BO4 := hid (BOV.out.below b4)
  have hlt : w3.heap.size < V.heap.size := by omega
  have hlt2 : w2.heap.size ≤ V.heap.size := by omega
  have O04 := hid (O0V.out.keep (w' := w4) fun b hb => b4.block b (by have := (G0.out b hb).2; omega))
  have O14 := hid (O1V.out.keep (w' := w4) fun b hb => b4.block b (by have := (G1.out b hb).2; omega))
  have O24 := hid (O2V.out.keep (w' := w4) fun b hb => b4.block b (by have := (G2.out b hb).2; omega))
  clear P0 P1 P2 BSV BQV BOV O0V O1V O2V b4
  cases hso : stackOk hs ds st with
  | false =>
    have HR := hid (helpA_no hso)
    have m0 : w4.cell? ⟨w3.heap.size, 0, none⟩ = some (Value.slice xa hs.length xc) := BO4.out.1.2 0 (by simp)
    have m1 : w4.cell? ⟨w3.heap.size, 1, none⟩ = some (Value.slice ya ds.length yc) := BO4.out.1.2 1 (by simp)
    have n0 : w4.cell? ⟨w.heap.size + 1, 0, none⟩ = some (Value.slice none 0 0) := BQ4.out.1.2 0 (by simp)
    have z0 : w4.frozen? ⟨w.heap.size + 1, 0, none⟩ = false := BQ4.out.2 0 (by simp)
    have n1 : w4.cell? ⟨w.heap.size + 1, 1, none⟩ = some (Value.slice none 0 0) := BQ4.out.1.2 1 (by simp)
    have z1 : w4.frozen? ⟨w.heap.size + 1, 1, none⟩ = false := BQ4.out.2 1 (by simp)
    go_wp2_with ((try simp only [Exit.inBlock, Exit.then]); (with_reducible refine bodyPost_ret (v := .tuple #[.agg #[Value.slice xa hs.length xc, Value.slice ya ds.length yc], Value.slice za st.length zc]) ?_ (by exact rfl) ?_); (simp [results, Try.results25, go_sem, n0, n1, z0, z1]); (exact ⟨_, _, _, rfl, HSOwn.fin (by rw [HR.out]; exact O04.out) (by rw [HR.out]; exact O14.out) (by rw [HR.out]; exact O24.out) (fun k hk => by have := G0.out k hk; exact ⟨by omega, by omega, by omega⟩) (fun k hk => by have := G1.out k hk; exact ⟨by omega, by omega, by omega⟩) (fun k hk => by have := G2.out k hk; exact ⟨by omega, by omega, by omega⟩) DJ.out D02.out D12.out, (HB4.out.setCell (by show w.heap.size ≤ w.heap.size + 1; omega) _).setCell (by show w.heap.size ≤ w.heap.size + 1; omega) _⟩))
  | true =>
    have HR := hid (helpA_yes hso)
    have m0 : w4.cell? ⟨w3.heap.size, 0, none⟩ = some (Value.slice xa hs.length xc) := BO4.out.1.2 0 (by simp)
    have m1 : w4.cell? ⟨w3.heap.size, 1, none⟩ = some (Value.slice ya ds.length yc) := BO4.out.1.2 1 (by simp)
    go_wp2_with fail
    clear m0 m1
    refine (impl_help0 ⟨hs, ds, st⟩ S0 S1 S2 _ _ _ _ (fun b hb => by have := (G0.out b hb).2; omega) (fun b hb => by have := (G1.out b hb).2; omega) (fun b hb => by have := (G2.out b hb).2; omega) DJ.out D02.out D12.out O04.out O14.out O24.out hso).mono ?_
    rintro e w5 ⟨u3, rfl, S', p0, p1, p2, hS', C⟩
    obtain ⟨za3, zc3, rfl, -, -⟩ := ownL_len p2
    have hs5 := C.size
    have P0 := hid p0
    have P1 := hid p1
    have P2 := hid p2
    have HS' := hid hS'
    have hnS : ∀ b, (b < w.heap.size + 2 ∨ w3.heap.size ≤ b) → ¬ (S0 b ∨ S1 b ∨ S2 b) := fun b h hb => by rcases hb with h8 | h8 | h8; (have := G0.out b h8; omega); (have := G1.out b h8; omega); (have := G2.out b h8; omega)
    have BO5 := hid (BO4.out.chg C (hnS _ (.inr (Nat.le_refl _))))
    have BQ5 := hid (BQ4.out.chg C (hnS _ (.inl (by omega))))
    have HB5 := hid (below_chg HB4.out C HB4.out.size (fun b hb => by rcases hb with h8 | h8 | h8; (have := G0.out b h8; omega); (have := G1.out b h8; omega); (have := G2.out b h8; omega)))
    have D0 := hid (show ∀ b, S0 b → ¬ S' b from fun b h h9 => (HS'.out b h9).elim (D02.out b h) (fun h8 => by have := G0.out b h; omega))
    have D1 := hid (show ∀ b, S1 b → ¬ S' b from fun b h h9 => (HS'.out b h9).elim (D12.out b h) (fun h8 => by have := G1.out b h; omega))
    clear p0 p1 p2 hS' C BO4 BQ4 O04 O14 O24 hnS hso
    have m0 : w5.cell? ⟨w3.heap.size, 0, none⟩ = some (Value.slice xa hs.length xc) := BO5.out.1.2 0 (by simp)
    have m1 : w5.cell? ⟨w3.heap.size, 1, none⟩ = some (Value.slice ya ds.length yc) := BO5.out.1.2 1 (by simp)
    have n0 : w5.cell? ⟨w.heap.size + 1, 0, none⟩ = some (Value.slice none 0 0) := BQ5.out.1.2 0 (by simp)
    have z0 : w5.frozen? ⟨w.heap.size + 1, 0, none⟩ = false := BQ5.out.2 0 (by simp)
    have n1 : w5.cell? ⟨w.heap.size + 1, 1, none⟩ = some (Value.slice none 0 0) := BQ5.out.1.2 1 (by simp)
    have z1 : w5.frozen? ⟨w.heap.size + 1, 1, none⟩ = false := BQ5.out.2 1 (by simp)
    go_wp2_with ((try simp only [Exit.inBlock, Exit.then]); (with_reducible refine bodyPost_ret (v := .tuple #[.agg #[Value.slice xa hs.length xc, Value.slice ya ds.length yc], Value.slice za3 (helpR ⟨hs, ds, st⟩).st.length zc3]) ?_ (by exact rfl) ?_); (simp [results, Try.results25, go_sem, n0, n1, z0, z1]); (exact ⟨_, _, _, rfl, HSOwn.fin (by rw [HR.out]; exact P0.out) (by rw [HR.out]; exact P1.out) (by rw [HR.out]; exact P2.out) (fun k hk => by have := G0.out k hk; exact ⟨by omega, by omega, by omega⟩) (fun k hk => by have := G1.out k hk; exact ⟨by omega, by omega, by omega⟩) (fun k hk => (HS'.out k hk).elim (fun h => by have := G2.out k h; exact ⟨by omega, by omega, by omega⟩) (fun h => ⟨by omega, by omega, by omega⟩)) DJ.out D0.out D1.out, (HB5.out.setCell (by show w.heap.size ≤ w.heap.size + 1; omega) _).setCell (by show w.heap.size ≤ w.heap.size + 1; omega) _⟩))
end Go.Proofs.Ytambpjjfndnadaa
