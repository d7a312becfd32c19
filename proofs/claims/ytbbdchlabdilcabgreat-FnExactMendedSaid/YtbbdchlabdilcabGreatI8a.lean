/- Chapter 8's program: FinishAll. -/
import Derived.Test.YtbbdchlabdilcabGreatI7c
import Derived.Test.YtbbdchlabdilcabGreatN7o
import Derived.Test.YtbbdchlabdilcabGreatS8a
import Derived.Test.YtbbdchlabdilcabGreatM13
import Derived.WalkMore
/- Chapter 7's program: Held. -/
namespace Go.Proofs.YtbbdchlabdilcabGreat
set_option maxRecDepth 100000
open Go.RowKit Go.Proofs Go.Own
set_option linter.unusedVariables false
set_option linter.unusedSimpArgs false
theorem headIn_desc {ds : List DescD} {i : Nat} {h : Head} (e : headIn ds i h = true) : -1 ≤ h.desc_ ∧ h.desc_ ≤ (ds.length : Int) - 1 := by
  unfold headIn at e
  simp only [Bool.and_eq_true] at e
  simpa [inB] using e.1.2
set_option maxHeartbeats 8000000 in
theorem impl_Held0 (hs : List Head) (ds : List DescD) (v0 v1 : Value) (w : World) (hx0 : hs.length ≤ 1048576) (h0 : rdsL w v0 hs) (h1 : rdsL w v1 ds) :
    Calls Tryz.prog 51 #[.agg #[v0, v1]] w fun e w' => ∃ u : Value, e = .returned u ∧ w'.ownsRow w.heap.size 3 1 u (heldC hs ds).length ((heldC hs ds).flatMap encI) ∧ Below w.heap.size w w' := by
  obtain ⟨j0, hj, hy0, hy1, hy2⟩ := info_parts infoInt
  have H0 := hid h0
  have H1 := hid h1
  obtain ⟨a0, cap0, rfl, hl0, hm0, hc0⟩ := rdsL_open h0
  obtain ⟨a1, cap1, rfl, hl1, hm1, -⟩ := rdsL_open h1
  clear h0 h1
  have hlen0 : hs.length ≤ 9223372036854775807 := by omega
  have HC := hid hc0
  clear hc0
  obtain ⟨W1, hW1⟩ : ∃ X, w.alloc (.cells #[Value.slice a0 hs.length cap0, Value.slice a1 ds.length cap1] 37) = X := ⟨_, rfl⟩
  have hB1 : Below w.heap.size w W1 := by rw [← hW1]; exact (Below.refl _ _).alloc (Nat.le_refl _) _
  have hN : W1.heap.size = w.heap.size + 1 := by rw [← hW1]; simp
  have bp : BoxF W1 w.heap.size [Value.slice a0 hs.length cap0, Value.slice a1 ds.length cap1] := by
    rw [← hW1]
    exact BoxF.alloc w #[Value.slice a0 hs.length cap0, Value.slice a1 ds.length cap1] 37
  have k0 : W1.cell? ⟨w.heap.size, 0, none⟩ = some (Value.slice a0 hs.length cap0) := bp.1.2 0 (by simp)
  have k1 : W1.cell? ⟨w.heap.size, 1, none⟩ = some (Value.slice a1 ds.length cap1) := bp.1.2 1 (by simp)
  have R0 := hid (rdsL.below H0.out hB1)
  have R1 := hid (rdsL.below H1.out hB1)
  have HW1 := hid hW1
  have BP1 := hid bp
  clear H0 H1 hW1 bp
  go_enter Tryz.func51, Tryz.ntmps51
  go_wp2_with fail
  rw [HW1.out]
  refine (impl_StoreOk0 hs ds _ _ _ R0.out R1.out).mono ?_
  rintro e w2 ⟨rfl, b2⟩
  have hB2 := hB1.trans (b2.mono hB1.size)
  have BP2 := hid (BP1.out.below b2)
  have hs2 : w.heap.size + 1 ≤ w2.heap.size := by have := b2.size; omega
  cases hs0 : storeOk hs ds with
  | false =>
    have Hn := hid (show heldC hs ds = [] by unfold heldC; rw [hs0]; rfl)
    go_wp2
    go_ret
    exact ⟨_, rfl, by rw [Hn.out]; exact World.ownsRow_nil _ _ _ _, hB2⟩
  | true =>
  have Hd := hid (fun i (hi : i < hs.length) => headIn_desc ((storeOk_all hs0).2.2.2 i hi))
  have Hh := hid (show heldC hs ds = heldTo hs hs.length by unfold heldC; rw [hs0]; rfl)
  have q0 : w2.cell? ⟨w.heap.size, 0, none⟩ = some (Value.slice a0 hs.length cap0) := BP2.out.1.2 0 (by simp)
  clear R0 R1 b2 BP1 k0 k1 HW1 hB1 hN
  clear W1
  go_wp2
  go_loopw [12, 3] (fun i u wr => ∃ (k : Nat) (ua : Option Addr) (um uc : Nat), k ≤ hs.length ∧ i = .int .i64 k ∧ u = Value.slice ua um uc ∧ Below w.heap.size w wr ∧ w.heap.size + 1 ≤ wr.heap.size ∧ Hid (wr.ownsRow (w.heap.size + 1) 3 1 (Value.slice ua um uc) (heldTo hs k).length ((heldTo hs k).flatMap encI))) (fun i _ _ => hs.length - (intOf i).toNat)
  case atStart => exact ⟨0, none, 0, 0, by omega, rfl, rfl, hB2, hs2, hid (World.ownsRow_nil _ _ _ _)⟩
  case round =>
    clear hB2 hs2 q0 BP2
    clear w2
    obtain ⟨k, ua, um, uc, hk, rfl, rfl, hB, hM, O1⟩ := hrel
    have hlen9 := heldTo_len hs k
    by_cases hlt : k < hs.length
    · obtain ⟨bb, off, cs, rfl, hbs, rfl, hcell⟩ := HC.out k hlt
      have c0 : w.cell? ⟨bb, off + k * 3, none⟩ = some (.int .i64 hs[k].value_) := hcell 0 (show 0 < 3 by omega)
      have c1 : w.cell? ⟨bb, off + k * 3 + 1, none⟩ = some (.int .i64 hs[k].version_) := hcell 1 (show 1 < 3 by omega)
      have c2 : w.cell? ⟨bb, off + k * 3 + 2, none⟩ = some (.int .i64 hs[k].desc_) := hcell 2 (show 2 < 3 by omega)
      have e0 := (hB.cell (p := ⟨bb, off + k * 3, none⟩) hbs).trans c0
      have e1 := (hB.cell (p := ⟨bb, off + k * 3 + 1, none⟩) hbs).trans c1
      have e2 := (hB.cell (p := ⟨bb, off + k * 3 + 2, none⟩) hbs).trans c2
      obtain ⟨hd1, -⟩ := Hd.out k hlt
      have HSy := hid (fun hd => heldTo_yes (hs := hs) hlt hd)
      have HSn := hid (fun hd => heldTo_no (hs := hs) hlt hd)
      clear c0 c1 c2 hcell HC
      generalize hs[k] = D at *
      by_cases hd : D.desc_ = -1
      · have HS := hid (HSn.out (by omega))
        have hBa := hB.alloc hB.size (.cells #[.int .i64 D.value_, .int .i64 D.version_, .int .i64 D.desc_] 55)
        have O2 := hid (World.ownsRow.alloc O1.out (.cells #[.int .i64 D.value_, .int .i64 D.version_, .int .i64 D.desc_] 55))
        have hd' : (D.desc_ != -1) = false := by simp [hd]
        have HD := hid hd
        clear O1 HSy HSn hd
        go_wp2
        go_roundw
        case rel => exact ⟨k+1, _, _, _, by omega, by go_num, rfl, hBa, by simp; omega, hid (by rw [HS.out]; exact O2.out)⟩
        case measure => simp [intOf]; omega
      · have HS := hid (HSy.out (by omega))
        have hd' : (D.desc_ != -1) = true := by simp [hd]
        have hBa := hB.alloc hB.size (.cells #[.int .i64 D.value_, .int .i64 D.version_, .int .i64 D.desc_] 55)
        have O2 := World.ownsRow.alloc O1.out (.cells #[.int .i64 D.value_, .int .i64 D.version_, .int .i64 D.desc_] 55)
        obtain ⟨w2, hw2⟩ : ∃ X, wr.alloc (.cells #[.int .i64 D.value_, .int .i64 D.version_, .int .i64 D.desc_] 55) = X := ⟨_, rfl⟩
        have hs2 : w2.heap.size = wr.heap.size + 1 := by rw [← hw2]; simp
        rw [hw2] at hBa O2
        obtain ⟨W3, hW3⟩ : ∃ X, w2.alloc (.cells #[.int .i64 (k : Int)] 3) = X := ⟨_, rfl⟩
        have b23 : Below w2.heap.size w2 W3 := by rw [← hW3]; exact (Below.refl _ _).alloc (Nat.le_refl _) _
        have hB3 := hBa.trans (b23.mono hBa.size)
        have hl3 : Flat W3 (.slice (some ⟨w2.heap.size, 0, none⟩) 1 1) 1 1 [.int .i64 (k : Int)] := by rw [← hW3]; exact Flat.of_owns (owns_litN w2 3 1 1 #[.int .i64 (k : Int)] 0 (Nat.zero_le _) rfl (by decide))
        have O3 := owns_below O2 b23
        have hone := oneCell_1 (k : Int)
        have hs3 := hB3.size
        have hs3' : w.heap.size + 1 ≤ W3.heap.size := by have := b23.size; omega
        have HD := hid hd
        rw [hs2] at hl3
        have HW2 := hid hw2
        have HW3 := hid hW3
        clear O1 HSy HSn hd hw2 hW3 b23 O2
        go_wp2_with (at_builtin; rw [HW2.out, HW3.out]; refine wpList_append_flat rfl _ _ 22 rfl (w.heap.size + 1) 3 j0 (.int .i64 0) 1 8 Tryz.underlying22 hj hy0 hy1 hy2 rfl (by decide) _ _ _ rfl O3 _ _ _ rfl hl3 hone (by unfold maxLen; omega) (by omega) (by omega) ?_)
        intro v4 w4 o4 g4
        obtain ⟨ya, ym, yc, rfl⟩ := owns_form3 o4
        have hB4 : Below w.heap.size w w4 := hB3.trans (below_grown g4 hB3.size fun b e => by have := (World.ownsRow.lt O3 b e).1; omega)
        have O4 := hid o4
        have hs4 : w.heap.size + 1 ≤ w4.heap.size := by have := g4.size; omega
        clear o4 g4 O3 hl3 hone
        go_wp2
        go_roundw
        case rel => exact ⟨k+1, _, _, _, by omega, by go_num, rfl, hB4, hs4, hid (by rw [HS.out, encI_snoc, List.length_append]; exact O4.out)⟩
        case measure => simp [intOf]; omega
    · obtain rfl : k = hs.length := by omega
      have hB9 := hB
      go_wp2
      go_ret
      exact ⟨_, rfl, by rw [Hh.out]; exact owns_mono O1.out (by omega), hB9⟩
end Go.Proofs.YtbbdchlabdilcabGreat
namespace Go.Proofs.YtbbdchlabdilcabGreat
set_option maxRecDepth 100000
open Go.RowKit Go.Proofs Go.Own
open Go Go.BigFrame
set_option linter.unusedVariables false
set_option linter.unusedSimpArgs false
theorem impl_finish2000 (y : List Head × List DescD) (S0 S1 S2 : Nat → Prop) (v0 v1 v2 : Value) (w : World) (hS0 : ∀ b, S0 b → b < w.heap.size) (hS1 : ∀ b, S1 b → b < w.heap.size) (hS2 : ∀ b, S2 b → b < w.heap.size) (d01 : ∀ b, S0 b → ¬ S1 b) (d02 : ∀ b, S0 b → ¬ S2 b) (d12 : ∀ b, S1 b → ¬ S2 b)
    (o0 : ownL S0 w v0 y.1) (o1 : ownL S1 w v1 y.2) (o2 : ownL S2 w v2 (heldSt y.1 y.2)) (hok : stackOk y.1 y.2 (heldSt y.1 y.2) = true) :
    Calls Tryz.prog 52 #[.agg #[v0, v1], v2, .int .i64 2000] w fun e w' => (∃ (n : Int) (b : Bool), e = .returned (.tuple #[.int .i64 n, .bool b])) ∧ ownL S0 w' v0 (finOne y).1 ∧ ownL S1 w' v1 (finOne y).2 ∧ ChgS (fun b => S0 b ∨ S1 b ∨ S2 b) w w' := by
  have h := impl_finish0 ⟨y.1, y.2, heldSt y.1 y.2⟩ S0 S1 S2 v0 v1 v2 2000 w (Nat.le_refl _) hS0 hS1 hS2 d01 d02 d12 o0 o1 o2 hok
  rw [show ((2000 : Nat) : Int) = 2000 from rfl] at h
  unfold finOne
  exact h.mono fun e w' ⟨he, p0, p1, C⟩ => ⟨⟨_, _, he⟩, p0, p1, C⟩
set_option maxHeartbeats 8000000 in
theorem impl_FinishAll0 (hs : List Head) (ds : List DescD) (v0 v1 : Value) (w : World) (hx0 : hs.length ≤ 1048576) (hx1 : ds.length ≤ 1048576) (hx2 : ∀ i, (h : i < ds.length) → ds[i].entries_.length ≤ 1048576) (h0 : rdsL w v0 hs) (h1 : rdsL w v1 ds) :
    Calls Tryz.prog 24 #[.agg #[v0, v1]] w fun e w' => ∃ u0 u1 : Value, e = .returned (.tuple #[.agg #[u0, u1], .bool (finAllA hs ds).b]) ∧ StoreOwn w w' u0 u1 (finAllA hs ds).x.1 (finAllA hs ds).x.2 ∧ Below w.heap.size w w' := by
  have H0 := hid h0
  have H1 := hid h1
  have HX2 := hid hx2
  obtain ⟨a0, cap0, rfl, hl0, hm0, -⟩ := rdsL_open h0
  obtain ⟨a1, cap1, rfl, hl1, hm1, -⟩ := rdsL_open h1
  clear h0 h1 hx2
  obtain ⟨W1, hW1⟩ : ∃ X, (w.alloc (.cells #[Value.slice a0 hs.length cap0, Value.slice a1 ds.length cap1] 37)).alloc (.cells #[Value.slice none 0 0, Value.slice none 0 0] 37) = X := ⟨_, rfl⟩
  have hB1 : Below w.heap.size w W1 := by rw [← hW1]; exact ((Below.refl _ _).alloc (Nat.le_refl _) _).alloc (by simp) _
  have hN : W1.heap.size = w.heap.size + 2 := by rw [← hW1]; simp
  have bs : BoxF W1 w.heap.size [Value.slice a0 hs.length cap0, Value.slice a1 ds.length cap1] := by rw [← hW1]; exact (BoxF.alloc w #[Value.slice a0 hs.length cap0, Value.slice a1 ds.length cap1] 37).below ((Below.refl _ _).alloc (Nat.le_refl _) _)
  have bq : BoxF W1 (w.heap.size + 1) [Value.slice none 0 0, Value.slice none 0 0] := by
    rw [← hW1]
    have h1 := BoxF.alloc (w.alloc (.cells #[Value.slice a0 hs.length cap0, Value.slice a1 ds.length cap1] 37)) #[Value.slice none 0 0, Value.slice none 0 0] 37
    rw [show (w.alloc (.cells #[Value.slice a0 hs.length cap0, Value.slice a1 ds.length cap1] 37)).heap.size = w.heap.size + 1 by simp] at h1
    exact h1
  have k0 : W1.cell? ⟨w.heap.size, 0, none⟩ = some (Value.slice a0 hs.length cap0) := bs.1.2 0 (by simp)
  have k1 : W1.cell? ⟨w.heap.size, 1, none⟩ = some (Value.slice a1 ds.length cap1) := bs.1.2 1 (by simp)
  have R0 := hid (rdsL.below H0.out hB1)
  have R1 := hid (rdsL.below H1.out hB1)
  have BS := hid bs
  have BQ := hid bq
  have HW1 := hid hW1
  clear bs bq hW1
  go_enter Tryz.func24, Tryz.ntmps24
  go_wp2_with fail
  rw [HW1.out]
  refine (impl_copyStore0 hs ds _ _ _ hx0 hx1 HX2.out R0.out R1.out).mono ?_
  rintro e w2 ⟨u0, u1, S0, S1, rfl, o0, o1, rg0, rg1, dj, b2⟩
  obtain ⟨xa, xc, rfl, -, -⟩ := ownL_len o0
  obtain ⟨ya, yc, rfl, -, -⟩ := ownL_len o1
  have hB2 := hB1.trans (b2.mono hB1.size)
  have hs2 := b2.size
  obtain ⟨V, hV⟩ : ∃ X, w2.alloc (.cells #[Value.slice xa hs.length xc, Value.slice ya ds.length yc] 37) = X := ⟨_, rfl⟩
  have bV : Below w2.heap.size w2 V := by rw [← hV]; exact (Below.refl _ _).alloc (Nat.le_refl _) _
  have hsV : V.heap.size = w2.heap.size + 1 := by rw [← hV]; simp
  have HBV := hid (hB2.trans (bV.mono hB2.size))
  have BSV := hid ((BS.out.below b2).below bV)
  have BQV := hid ((BQ.out.below b2).below bV)
  have BOV : Hid (BoxF V w2.heap.size [Value.slice xa hs.length xc, Value.slice ya ds.length yc]) := by rw [← hV]; exact hid (BoxF.alloc w2 #[Value.slice xa hs.length xc, Value.slice ya ds.length yc] 37)
  have AV : Hid (AllMem (w.heap.size + 2) w2.heap.size V (Value.slice xa hs.length xc) (Value.slice ya ds.length yc) (hs, ds)) := hid ⟨S0, S1, o0.keep fun b hb => bV.block b (rg0 b hb).2, o1.keep fun b hb => bV.block b (rg1 b hb).2, fun b hb => by have h9 := rg0 b hb; unfold Rg at h9; exact ⟨by omega, by omega, by omega⟩, fun b hb => by have h9 := rg1 b hb; unfold Rg at h9; exact ⟨by omega, by omega, by omega⟩, dj⟩
  have q0 : V.cell? ⟨w2.heap.size, 0, none⟩ = some (Value.slice xa hs.length xc) := BOV.out.1.2 0 (by simp)
  have q1 : V.cell? ⟨w2.heap.size, 1, none⟩ = some (Value.slice ya ds.length yc) := BOV.out.1.2 1 (by simp)
  have P0 := hid (AV.out.rds.1)
  have P1 := hid (AV.out.rds.2)
  clear o0 o1 rg0 rg1 dj k0 k1 R0 R1 BS BQ b2 bV
  go_wp2_with fail
  clear hV q0 q1
  refine (impl_StoreOk0 hs ds _ _ _ P0.out P1.out).mono ?_
  rintro e w4 ⟨rfl, b4⟩
  have hs4 := b4.size
  have HB4 := hid (HBV.out.trans (b4.mono HBV.out.size))
  have BS4 := hid (BSV.out.below b4)
  have BQ4 := hid (BQV.out.below b4)
  have BO4 := hid (BOV.out.below b4)
  have A4 := hid (AV.out.keep b4)
  have G3 := hid (show w.heap.size + 2 ≤ w2.heap.size ∧ w2.heap.size < w4.heap.size ∧ w.heap.size + 1 < w4.heap.size by omega)
  clear P0 P1 BSV BQV BOV AV b4
  cases hso : storeOk hs ds with
  | false =>
    have HR := hid (finAllA_no hso)
    have m0 : w4.cell? ⟨w2.heap.size, 0, none⟩ = some (Value.slice xa hs.length xc) := BO4.out.1.2 0 (by simp)
    have m1 : w4.cell? ⟨w2.heap.size, 1, none⟩ = some (Value.slice ya ds.length yc) := BO4.out.1.2 1 (by simp)
    have n0 : w4.cell? ⟨w.heap.size + 1, 0, none⟩ = some (Value.slice none 0 0) := BQ4.out.1.2 0 (by simp)
    have z0 : w4.frozen? ⟨w.heap.size + 1, 0, none⟩ = false := BQ4.out.2 0 (by simp)
    have n1 : w4.cell? ⟨w.heap.size + 1, 1, none⟩ = some (Value.slice none 0 0) := BQ4.out.1.2 1 (by simp)
    have z1 : w4.frozen? ⟨w.heap.size + 1, 1, none⟩ = false := BQ4.out.2 1 (by simp)
    go_wp2_with ((try simp only [Exit.inBlock, Exit.then]); (with_reducible refine bodyPost_ret (v := .tuple #[.agg #[Value.slice xa hs.length xc, Value.slice ya ds.length yc], .bool false]) ?_ (by exact rfl) ?_); (simp [results, Tryz.results24, go_sem, n0, n1, z0, z1]); (exact ⟨_, _, by rw [HR.out], by rw [HR.out]; exact A4.out.fin (by omega) (by omega), (HB4.out.setCell (by show w.heap.size ≤ w.heap.size + 1; omega) _).setCell (by show w.heap.size ≤ w.heap.size + 1; omega) _⟩))
  | true =>
  have HSO := hid hso
  have M0 := hid (AllAt.zero (x := (hs, ds)) hso)
  clear hso hs2
  have k0 : w4.cell? ⟨w2.heap.size, 0, none⟩ = some (Value.slice xa hs.length xc) := BO4.out.1.2 0 (by simp)
  have k1 : w4.cell? ⟨w2.heap.size, 1, none⟩ = some (Value.slice ya ds.length yc) := BO4.out.1.2 1 (by simp)
  go_wp2_with fail
  clear k0 k1
  refine (impl_Held0 hs ds _ _ _ hx0 A4.out.rds.1 A4.out.rds.2).mono ?_
  rintro e w5 ⟨u, rfl, ou, b5⟩
  obtain ⟨ha0, hm0', hc0, rfl⟩ := owns_form3 ou
  have OU5 := hid (owns_base ou (b' := w.heap.size) (fun b e => by have h8 := (World.ownsRow.lt ou b e).1; have := G3.out; omega))
  have hs5 := b5.size
  have A5 := hid (A4.out.keep b5)
  have BS5 := hid (BS4.out.below b5)
  have BQ5 := hid (BQ4.out.below b5)
  have BO5 := hid (BO4.out.below b5)
  have HB5 := hid (HB4.out.trans (b5.mono HB4.out.size))
  have hR5 : w2.heap.size < w5.heap.size := by have := G3.out; omega
  clear ou b5 A4 BS4 BQ4 BO4 HB4 hs4 hs5
  go_wp2_with fail
  go_loopw [6, 5] (fun i u wr => ∃ (k : Nat) (y : List Head × List DescD) (ha : Option Addr) (hm hc : Nat), i = .int .i64 k ∧ u = Value.slice ha hm hc ∧ k ≤ 60 ∧ Hid (AllAt (hs, ds) k y) ∧ Hid (AllMem (w.heap.size + 2) w2.heap.size wr (Value.slice xa hs.length xc) (Value.slice ya ds.length yc) y) ∧ Hid (BoxF wr w.heap.size [Value.slice a0 hs.length cap0, Value.slice a1 ds.length cap1]) ∧ Hid (BoxF wr (w.heap.size + 1) [Value.slice none 0 0, Value.slice none 0 0]) ∧ Hid (BoxF wr w2.heap.size [Value.slice xa hs.length xc, Value.slice ya ds.length yc]) ∧ Hid (Below w.heap.size w wr) ∧ w2.heap.size < wr.heap.size ∧ Hid (wr.ownsRow w.heap.size 3 1 (Value.slice ha hm hc) (heldC y.1 y.2).length ((heldC y.1 y.2).flatMap encI))) (fun i _ _ => 61 - (intOf i).toNat)
  case atStart => exact ⟨0, (hs, ds), _, _, _, rfl, rfl, Nat.zero_le _, M0, A5, BS5, BQ5, BO5, HB5, hR5, OU5⟩
  case round =>
    clear M0 A5 BS5 BQ5 BO5 HB5 hR5 OU5
    obtain ⟨k, ⟨ys, yd⟩, ha, hm, hc, rfl, rfl, hk, HA, AM, BSr, BQr, BO, HB, hR, OU⟩ := hrel
    dsimp only at AM OU ⊢
    have hyo := hid (show storeOk ys yd = true from HA.out.2.1)
    have hsm := hid (storeOk_small hyo.out)
    have hmE : Hid (hm = (heldC ys yd).length) := by
      obtain ⟨-, h9⟩ := OU.out
      rcases h9 with ⟨h8, h9⟩ | ⟨g9, c9, -, h9, -⟩
      · simp only [Value.slice.injEq] at h8; exact hid (by omega)
      · simp only [Value.slice.injEq] at h9; exact hid h9.2.1
    have hl8 := heldC_len ys yd
    have hmb : hm ≤ 8 := by rw [hmE.out]; exact hl8
    clear hl8
    by_cases hz : (heldC ys yd).length = 0
    · have hz' : ¬ (0 : Int) < (hm : Int) := by rw [hmE.out]; omega
      have HE := hid (HA.out.done hz)
      have HR := hid (finAllA_some HSO.out HE.out)
      clear hz
      have m0 : wr.cell? ⟨w2.heap.size, 0, none⟩ = some (Value.slice xa hs.length xc) := BO.out.1.2 0 (by simp)
      have m1 : wr.cell? ⟨w2.heap.size, 1, none⟩ = some (Value.slice ya ds.length yc) := BO.out.1.2 1 (by simp)
      have n0 : wr.cell? ⟨w.heap.size + 1, 0, none⟩ = some (Value.slice none 0 0) := BQr.out.1.2 0 (by simp)
      have z0 : wr.frozen? ⟨w.heap.size + 1, 0, none⟩ = false := BQr.out.2 0 (by simp)
      have n1 : wr.cell? ⟨w.heap.size + 1, 1, none⟩ = some (Value.slice none 0 0) := BQr.out.1.2 1 (by simp)
      have z1 : wr.frozen? ⟨w.heap.size + 1, 1, none⟩ = false := BQr.out.2 1 (by simp)
      go_wp2_with ((try simp only [Exit.inBlock, Exit.then]); (with_reducible refine bodyPost_ret (v := .tuple #[.agg #[Value.slice xa hs.length xc, Value.slice ya ds.length yc], .bool true]) ?_ (by exact rfl) ?_); (simp [results, Tryz.results24, go_sem, n0, n1, z0, z1]); (exact ⟨_, _, by rw [HR.out], by rw [HR.out]; exact AM.out.fin (by omega) (by omega), (HB.out.setCell (by show w.heap.size ≤ w.heap.size + 1; omega) _).setCell (by show w.heap.size ≤ w.heap.size + 1; omega) _⟩))
    · have hz' : (0 : Int) < (hm : Int) := by rw [hmE.out]; omega
      have HZ := hid hz
      clear hz
      by_cases hk6 : k = 60
      · subst hk6
        have HR := hid (finAllA_none HSO.out (HA.out.none HZ.out))
        have k0 : wr.cell? ⟨w.heap.size, 0, none⟩ = some (Value.slice a0 hs.length cap0) := BSr.out.1.2 0 (by simp)
        have k1 : wr.cell? ⟨w.heap.size, 1, none⟩ = some (Value.slice a1 ds.length cap1) := BSr.out.1.2 1 (by simp)
        have P0 := hid (rdsL.below H0.out HB.out)
        have P1 := hid (rdsL.below H1.out HB.out)
        go_wp2_with fail
        clear k0 k1
        refine (impl_copyStore0 hs ds _ _ _ hx0 hx1 HX2.out P0.out P1.out).mono ?_
        rintro e w6 ⟨u0, u1, S0, S1, rfl, o0, o1, rg0, rg1, dj, b6⟩
        obtain ⟨za, zc, rfl, -, -⟩ := ownL_len o0
        obtain ⟨ta, tc, rfl, -, -⟩ := ownL_len o1
        have hs6 := b6.size
        have BQ6 := hid (BQr.out.below b6)
        have HB6 := hid (HB.out.trans (b6.mono HB.out.size))
        have AM6 := hid (AllMem.own (N := w.heap.size + 2) (R := w2.heap.size) (y := (hs, ds)) (show StoreOwn wr w6 _ _ hs ds from ⟨S0, S1, o0, o1, rg0, rg1, dj⟩) (by have := G3.out; omega) (by have := G3.out; omega))
        clear o0 o1 rg0 rg1 dj b6
        have n0 : w6.cell? ⟨w.heap.size + 1, 0, none⟩ = some (Value.slice none 0 0) := BQ6.out.1.2 0 (by simp)
        have z0 : w6.frozen? ⟨w.heap.size + 1, 0, none⟩ = false := BQ6.out.2 0 (by simp)
        have n1 : w6.cell? ⟨w.heap.size + 1, 1, none⟩ = some (Value.slice none 0 0) := BQ6.out.1.2 1 (by simp)
        have z1 : w6.frozen? ⟨w.heap.size + 1, 1, none⟩ = false := BQ6.out.2 1 (by simp)
        go_wp2_with ((try simp only [Exit.inBlock, Exit.then]); (with_reducible refine bodyPost_ret (v := .tuple #[.agg #[Value.slice za hs.length zc, Value.slice ta ds.length tc], .bool false]) ?_ (by exact rfl) ?_); (simp [results, Tryz.results24, go_sem, n0, n1, z0, z1]); (exact ⟨_, _, by rw [HR.out], by rw [HR.out]; exact AM6.out.fin (by omega) (by omega), (HB6.out.setCell (by show w.heap.size ≤ w.heap.size + 1; omega) _).setCell (by show w.heap.size ≤ w.heap.size + 1; omega) _⟩))
      · have hk6' : ((k : Int) == 60) = false := by rw [beq_eq_false_iff_ne]; omega
        have hk60 : k < 60 := by omega
        obtain ⟨o, ho, hol, -, -, hst⟩ := held_first hyo.out HZ.out
        have HAs := hid (HA.out.step hk60 HZ.out)
        obtain ⟨H9, hH9⟩ : ∃ H9, Hid (ys[o] = H9) := ⟨_, hid rfl⟩
        have hSt := hid (show heldSt ys yd = [⟨H9.desc_, 0, 0⟩] by rw [hst, hAt_eq hol, hH9.out])
        clear hst
        obtain ⟨g, rfl, rfl, hgs⟩ : ∃ g, ha = some ⟨g, 0, none⟩ ∧ hm = (heldC ys yd).length ∧ wr.ownsRow w.heap.size 3 1 (.slice (some ⟨g, 0, none⟩) hm hc) hm ((heldC ys yd).flatMap encI) := by
          obtain ⟨h7, h9⟩ := OU.out
          rcases h9 with ⟨h8, h9⟩ | ⟨g9, c9, cs9, h9, h10⟩
          · exact absurd h9 HZ.out
          · simp only [Value.slice.injEq] at h9
            obtain ⟨rfl, rfl, rfl⟩ := h9
            exact ⟨g9, rfl, rfl, h7, .inr ⟨g9, _, cs9, rfl, h10⟩⟩
        have hgR := World.ownsRow.lt hgs g rfl
        have hl0 : 0 < (heldC ys yd).length := by have := HZ.out; omega
        have c0 : wr.cell? ⟨g, 0, none⟩ = some (.int .i64 (o : Int)) := by
          rw [World.ownsRow.cellAt hgs 0 (by omega), encI_get _ 0 hl0]
          rw [List.getElem?_eq_getElem hl0] at ho
          simp only [Option.some.injEq] at ho
          rw [ho]
        obtain ⟨S0, S1, p0, p1, g0, g1, d01⟩ := AM.out
        obtain ⟨g', cap', e', hgS', hgl', -, -, c2, -⟩ := own_head p0 o hol
        have hyl : hs.length = ys.length := by simp only [Value.slice.injEq] at e'; exact e'.2.1
        obtain rfl : xa = some ⟨g', 0, none⟩ := by simp only [Value.slice.injEq] at e'; exact e'.1
        rw [hH9.out] at c2
        have hoi : (o : Int) < (hs.length : Int) := by omega
        have ho0 : (0 : Int) ≤ (o : Int) := by omega
        have P0 := hid p0
        have P1 := hid p1
        have HS0 := hid g0
        have HS1 := hid g1
        have HD01 := hid d01
        have HYL := hid hyl
        clear hyl
        have x0 := Ext.cell hR (show wr.cell? ⟨w2.heap.size, 0, none⟩ = some (Value.slice (some ⟨g', 0, none⟩) hs.length xc) from BO.out.1.2 0 (by simp))
        have x2 := Ext.cell hgR.2 c0
        have x3 := Ext.cell hgl' c2
        clear p0 p1 g0 g1 d01 hgs OU ho hgS' e' c0 c2
        have mk1 : ∀ (P : Program) (o : Oper) (a : Act) (w : World) (v : Value), Oper.plainAt P o a w v = Oper.plainUpon w v ((execOp a.eval o).run P w) := fun _ _ _ _ _ => rfl; have mk2 : ∀ (w w' : World) (v u : Value), Oper.plainUpon w v (.ok (.value u) w') = (w' = w ∧ u = v) := fun _ _ _ _ => rfl
        go_upto_region 10 with fail
        refine Go.wp_region_rel [Rel.none, Rel.none, Rel.none, Rel.none, Rel.none, Rel.none, Rel.none, Rel.none, Rel.none, Rel.box wr.heap.size 3, Rel.wrote] [[], [], [], [], [], [], [], [], [], [], [9]] [.plain, .plain, .plain, .plain, .plain, .plain, .plain, .plain, .plain, .make, .write 9] (by kernel_rfl) (by kernel_rfl) (by kernel_rfl) (by kernel_rfl) (by kernel_rfl) ?_
        (refine Go.wpR_plain (Go.clsExt _) rfl rfl (fun K hK => ?_); go_simp; refine hK _ ?_; clear hK K)
        (refine Go.wpR_plain (Go.clsExt _) rfl rfl (fun K hK => ?_); go_simp; refine hK _ ?_; clear hK K)
        (refine Go.wpR_plain (Go.clsExt _) rfl rfl (fun K hK => ?_); go_simp; refine hK _ ?_; clear hK K)
        (refine Go.wpR_plain (Go.clsExt _) rfl rfl (fun K hK => ?_); go_simp; refine hK _ ?_; clear hK K)
        (refine Go.wpR_plain (Go.clsExt _) rfl rfl (fun K hK => ?_); go_simp; refine hK _ ?_; clear hK K)
        (refine Go.wpR_plain (Go.clsExt _) rfl rfl (fun K hK => ?_); go_simp; refine hK _ ?_; clear hK K)
        (refine Go.wpR_plain (Go.clsExt _) rfl rfl (fun K hK => ?_); go_simp; refine hK _ ?_; clear hK K)
        (refine Go.wpR_plain (Go.clsExt _) rfl rfl (fun K hK => ?_); go_simp; refine hK _ ?_; clear hK K)
        (refine Go.wpR_plain (Go.clsExt _) rfl rfl (fun K hK => ?_); go_simp; refine hK _ ?_; clear hK K)
        refine Go.wpR_box (Go.clsExt _) 3 #[.int .i64 0, .int .i64 0, .int .i64 0] 91 rfl rfl rfl rfl rfl (fun w => by go_simp) (fun lo => ?_)
        refine Go.wpR_store (Go.clsExt _) 9 3 lo _ (.agg #[.int .i64 H9.desc_, .int .i64 0, .int .i64 0]) [.int .i64 H9.desc_, .int .i64 0, .int .i64 0] rfl rfl rfl (by decide) rfl (by first | rfl | (simp [Go.Oper.stored]; go_simp)) (fun w h => Go.wrote_r h) (fun w cs0 hn hB => ⟨_, (by obtain ⟨z0, z1, z2, kz0, kz1, kz2, fz0, fz1, fz2⟩ := box_any3 hn hB; go_simp), boxset3 hn hB _ _ _⟩) rfl ?_
        refine Go.wpR_nil ?_
        intro E hm9
        have bx := (hm9.one 10 _ _ _ rfl).1.2 _ rfl
        have hE := E.h
        obtain ⟨X, hX⟩ : ∃ X, X = E.w := ⟨_, rfl⟩
        rw [← hX] at bx hE ⊢
        have hXs := hE.size
        have l0 : X.cell? ⟨lo, 0, none⟩ = some (.int .i64 H9.desc_) := bx.1.2 0 (by simp)
        have l1 : X.cell? ⟨lo, 1, none⟩ = some (.int .i64 0) := bx.1.2 1 (by simp)
        have l2 : X.cell? ⟨lo, 2, none⟩ = some (.int .i64 0) := bx.1.2 2 (by simp)
        have BOX := hid (BO.out.below hE)
        have k0 : X.cell? ⟨w2.heap.size, 0, none⟩ = some (Value.slice (some ⟨g', 0, none⟩) hs.length xc) := BOX.out.1.2 0 (by simp)
        have k1 : X.cell? ⟨w2.heap.size, 1, none⟩ = some (Value.slice ya ds.length yc) := BOX.out.1.2 1 (by simp)
        obtain ⟨L, hL⟩ : ∃ L, X.alloc (.cells #[.int .i64 H9.desc_, .int .i64 0, .int .i64 0] 91) = L := ⟨_, rfl⟩
        have bL : Below X.heap.size X L := by rw [← hL]; exact (Below.refl _ _).alloc (Nat.le_refl _) _
        have hLs : L.heap.size = X.heap.size + 1 := by rw [← hL]; simp
        have O2 : Hid (ownL (Rg X.heap.size L.heap.size) L (.slice (some ⟨X.heap.size, 0, none⟩) 1 1) (heldSt ys yd)) := by
          rw [hSt.out, ← hL]
          exact hid (ownFrame_of (owns_litN X 91 3 1 #[.int .i64 H9.desc_, .int .i64 0, .int .i64 0] X.heap.size (Nat.le_refl _) rfl (by decide)))
        have bXL := hE.trans (bL.mono hXs)
        have HBL := hid (HB.out.trans (bXL.mono HB.out.size))
        have BSL := hid (BSr.out.below bXL)
        have BQL := hid (BQr.out.below bXL)
        have BOL := hid (BO.out.below bXL)
        have P0L := hid (P0.out.keep (w' := L) fun b hb => bXL.block b (HS0.out b hb).2.1)
        have P1L := hid (P1.out.keep (w' := L) fun b hb => bXL.block b (HS1.out b hb).2.1)
        clear hX hm9 E x0 x2 x3 mk1 mk2 bx hE bL bXL
        go_wp2_with fail
        clear hL k0 k1 l0 l1 l2
        refine (impl_finish2000 (ys, yd) S0 S1 (Rg X.heap.size L.heap.size) _ _ _ _ (fun b hb => by have := (HS0.out b hb).2.1; omega) (fun b hb => by have := (HS1.out b hb).2.1; omega) (fun b hb => hb.2) HD01.out (fun b hb h => by have := (HS0.out b hb).2.1; have := h.1; omega) (fun b hb h => by have := (HS1.out b hb).2.1; have := h.1; omega) P0L.out P1L.out O2.out (heldSt_ok hyo.out HZ.out)).mono ?_
        rintro e w7 ⟨⟨n7, b7, rfl⟩, q0, q1, C7⟩
        have hs7 := C7.size
        have hN7 : ∀ b, (b < w.heap.size + 2 ∨ b = w2.heap.size) → ¬ (S0 b ∨ S1 b ∨ Rg X.heap.size L.heap.size b) := fun b hb h => by
          have := G3.out
          rcases h with h | h | h
          · have := HS0.out b h; omega
          · have := HS1.out b h; omega
          · have := h.1; omega
        have AM7 := hid (show AllMem (w.heap.size + 2) w2.heap.size w7 (Value.slice (some ⟨g', 0, none⟩) hs.length xc) (Value.slice ya ds.length yc) (finOne (ys, yd)) from ⟨S0, S1, q0, q1, fun b hb => by have := HS0.out b hb; exact ⟨this.1, by omega, this.2.2⟩, fun b hb => by have := HS1.out b hb; exact ⟨this.1, by omega, this.2.2⟩, HD01.out⟩)
        have BS7 := hid (BSL.out.chg C7 (hN7 _ (.inl (by omega))))
        have BQ7 := hid (BQL.out.chg C7 (hN7 _ (.inl (by omega))))
        have BO7 := hid (BOL.out.chg C7 (hN7 _ (.inr rfl)))
        have HB7 := hid (below_chg HBL.out C7 HBL.out.size (fun b hb => by
          rcases Nat.lt_or_ge b (w.heap.size + 2) with h | h
          · exact absurd hb (hN7 b (.inl h))
          · omega))
        have hoY := hid (finOne_ok (x := (ys, yd)) hyo.out HZ.out)
        have hR7 : w2.heap.size < w7.heap.size := by omega
        clear q0 q1 C7 hN7 P0L P1L O2 BSL BQL BOL HBL BOX BSr BQr BO AM P0 P1
        have k0 : w7.cell? ⟨w2.heap.size, 0, none⟩ = some (Value.slice (some ⟨g', 0, none⟩) hs.length xc) := BO7.out.1.2 0 (by simp)
        have k1 : w7.cell? ⟨w2.heap.size, 1, none⟩ = some (Value.slice ya ds.length yc) := BO7.out.1.2 1 (by simp)
        go_wp2_with fail
        clear k0 k1
        refine (impl_Held0 (finOne (ys, yd)).1 (finOne (ys, yd)).2 _ _ _ (storeOk_small hoY.out).1 AM7.out.rds.1 AM7.out.rds.2).mono ?_
        rintro e w8 ⟨u, rfl, ou, b8⟩
        obtain ⟨ha8, hm8, hc8, rfl⟩ := owns_form3 ou
        have OU8 := hid (owns_base ou (b' := w.heap.size) (fun b e => by have h8 := (World.ownsRow.lt ou b e).1; have := G3.out; omega))
        have hs8 := b8.size
        have AM8 := hid (AM7.out.keep b8)
        have BS8 := hid (BS7.out.below b8)
        have BQ8 := hid (BQ7.out.below b8)
        have BO8 := hid (BO7.out.below b8)
        have HB8 := hid (HB7.out.trans (b8.mono HB7.out.size))
        have hR8 : w2.heap.size < w8.heap.size := by omega
        clear ou b8 AM7 BS7 BQ7 BO7 HB7
        go_wp2
        go_roundw
        case rel => exact ⟨k+1, finOne (ys, yd), _, _, _, by go_num, rfl, by omega, HAs, AM8, BS8, BQ8, BO8, HB8, hR8, OU8⟩
        case measure => simp [intOf]; omega
end Go.Proofs.YtbbdchlabdilcabGreat
