/- Chapter 7's model: StoreOk. -/
import Derived.Test.YtbbdchlabdilcabGreatM8
import Derived.Test.YtbbdchlabdilcabGreatM2
namespace Go.Proofs.YtbbdchlabdilcabGreat
set_option maxRecDepth 100000
open Go.RowKit Go.Proofs Go.Own
open Go Go.BigFrame
set_option linter.unusedVariables false
set_option linter.unusedSimpArgs false
theorem spec_DescOkIs (ow st : Int) (v : Value) (xs : List Entry) (r : Bool) (w : World) (h : Entrys w v xs) (e : descOk ow st xs = r) :
    Calls Tryz.prog 66 #[.agg #[.int .i64 ow, .int .i64 st, v]] w fun e w' => e = .returned (.bool r) ∧ Below w.heap.size w w' := by
  subst e; exact spec_DescOk0 ow st v xs w h
set_option maxHeartbeats 8000000 in
theorem spec_StoreOk0 (hs : List Head) (ds : List DescD) (v0 v1 : Value) (w : World) (h0 : rdsL w v0 hs) (h1 : rdsL w v1 ds) :
    Calls Tryz.prog 34 #[.agg #[v0, v1]] w fun e w' => e = .returned (.bool (storeOk hs ds)) ∧ Below w.heap.size w w' := by
  obtain ⟨a0, cap0, rfl, hl0, hm0, hc0⟩ := rdsL_open h0
  obtain ⟨a1, cap1, rfl, hl1, hm1, hc1⟩ := rdsL_open h1
  clear h0 h1
  have hlen0 : hs.length ≤ 9223372036854775807 := by omega
  have hlen1 : ds.length ≤ 9223372036854775807 := by omega
  have HC := hid hc0
  have DC := hid hc1
  clear hc0 hc1
  obtain ⟨W1, hW1⟩ : ∃ X, w.alloc (.cells #[Value.slice a0 hs.length cap0, Value.slice a1 ds.length cap1] 37) = X := ⟨_, rfl⟩
  have hB1 : Below w.heap.size w W1 := by rw [← hW1]; exact (Below.refl _ _).alloc (Nat.le_refl _) _
  have hN : w.heap.size < W1.heap.size := by rw [← hW1]; simp
  have k0 : W1.cell? ⟨w.heap.size, 0, none⟩ = some (Value.slice a0 hs.length cap0) := by rw [← hW1]; simp [go_sem]
  have k1 : W1.cell? ⟨w.heap.size, 1, none⟩ = some (Value.slice a1 ds.length cap1) := by rw [← hW1]; simp [go_sem]
  have Hu := hid (show storeOk hs ds = (inB (hs.length : Int) 1 8 && !decide ((60 : Int) < ds.length) && ds.all (descIn hs.length) && headsAt ds hs 0) from rfl)
  go_enter Tryz.func34, Tryz.ntmps34
  cases hA : inB (hs.length : Int) 1 8 with
  | false =>
    go_wp2_with (go_at_call 36; refine (spec_l1In _ _ _ _).mono ?_; rintro e w' ⟨rfl, rfl⟩)
    go_ret
    exact ⟨ret_bool (by rw [Hu.out, hA]; rfl), hB1⟩
  | true =>
  by_cases hA2 : (60 : Int) < ds.length
  · go_wp2_with (go_at_call 36; refine (spec_l1In _ _ _ _).mono ?_; rintro e w' ⟨rfl, rfl⟩)
    go_ret
    exact ⟨ret_bool (by rw [Hu.out, hA, decide_eq_true hA2]; rfl), hB1⟩
  have Hu2 := hid (show storeOk hs ds = (ds.all (descIn hs.length) && headsAt ds hs 0) by rw [Hu.out, hA, decide_eq_false hA2]; simp)
  clear Hu
  have HA := hid hA
  go_wp2_with (go_at_call 36; refine (spec_l1In _ _ _ _).mono ?_; rintro e w' ⟨rfl, rfl⟩)
  clear hW1 hA
  go_loopw [3] (fun i wr => ∃ k : Nat, k ≤ ds.length ∧ i = .int .i64 k ∧ Same ((ds.drop k).all (descIn hs.length)) (ds.all (descIn hs.length)) ∧ Below W1.heap.size W1 wr) (fun i _ => ds.length - (intOf i).toNat)
  case atStart => exact ⟨0, by omega, rfl, .rfl, Below.refl _ _⟩
  case round =>
    obtain ⟨k, hk, rfl, hS, hB⟩ := hrel
    have q0 := (hB.cell (p := ⟨w.heap.size, 0, none⟩) hN).trans k0
    have q1 := (hB.cell (p := ⟨w.heap.size, 1, none⟩) hN).trans k1
    have hBr : Below w.heap.size w wr := hB1.trans (hB.mono hB1.size)
    have hNr : w.heap.size < wr.heap.size := Nat.lt_of_lt_of_le hN hB.size
    clear k0 k1
    by_cases hlt : k < ds.length
    · have hst := hid (all_step (descIn hs.length) ds k hlt)
      obtain ⟨bb, off, cs, rfl, hbs, ⟨v2, rfl, h2⟩, hcell⟩ := DC.out k hlt
      have c0 : w.cell? ⟨bb, off + k * 3, none⟩ = some (.int .i64 ds[k].owner_) := hcell 0 (show 0 < 3 by omega)
      have c1 : w.cell? ⟨bb, off + k * 3 + 1, none⟩ = some (.int .i64 ds[k].status_) := hcell 1 (show 1 < 3 by omega)
      have c2 : w.cell? ⟨bb, off + k * 3 + 2, none⟩ = some v2 := hcell 2 (show 2 < 3 by omega)
      have e0 := (hBr.cell (p := ⟨bb, off + k * 3, none⟩) hbs).trans c0
      have e1 := (hBr.cell (p := ⟨bb, off + k * 3 + 1, none⟩) hbs).trans c1
      have e2 := (hBr.cell (p := ⟨bb, off + k * 3 + 2, none⟩) hbs).trans c2
      have HY := hid (Entrys.below (rdsEntrys.1 h2) hBr)
      obtain ⟨D, hDD⟩ : ∃ D, Hid (ds[k] = D) := ⟨_, hid rfl⟩
      rw [hDD.out] at e0 e1 HY hst
      clear c0 c1 c2 hcell DC h2
      obtain ⟨a2, cap2, rfl, hl2, hm2, hc2⟩ := HY.out.open
      have HC2 := hid hc2
      clear hc2
      have hlen2 : D.entries_.length ≤ 9223372036854775807 := by omega
      obtain ⟨V, hV⟩ : ∃ X, wr.alloc (.cells #[.int .i64 D.owner_, .int .i64 D.status_, Value.slice a2 D.entries_.length cap2] 85) = X := ⟨_, rfl⟩
      have hBV : Below wr.heap.size wr V := by rw [← hV]; exact (Below.refl _ _).alloc (Nat.le_refl _) _
      have hNV : wr.heap.size < V.heap.size := by rw [← hV]; simp
      have y0 := Ext.cell hNV (show V.cell? ⟨wr.heap.size, 0, none⟩ = some (.int .i64 D.owner_) by rw [← hV]; simp [go_sem])
      have y1 := Ext.cell hNV (show V.cell? ⟨wr.heap.size, 1, none⟩ = some (.int .i64 D.status_) by rw [← hV]; simp [go_sem])
      have y2 := Ext.cell hNV (show V.cell? ⟨wr.heap.size, 2, none⟩ = some (Value.slice a2 D.entries_.length cap2) by rw [← hV]; simp [go_sem])
      have hNV0 := Nat.lt_of_lt_of_le hNr hBV.size
      have x0 := Ext.cell hNV0 ((hBV.cell (p := ⟨w.heap.size, 0, none⟩) hNr).trans q0)
      cases hd : descOk D.owner_ D.status_ D.entries_ with
      | false =>
        have Hn := hid (show storeOk hs ds = false by rw [Hu2.out, ← hS.out, hst.out, descIn_no hd]; rfl)
        have hD := hid hd
        clear hd
        go_wp2_with fail
        have hY := Entrys.below HY.out hBV
        refine wp_region_ext V (Below.refl _ _) (by kernel_rfl) (by kernel_rfl) ?_
        repeat (go_big_quiet_step (first | (go_at_call 66; exact call_ext _ (spec_DescOkIs _ _ _ _ _ _ (Ext.flat hY _) hD.out))))
        refine wpQuiet_nil ?_; rintro _ ⟨E, rfl⟩
        go_wp2
        go_ret
        exact ⟨ret_bool Hn.out.symm, hBr.trans ((hBV.trans (E.h.mono hBV.size)).mono hBr.size)⟩
      | true =>
        obtain ⟨hd0, hd6⟩ := descOk_len hd
        have hi := hid (descIn_ok (n := hs.length) hd)
        have hD := hid hd
        clear hd
        have hle := lastO_eq (show D.entries_.length - 1 < D.entries_.length by omega)
        obtain ⟨b2, off2, rfl, hb2, d0, -⟩ := HC2.out (D.entries_.length - 1) (by omega)
        rw [← hle] at d0
        have z0 := Ext.cell (Nat.lt_of_lt_of_le hb2 hBV.size) ((hBV.cell (p := ⟨b2, off2 + (D.entries_.length - 1) * 5, none⟩) hb2).trans d0)
        clear HC2 d0 hle
        have hix : ((D.entries_.length : Int) - 1).toNat = D.entries_.length - 1 := by omega
        have hix0 : (0 : Int) ≤ (D.entries_.length : Int) - 1 := by omega
        have hix1 : (D.entries_.length : Int) - 1 < (D.entries_.length : Int) := by omega
        go_wp2_with fail
        have hY := Entrys.below HY.out hBV
        refine wp_region_ext V (Below.refl _ _) (by kernel_rfl) (by kernel_rfl) ?_
        by_cases hge : (hs.length : Int) ≤ lastO D.entries_
        · have Hn := hid (show storeOk hs ds = false by rw [Hu2.out, ← hS.out, hst.out, hi.out, decide_eq_true hge]; rfl)
          repeat (go_big_quiet_step (first | (go_at_call 66; exact call_ext _ (spec_DescOkIs _ _ _ _ _ _ (Ext.flat hY _) hD.out))))
          refine wpQuiet_nil ?_; rintro _ ⟨E, rfl⟩
          go_wp2
          go_ret
          exact ⟨ret_bool Hn.out.symm, hBr.trans ((hBV.trans (E.h.mono hBV.size)).mono hBr.size)⟩
        · have hs2 := hid (show ds.all (descIn hs.length) = (ds.drop (k+1)).all (descIn hs.length) by rw [← hS.out, hst.out, hi.out, decide_eq_false hge]; rfl)
          repeat (go_big_quiet_step (first | (go_at_call 66; exact call_ext _ (spec_DescOkIs _ _ _ _ _ _ (Ext.flat hY _) hD.out))))
          refine wpQuiet_nil ?_; rintro _ ⟨E, rfl⟩
          go_wp2
          go_roundw
          case rel => exact ⟨k+1, by omega, by go_num, Same.mk hs2.out.symm, hB.trans ((hBV.trans (E.h.mono hBV.size)).mono hB.size)⟩
          case measure => simp [intOf]; omega
    · have Hy := hid (show storeOk hs ds = headsAt ds hs 0 by rw [Hu2.out, ← hS.out, all_end _ _ _ hlt, Bool.true_and])
      clear Hu2 hS HA
      go_wp2
      clear hlt hk
      obtain ⟨wq, hwq⟩ : ∃ X, X = wr := ⟨_, rfl⟩
      rw [← hwq] at q0 q1 hBr hNr ⊢
      clear hwq hB
      clear wr
      go_loopw [5] (fun i wr => ∃ k : Nat, k ≤ hs.length ∧ i = .int .i64 k ∧ Same (headsAt ds hs k) (headsAt ds hs 0) ∧ Below wq.heap.size wq wr) (fun i _ => hs.length - (intOf i).toNat)
      case atStart => exact ⟨0, by omega, rfl, .rfl, Below.refl _ _⟩
      case round =>
        obtain ⟨k, hk, rfl, hS, hB⟩ := hrel
        have p0 := (hB.cell (p := ⟨w.heap.size, 0, none⟩) hNr).trans q0
        have p1 := (hB.cell (p := ⟨w.heap.size, 1, none⟩) hNr).trans q1
        have hB3 : Below w.heap.size w wr := hBr.trans (hB.mono hBr.size)
        have hNq : w.heap.size < wr.heap.size := Nat.lt_of_lt_of_le hNr hB.size
        clear q0 q1
        by_cases hlt : k < hs.length
        · have hst := hid (headsAt_step ds hs k hlt)
          obtain ⟨bb, off, cs, rfl, hbs, rfl, hcell⟩ := HC.out k hlt
          have c0 : w.cell? ⟨bb, off + k * 3, none⟩ = some (.int .i64 hs[k].value_) := hcell 0 (show 0 < 3 by omega)
          have c1 : w.cell? ⟨bb, off + k * 3 + 1, none⟩ = some (.int .i64 hs[k].version_) := hcell 1 (show 1 < 3 by omega)
          have c2 : w.cell? ⟨bb, off + k * 3 + 2, none⟩ = some (.int .i64 hs[k].desc_) := hcell 2 (show 2 < 3 by omega)
          have e0 := (hB3.cell (p := ⟨bb, off + k * 3, none⟩) hbs).trans c0
          have e1 := (hB3.cell (p := ⟨bb, off + k * 3 + 1, none⟩) hbs).trans c1
          have e2 := (hB3.cell (p := ⟨bb, off + k * 3 + 2, none⟩) hbs).trans c2
          obtain ⟨D, hDD⟩ : ∃ D, Hid (hs[k] = D) := ⟨_, hid rfl⟩
          rw [hDD.out] at e0 e1 e2 hst
          clear c0 c1 c2 hcell HC
          have hIs := hid (show headIn ds k D = (isVal D.value_ && inB D.version_ 0 1000000 && inB D.desc_ (-1) ((ds.length : Int) - 1) && !(decide (0 ≤ D.desc_) && decide (openedC (entsAt ds D.desc_) k < 0))) from rfl)
          have Hno := hid (show headIn ds k D = false → storeOk hs ds = false from fun e => by rw [Hy.out, ← hS.out, hst.out, e]; rfl)
          have Hyes := hid (show headIn ds k D = true → headsAt ds hs (k+1) = headsAt ds hs 0 from fun e => by rw [← hS.out, hst.out, e]; rfl)
          cases hA1 : isVal D.value_ with
          | false =>
            go_wp2_with (first | (go_at_call 36; refine (spec_l1In _ _ _ _).mono ?_; rintro e w' ⟨rfl, rfl⟩) | (go_at_call 67; refine (spec_l1Value _ _).mono ?_; rintro e w' ⟨rfl, rfl⟩))
            go_ret
            exact ⟨ret_bool (Hno.out (by rw [hIs.out, hA1]; rfl)).symm, (by first | exact hB3 | exact below_chain (by assumption) hB3 | exact hB3.alloc hB3.size _)⟩
          | true =>
          cases hA3 : inB D.version_ 0 1000000 with
          | false =>
            go_wp2_with (first | (go_at_call 36; refine (spec_l1In _ _ _ _).mono ?_; rintro e w' ⟨rfl, rfl⟩) | (go_at_call 67; refine (spec_l1Value _ _).mono ?_; rintro e w' ⟨rfl, rfl⟩))
            go_ret
            exact ⟨ret_bool (Hno.out (by rw [hIs.out, hA1, hA3]; rfl)).symm, (by first | exact hB3 | exact below_chain (by assumption) hB3 | exact hB3.alloc hB3.size _)⟩
          | true =>
          cases hA4 : inB D.desc_ (-1) ((ds.length : Int) - 1) with
          | false =>
            go_wp2_with (first | (go_at_call 36; refine (spec_l1In _ _ _ _).mono ?_; rintro e w' ⟨rfl, rfl⟩) | (go_at_call 67; refine (spec_l1Value _ _).mono ?_; rintro e w' ⟨rfl, rfl⟩))
            go_ret
            exact ⟨ret_bool (Hno.out (by rw [hIs.out, hA1, hA3, hA4]; rfl)).symm, (by first | exact hB3 | exact below_chain (by assumption) hB3 | exact hB3.alloc hB3.size _)⟩
          | true =>
          obtain ⟨hd1, hd2⟩ : -1 ≤ D.desc_ ∧ D.desc_ ≤ (ds.length : Int) - 1 := by simpa [inB] using hA4
          by_cases hge : 0 ≤ D.desc_
          · obtain ⟨d, hd⟩ := Int.eq_ofNat_of_zero_le hge
            have hdl : d < ds.length := by omega
            have hdi : (d : Int) < (ds.length : Int) := by omega
            have hd0 : (0 : Int) ≤ (d : Int) := by omega
            obtain ⟨b2, off2, cs, rfl, hb2, ⟨v2, rfl, h2⟩, hcell⟩ := DC.out d hdl
            have g2 := (hB3.cell (p := ⟨b2, off2 + d * 3 + 2, none⟩) hb2).trans (show w.cell? ⟨b2, off2 + d * 3 + 2, none⟩ = some v2 from hcell 2 (show 2 < 3 by omega))
            have hbr := Nat.lt_of_lt_of_le hb2 hB3.size
            have hE := hid (entsAt_eq hdl)
            have HY := hid (Entrys.below (rdsEntrys.1 h2) (hB3.alloc hB3.size (.cells #[.int .i64 D.value_, .int .i64 D.version_, .int .i64 D.desc_] 55)))
            rw [hd] at e2 hA4 hIs HY
            have HI := hid (show headIn ds k D = !decide (openedC ds[d].entries_ k < 0) by rw [hIs.out, hA1, hA3, hA4, decide_eq_true hd0, hE.out]; rfl)
            clear hcell h2 DC hIs hE hge hd hd1 hd2
            go_wp2_with (first | (go_at_call 36; refine (spec_l1In _ _ _ _).mono ?_; rintro e w' ⟨rfl, rfl⟩) | (go_at_call 67; refine (spec_l1Value _ _).mono ?_; rintro e w' ⟨rfl, rfl⟩))
            refine (spec_Opened0 _ _ (k : Int) _ HY.out).mono ?_
            rintro e w5 ⟨rfl, b5⟩
            have hB5 : Below w.heap.size w w5 := (hB3.alloc hB3.size _).trans (b5.mono (by simp; omega))
            have hB6 : Below wq.heap.size wq w5 := (hB.alloc hB.size _).trans (b5.mono (by simp; have := hB.size; omega))
            by_cases hop : openedC ds[d].entries_ k < 0
            · go_wp2
              go_ret
              exact ⟨ret_bool (Hno.out (by rw [HI.out, decide_eq_true hop]; rfl)).symm, hB5⟩
            · go_wp2
              go_roundw
              case rel => exact ⟨k+1, by omega, by go_num, Same.mk (Hyes.out (by rw [HI.out, decide_eq_false (by omega : ¬ openedC ds[d].entries_ (k : Int) < 0)]; rfl)), hB6⟩
              case measure => simp [intOf]; omega
          · have HI := hid (show headIn ds k D = true by rw [hIs.out, hA1, hA3, hA4, decide_eq_false hge]; rfl)
            go_wp2_with (first | (go_at_call 36; refine (spec_l1In _ _ _ _).mono ?_; rintro e w' ⟨rfl, rfl⟩) | (go_at_call 67; refine (spec_l1Value _ _).mono ?_; rintro e w' ⟨rfl, rfl⟩))
            go_roundw
            case rel => exact ⟨k+1, by omega, by go_num, Same.mk (Hyes.out HI.out), hB.alloc hB.size _⟩
            case measure => simp [intOf]; omega
        · have Hn := hid (show storeOk hs ds = true by rw [Hy.out, ← hS.out, headsAt_end _ _ _ hlt])
          go_wp2
          go_ret
          exact ⟨ret_bool Hn.out.symm, hB3⟩
end Go.Proofs.YtbbdchlabdilcabGreat
