/- Chapter 7's program: Look, FrameOk. -/
import Derived.Test.YtbbdchlabdilcabGreatM9
/- Chapter 7's program: what may lie over an object; StoreOk. -/
namespace Go.Proofs.YtbbdchlabdilcabGreat
set_option maxRecDepth 100000
open Go.RowKit Go.Proofs Go.Own
open Go Go.BigFrame Go.Shelf
set_option linter.unusedVariables false
set_option linter.unusedSimpArgs false
set_option maxHeartbeats 4000000 in
theorem impl_mayLie (a0 : Option Addr) (n c0 : Nat) (v1 : Value) (ds : List DescD) (d o : Int) (w : World) (h1 : rdsL w v1 ds) :
    Calls Tryz.prog 85 #[.agg #[.slice a0 n c0, v1], .int .i64 d, .int .i64 o] w fun e w' => e = .returned (.bool (mayLie ds d o)) ∧ Below w.heap.size w w' := by
  obtain ⟨a1, cap1, rfl, hl1, hm1, hc1⟩ := rdsL_open h1
  clear h1
  have hlen : ds.length ≤ 9223372036854775807 := by omega
  have DC := hid hc1
  clear hc1
  have hu := hid (show mayLie ds d o = (decide (d = -1) || (isIn ds.length d && decide (0 ≤ placeC (entsAt ds d) o))) from rfl)
  obtain ⟨W1, hW1⟩ : ∃ X, w.alloc (.cells #[Value.slice a0 n c0, Value.slice a1 ds.length cap1] 37) = X := ⟨_, rfl⟩
  have hB1 : Below w.heap.size w W1 := by rw [← hW1]; exact (Below.refl _ _).alloc (Nat.le_refl _) _
  have hN : w.heap.size < W1.heap.size := by rw [← hW1]; simp
  have k0 : W1.cell? ⟨w.heap.size, 0, none⟩ = some (Value.slice a0 n c0) := by rw [← hW1]; simp [go_sem]
  have k1 : W1.cell? ⟨w.heap.size, 1, none⟩ = some (Value.slice a1 ds.length cap1) := by rw [← hW1]; simp [go_sem]
  by_cases hd : d = -1
  · have Hn := hid (show mayLie ds d o = true by rw [hu.out, decide_eq_true hd]; rfl)
    subst hd
    go_enter Tryz.func85, Tryz.ntmps85
    go_wp2
    go_ret
    exact ⟨ret_bool Hn.out.symm, hB1⟩
  have hd' : (d == -1) = false := by rw [beq_eq_false_iff_ne]; exact hd
  have hu2 := hid (show mayLie ds d o = (isIn ds.length d && decide (0 ≤ placeC (entsAt ds d) o)) by rw [hu.out, decide_eq_false hd]; rfl)
  clear hu
  cases hq : isIn ds.length d with
  | false =>
    have Hn := hid (show mayLie ds d o = false by rw [hu2.out, hq]; rfl)
    have Hq := hid hq
    clear hq hd
    go_enter Tryz.func85, Tryz.ntmps85
    go_wp2_with fail
    try rw [hW1]
    refine (impl_isDescIs a0 n c0 a1 ds.length cap1 d _ _ hlen Hq.out).mono ?_
    rintro e w2 ⟨rfl, b2⟩
    have hB2 := hB1.trans (b2.mono hB1.size)
    clear hW1
    go_wp2
    go_ret
    exact ⟨ret_bool Hn.out.symm, hB2⟩
  | true =>
    obtain ⟨hd0, hd1⟩ : 0 ≤ d ∧ d < (ds.length : Int) := by simpa [isIn] using hq
    obtain ⟨k, rfl⟩ := Int.eq_ofNat_of_zero_le hd0
    have hk : k < ds.length := by omega
    have Hn := hid (show mayLie ds (k : Int) o = decide (0 ≤ placeC ds[k].entries_ o) by rw [hu2.out, hq, entsAt_eq hk]; rfl)
    have Hq := hid hq
    obtain ⟨bb, off, cs, rfl, hbs, ⟨v2, rfl, h2⟩, hcell⟩ := DC.out k hk
    have c2 : w.cell? ⟨bb, off + k * 3 + 2, none⟩ = some v2 := hcell 2 (show 2 < 3 by omega)
    have HE := hid (rdsEntrys.1 h2)
    obtain ⟨ea, ecap, rfl, -, -⟩ := (rdsEntrys.1 h2).form
    clear hq hd hu2 DC hcell h2
    go_enter Tryz.func85, Tryz.ntmps85
    go_wp2_with fail
    try rw [hW1]
    refine (impl_isDescIs a0 n c0 _ ds.length cap1 _ _ _ hlen Hq.out).mono ?_
    rintro e w2 ⟨rfl, b2⟩
    have hB2 := hB1.trans (b2.mono hB1.size)
    have l1 := (b2.cell (p := ⟨w.heap.size, 1, none⟩) hN).trans k1
    have e2 := (hB2.cell (p := ⟨bb, off + k * 3 + 2, none⟩) hbs).trans c2
    have hb2 := Nat.lt_of_lt_of_le hbs hB2.size
    have HY := hid (Entrys.below HE.out hB2)
    clear hW1 k0 k1 c2 HE
    go_wp2_with fail
    refine (impl_placeOf _ _ o _ HY.out).mono ?_
    rintro e w3 ⟨rfl, b3⟩
    have hB3 := hB2.trans (b3.mono hB2.size)
    go_wp2
    go_ret
    exact ⟨ret_bool (by rw [Hn.out]), hB3⟩
theorem impl_mayLieIs (a0 : Option Addr) (n c0 : Nat) (v1 : Value) (ds : List DescD) (d o : Int) (r : Bool) (w : World) (h1 : rdsL w v1 ds) (hr : mayLie ds d o = r) :
    Calls Tryz.prog 85 #[.agg #[.slice a0 n c0, v1], .int .i64 d, .int .i64 o] w fun e w' => e = .returned (.bool r) ∧ Below w.heap.size w w' := by
  subst hr; exact impl_mayLie a0 n c0 v1 ds d o w h1
set_option maxHeartbeats 8000000 in
theorem impl_StoreOk0 (hs : List Head) (ds : List DescD) (v0 v1 : Value) (w : World) (h0 : rdsL w v0 hs) (h1 : rdsL w v1 ds) :
    Calls Tryz.prog 46 #[.agg #[v0, v1]] w fun e w' => e = .returned (.bool (storeOk hs ds)) ∧ Below w.heap.size w w' := by
  have H1 := hid h1
  obtain ⟨a0, cap0, rfl, hl0, hm0, hc0⟩ := rdsL_open h0
  obtain ⟨a1, cap1, rfl, hl1, hm1, hc1⟩ := rdsL_open h1
  clear h0 h1
  have hlen0 : hs.length ≤ 9223372036854775807 := by omega
  have hlen1 : ds.length ≤ 9223372036854775807 := by omega
  have HC := hid hc0
  have DC := hid hc1
  clear hc0 hc1
  obtain ⟨W1, hW1⟩ : ∃ X, w.alloc (.cells #[Value.slice a0 hs.length cap0, Value.slice a1 ds.length cap1] 37) = X := ⟨_, rfl⟩
  have hB1 : Below w.heap.size w W1 := by rw [← hW1]; exact (Below.refl _ _).alloc (Nat.le_refl _) _
  have hN : w.heap.size < W1.heap.size := by rw [← hW1]; simp
  have k0 : W1.cell? ⟨w.heap.size, 0, none⟩ = some (Value.slice a0 hs.length cap0) := by rw [← hW1]; simp [go_sem]
  have k1 : W1.cell? ⟨w.heap.size, 1, none⟩ = some (Value.slice a1 ds.length cap1) := by rw [← hW1]; simp [go_sem]
  have Hu := hid (show storeOk hs ds = (inB (hs.length : Int) 1 8 && !decide ((60 : Int) < ds.length) && ds.all (descIn hs.length) && headsAt ds hs 0) from rfl)
  go_enter Tryz.func46, Tryz.ntmps46
  by_cases hA : (hs.length : Int) < 1
  · have Hn := hid (show storeOk hs ds = false by
      have : inB (hs.length : Int) 1 8 = false := by simp [inB]; omega
      rw [Hu.out, this]; rfl)
    go_wp2
    go_ret
    exact ⟨ret_bool Hn.out.symm, hB1⟩
  by_cases hA1 : (8 : Int) < (hs.length : Int)
  · have Hn := hid (show storeOk hs ds = false by
      have : inB (hs.length : Int) 1 8 = false := by simp [inB]; omega
      rw [Hu.out, this]; rfl)
    go_wp2
    go_ret
    exact ⟨ret_bool Hn.out.symm, hB1⟩
  by_cases hA2 : (60 : Int) < (ds.length : Int)
  · have Hn := hid (show storeOk hs ds = false by rw [Hu.out, decide_eq_true hA2]; simp)
    go_wp2
    go_ret
    exact ⟨ret_bool Hn.out.symm, hB1⟩
  have Hu2 := hid (show storeOk hs ds = (ds.all (descIn hs.length) && headsAt ds hs 0) by
    have : inB (hs.length : Int) 1 8 = true := by simp [inB]; omega
    rw [Hu.out, this, decide_eq_false hA2]; simp)
  clear Hu
  go_wp2
  clear hW1 hA hA1 hA2
  go_loopw [26] (fun i wr => ∃ k : Nat, k ≤ ds.length ∧ i = .int .i64 k ∧ Same ((ds.drop k).all (descIn hs.length)) (ds.all (descIn hs.length)) ∧ Below W1.heap.size W1 wr) (fun i _ => ds.length - (intOf i).toNat)
  case atStart => exact ⟨0, by omega, rfl, .rfl, Below.refl _ _⟩
  case round =>
    obtain ⟨k, hk, rfl, hS, hB⟩ := hrel
    have q0 := (hB.cell (p := ⟨w.heap.size, 0, none⟩) hN).trans k0
    have q1 := (hB.cell (p := ⟨w.heap.size, 1, none⟩) hN).trans k1
    have hBr : Below w.heap.size w wr := hB1.trans (hB.mono hB1.size)
    have hNr : w.heap.size < wr.heap.size := Nat.lt_of_lt_of_le hN hB.size
    clear k0 k1
    by_cases hlt : k < ds.length
    · have hst := hid (all_step (descIn hs.length) ds k hlt)
      obtain ⟨bb, off, cs, rfl, hbs, ⟨v2, rfl, h2⟩, hcell⟩ := DC.out k hlt
      have c0 : w.cell? ⟨bb, off + k * 3, none⟩ = some (.int .i64 ds[k].owner_) := hcell 0 (show 0 < 3 by omega)
      have c1 : w.cell? ⟨bb, off + k * 3 + 1, none⟩ = some (.int .i64 ds[k].status_) := hcell 1 (show 1 < 3 by omega)
      have c2 : w.cell? ⟨bb, off + k * 3 + 2, none⟩ = some v2 := hcell 2 (show 2 < 3 by omega)
      have e0 := (hBr.cell (p := ⟨bb, off + k * 3, none⟩) hbs).trans c0
      have e1 := (hBr.cell (p := ⟨bb, off + k * 3 + 1, none⟩) hbs).trans c1
      have e2 := (hBr.cell (p := ⟨bb, off + k * 3 + 2, none⟩) hbs).trans c2
      have HE := hid (rdsEntrys.1 h2)
      have hdi := hid (descIn_is (n := hs.length) (d := ds[k]))
      obtain ⟨D, hDD⟩ : ∃ D, Hid (ds[k] = D) := ⟨_, hid rfl⟩
      rw [hDD.out] at e0 e1 HE hst hdi
      obtain ⟨a2, cap2, rfl, hl2, hm2⟩ := HE.out.form
      clear c0 c1 c2 hcell DC h2
      obtain ⟨V, hV⟩ : ∃ X, wr.alloc (.cells #[.int .i64 D.owner_, .int .i64 D.status_, Value.slice a2 D.entries_.length cap2] 85) = X := ⟨_, rfl⟩
      have hBV : Below wr.heap.size wr V := by rw [← hV]; exact (Below.refl _ _).alloc (Nat.le_refl _) _
      have hNV : wr.heap.size < V.heap.size := by rw [← hV]; simp
      have y0 : V.cell? ⟨wr.heap.size, 0, none⟩ = some (.int .i64 D.owner_) := by rw [← hV]; simp [go_sem]
      have y1 : V.cell? ⟨wr.heap.size, 1, none⟩ = some (.int .i64 D.status_) := by rw [← hV]; simp [go_sem]
      have y2 : V.cell? ⟨wr.heap.size, 2, none⟩ = some (Value.slice a2 D.entries_.length cap2) := by rw [← hV]; simp [go_sem]
      have HV := hid hV
      have hBwV := hid (hBr.trans (hBV.mono hBr.size))
      have HY := hid (Entrys.below HE.out hBwV.out)
      clear hV
      go_wp2_with fail
      rw [HV.out]
      refine (impl_DescOk0 _ _ _ _ _ HY.out).mono ?_
      rintro e w3 ⟨rfl, b3⟩
      have hB3 := hBwV.out.trans (b3.mono hBwV.out.size)
      have hB3r : Below wr.heap.size wr w3 := hBV.trans (b3.mono hBV.size)
      cases hd : descOk D.owner_ D.status_ D.entries_ with
      | false =>
        have Hn := hid (show storeOk hs ds = false by rw [Hu2.out, ← hS.out, hst.out, descIn_no hd]; rfl)
        go_wp2
        go_ret
        exact ⟨ret_bool Hn.out.symm, hB3⟩
      | true =>
        have z0 := (b3.cell (p := ⟨wr.heap.size, 0, none⟩) hNV).trans y0
        have z1 := (b3.cell (p := ⟨wr.heap.size, 1, none⟩) hNV).trans y1
        have z2 := (b3.cell (p := ⟨wr.heap.size, 2, none⟩) hNV).trans y2
        have r0 := (hB3r.cell (p := ⟨w.heap.size, 0, none⟩) hNr).trans q0
        have r1 := (hB3r.cell (p := ⟨w.heap.size, 1, none⟩) hNr).trans q1
        have HY3 := hid (Entrys.below HE.out hB3)
        have hd2 := hid (show descIn hs.length D = D.entries_.all (objIn hs.length) by rw [hdi.out, hd]; rfl)
        clear y0 y1 y2 q0 q1 e0 e1 e2 HY HE
        go_wp2_with fail
        refine (impl_hasObjectsOf a0 hs.length cap0 _ ds.length cap1 D.owner_ D.status_ _ _ _ hlen0 HY3.out).mono ?_
        rintro e w4 ⟨rfl, b4⟩
        have hB4 := hB3.trans (b4.mono hB3.size)
        have hB4r : Below wr.heap.size wr w4 := hB3r.trans (b4.mono hB3r.size)
        have hB4W := hB.trans (hB4r.mono hB.size)
        cases hob : D.entries_.all (objIn hs.length) with
        | false =>
          have Hn := hid (show storeOk hs ds = false by rw [Hu2.out, ← hS.out, hst.out, hd2.out, hob]; rfl)
          go_wp2
          go_ret
          exact ⟨ret_bool Hn.out.symm, hB4⟩
        | true =>
          have Hn := hid (show (ds.drop (k+1)).all (descIn hs.length) = ds.all (descIn hs.length) by rw [← hS.out, hst.out, hd2.out, hob]; rfl)
          go_wp2
          go_roundw
          case rel => exact ⟨k+1, by omega, by go_num, Same.mk Hn.out, hB4W⟩
          case measure => simp [intOf]; omega
    · have Hall := hid (show ds.all (descIn hs.length) = true by rw [← hS.out, all_end _ _ _ hlt])
      have Hy := hid (show storeOk hs ds = headsAt2 ds hs 0 by rw [Hu2.out, Hall.out, Bool.true_and]; exact heads_is hs Hall.out)
      clear Hu2 hS Hall
      go_wp2
      clear hlt hk
      obtain ⟨wq, hwq⟩ : ∃ X, X = wr := ⟨_, rfl⟩
      rw [← hwq] at q0 q1 hBr hNr ⊢
      clear hwq hB
      clear wr
      go_loopw [43] (fun i wr => ∃ k : Nat, k ≤ hs.length ∧ i = .int .i64 k ∧ Same (headsAt2 ds hs k) (headsAt2 ds hs 0) ∧ Below wq.heap.size wq wr) (fun i _ => hs.length - (intOf i).toNat)
      case atStart => exact ⟨0, by omega, rfl, .rfl, Below.refl _ _⟩
      case round =>
        obtain ⟨k, hk, rfl, hS, hB⟩ := hrel
        have p0 := (hB.cell (p := ⟨w.heap.size, 0, none⟩) hNr).trans q0
        have p1 := (hB.cell (p := ⟨w.heap.size, 1, none⟩) hNr).trans q1
        have hB3 : Below w.heap.size w wr := hBr.trans (hB.mono hBr.size)
        have hNq : w.heap.size < wr.heap.size := Nat.lt_of_lt_of_le hNr hB.size
        clear q0 q1
        by_cases hlt : k < hs.length
        · have hst := hid (headsAt2_step ds hs k hlt)
          obtain ⟨bb, off, cs, rfl, hbs, rfl, hcell⟩ := HC.out k hlt
          have c0 : w.cell? ⟨bb, off + k * 3, none⟩ = some (.int .i64 hs[k].value_) := hcell 0 (show 0 < 3 by omega)
          have c1 : w.cell? ⟨bb, off + k * 3 + 1, none⟩ = some (.int .i64 hs[k].version_) := hcell 1 (show 1 < 3 by omega)
          have c2 : w.cell? ⟨bb, off + k * 3 + 2, none⟩ = some (.int .i64 hs[k].desc_) := hcell 2 (show 2 < 3 by omega)
          have e0 := (hB3.cell (p := ⟨bb, off + k * 3, none⟩) hbs).trans c0
          have e1 := (hB3.cell (p := ⟨bb, off + k * 3 + 1, none⟩) hbs).trans c1
          have e2 := (hB3.cell (p := ⟨bb, off + k * 3 + 2, none⟩) hbs).trans c2
          obtain ⟨D, hDD⟩ : ∃ D, Hid (hs[k] = D) := ⟨_, hid rfl⟩
          rw [hDD.out] at e0 e1 e2 hst
          clear c0 c1 c2 hcell HC DC
          have hIs := hid (show headIn2 ds k D = (isVal D.value_ && inB D.version_ 0 1000000 && mayLie ds D.desc_ k) from rfl)
          have Hno := hid (show headIn2 ds k D = false → storeOk hs ds = false from fun e => by rw [Hy.out, ← hS.out, hst.out, e]; rfl)
          have Hyes := hid (show headIn2 ds k D = true → headsAt2 ds hs (k+1) = headsAt2 ds hs 0 from fun e => by rw [← hS.out, hst.out, e]; rfl)
          have hBa : Below w.heap.size w (wr.alloc (.cells #[.int .i64 D.value_, .int .i64 D.version_, .int .i64 D.desc_] 55)) := hB3.alloc hB3.size _
          cases hA1 : isVal D.value_ with
          | false =>
            go_wp2_with (first | (go_at_call 83; refine (impl_isValue _ _).mono ?_; rintro e w' ⟨rfl, rfl⟩) | (go_at_call 84; refine (impl_isVersion _ _).mono ?_; rintro e w' ⟨rfl, rfl⟩))
            go_ret
            exact ⟨ret_bool (Hno.out (by rw [hIs.out, hA1]; rfl)).symm, hBa⟩
          | true =>
          cases hA3 : inB D.version_ 0 1000000 with
          | false =>
            go_wp2_with (first | (go_at_call 83; refine (impl_isValue _ _).mono ?_; rintro e w' ⟨rfl, rfl⟩) | (go_at_call 84; refine (impl_isVersion _ _).mono ?_; rintro e w' ⟨rfl, rfl⟩))
            go_ret
            exact ⟨ret_bool (Hno.out (by rw [hIs.out, hA1, hA3]; rfl)).symm, hBa⟩
          | true =>
          obtain ⟨V, hV⟩ : ∃ X, wr.alloc (.cells #[.int .i64 D.value_, .int .i64 D.version_, .int .i64 D.desc_] 55) = X := ⟨_, rfl⟩
          have hsV : V.heap.size = wr.heap.size + 1 := by rw [← hV]; simp
          rw [hV] at hBa
          have hR := hid (rdsL.below H1.out hBa)
          have hBq : Below wq.heap.size wq V := by rw [← hV]; exact hB.alloc hB.size _
          have HV := hid hV
          have HBa := hid hBa
          have HBq := hid hBq
          clear hV H1 hBa hBq
          go_wp2_with (first | (go_at_call 83; refine (impl_isValue _ _).mono ?_; rintro e w' ⟨rfl, rfl⟩) | (go_at_call 84; refine (impl_isVersion _ _).mono ?_; rintro e w' ⟨rfl, rfl⟩))
          rw [HV.out]
          refine (impl_mayLie _ hs.length cap0 _ ds D.desc_ k _ hR.out).mono ?_
          rintro e w5 ⟨rfl, b5⟩
          have hB5 := HBa.out.trans (b5.mono HBa.out.size)
          have hB6 := HBq.out.trans (b5.mono HBq.out.size)
          cases hmay : mayLie ds D.desc_ k with
          | false =>
            go_wp2
            go_ret
            exact ⟨ret_bool (Hno.out (by rw [hIs.out, hmay, Bool.and_false])).symm, hB5⟩
          | true =>
            go_wp2
            go_roundw
            case rel => exact ⟨k+1, by omega, by go_num, Same.mk (Hyes.out (by rw [hIs.out, hA1, hA3, hmay]; rfl)), hB6⟩
            case measure => simp [intOf]; omega
        · have Hn := hid (show storeOk hs ds = true by rw [Hy.out, ← hS.out, headsAt2_end _ _ _ hlt])
          go_wp2
          go_ret
          exact ⟨ret_bool Hn.out.symm, hB3⟩
end Go.Proofs.YtbbdchlabdilcabGreat
namespace Go.Proofs.YtbbdchlabdilcabGreat
set_option maxRecDepth 100000
open Go.RowKit Go.Proofs Go.Own
open Go Go.BigFrame Go.Shelf
set_option linter.unusedVariables false
set_option linter.unusedSimpArgs false
theorem isIn_eq (n : Nat) (o : Int) : inB o 0 ((n : Int) - 1) = isIn n o := by
  unfold inB isIn
  rw [← Bool.decide_and]
  exact decide_eq_decide.2 (by omega)
theorem inB_yes {x a b : Int} (h : a ≤ x ∧ x ≤ b) : inB x a b = true := decide_eq_true h
theorem inB_no {x a b : Int} (h : ¬ (a ≤ x ∧ x ≤ b)) : inB x a b = false := decide_eq_false h
set_option maxHeartbeats 8000000 in
theorem impl_FrameOk0 (hs : List Head) (ds : List DescD) (v0 v1 : Value) (f : Frame) (w : World) (h0 : rdsL w v0 hs) (h1 : rdsL w v1 ds) :
    Calls Tryz.prog 132 #[.agg #[v0, v1], .agg #[.int .i64 f.desc_, .int .i64 f.phase_, .int .i64 f.at_]] w fun e w' => e = .returned (.bool (frameOk hs ds f)) ∧ Below w.heap.size w w' := by
  have H0 := hid h0
  have H1 := hid h1
  obtain ⟨a0, cap0, rfl, hl0, hm0, -⟩ := rdsL_open h0
  obtain ⟨a1, cap1, rfl, hl1, hm1, hc1⟩ := rdsL_open h1
  clear h0 h1
  have hlen1 : ds.length ≤ 9223372036854775807 := by omega
  have DC := hid hc1
  clear hc1
  obtain ⟨fd, fp, fa⟩ := f
  have hu := hid (show frameOk hs ds ⟨fd, fp, fa⟩ = (storeOk hs ds && inB fd 0 ((ds.length : Int) - 1) && inB fp 0 5 && (if fp = 1 ∨ fp = 4 then inB fa 0 (((entsAt ds fd).length : Int) - 1) else decide (fa = 0))) from rfl)
  generalize frameOk hs ds ⟨fd, fp, fa⟩ = R at *
  obtain ⟨W1, hW1⟩ : ∃ X, (w.alloc (.cells #[Value.slice a0 hs.length cap0, Value.slice a1 ds.length cap1] 37)).alloc (.cells #[.int .i64 fd, .int .i64 fp, .int .i64 fa] 91) = X := ⟨_, rfl⟩
  have hB1 : Below w.heap.size w W1 := by rw [← hW1]; exact ((Below.refl _ _).alloc (Nat.le_refl _) _).alloc (by simp) _
  have hN : W1.heap.size = w.heap.size + 2 := by rw [← hW1]; simp
  have bp : BoxF W1 w.heap.size [Value.slice a0 hs.length cap0, Value.slice a1 ds.length cap1] := by
    rw [← hW1]
    exact (BoxF.alloc w #[Value.slice a0 hs.length cap0, Value.slice a1 ds.length cap1] 37).below ((Below.refl _ _).alloc (Nat.le_refl _) _)
  have br : BoxF W1 (w.heap.size + 1) [.int .i64 fd, .int .i64 fp, .int .i64 fa] := by
    rw [← hW1]
    have h1 := BoxF.alloc (w.alloc (.cells #[Value.slice a0 hs.length cap0, Value.slice a1 ds.length cap1] 37)) #[.int .i64 fd, .int .i64 fp, .int .i64 fa] 91
    rw [show (w.alloc (.cells #[Value.slice a0 hs.length cap0, Value.slice a1 ds.length cap1] 37)).heap.size = w.heap.size + 1 by simp] at h1
    exact h1
  have k0 : W1.cell? ⟨w.heap.size, 0, none⟩ = some (Value.slice a0 hs.length cap0) := bp.1.2 0 (by simp)
  have k1 : W1.cell? ⟨w.heap.size, 1, none⟩ = some (Value.slice a1 ds.length cap1) := bp.1.2 1 (by simp)
  have R0 := hid (rdsL.below H0.out hB1)
  have R1 := hid (rdsL.below H1.out hB1)
  clear H0 H1
  go_enter Tryz.func132, Tryz.ntmps132
  go_wp2_with fail
  try rw [hW1]
  clear hW1
  refine (impl_StoreOk0 hs ds _ _ _ R0.out R1.out).mono ?_
  rintro e w2 ⟨rfl, b2⟩
  have hB2 := hB1.trans (b2.mono hB1.size)
  have bp2 := bp.below b2
  have br2 := br.below b2
  cases hs0 : storeOk hs ds with
  | false =>
    go_wp2
    go_ret
    exact ⟨ret_bool (by rw [hu.out, hs0]; rfl), hB2⟩
  | true =>
  have l0 : w2.cell? ⟨w.heap.size, 0, none⟩ = some (Value.slice a0 hs.length cap0) := bp2.1.2 0 (by simp)
  have l1 : w2.cell? ⟨w.heap.size, 1, none⟩ = some (Value.slice a1 ds.length cap1) := bp2.1.2 1 (by simp)
  have l2 : w2.cell? ⟨w.heap.size + 1, 0, none⟩ = some (.int .i64 fd) := br2.1.2 0 (by simp)
  have BP2 := hid bp2
  have BR2 := hid br2
  clear R0 R1 bp br b2 k0 k1 bp2 br2
  go_wp2_with fail
  refine (impl_isDesc a0 hs.length cap0 a1 ds.length cap1 fd _ hlen1).mono ?_
  rintro e w3 ⟨rfl, b3⟩
  have hB3 := hB2.trans (b3.mono hB2.size)
  have bp3 := BP2.out.below b3
  have br3 := BR2.out.below b3
  have hq2 := hid (show inB fd 0 ((ds.length : Int) - 1) = isIn ds.length fd by
    exact isIn_eq _ _)
  cases hb : isIn ds.length fd with
  | false =>
    go_wp2
    go_ret
    exact ⟨ret_bool (by rw [hu.out, hs0, hq2.out, hb]; rfl), hB3⟩
  | true =>
  have hu2 := hid (show R = (inB fp 0 5 && (if fp = 1 ∨ fp = 4 then inB fa 0 (((entsAt ds fd).length : Int) - 1) else decide (fa = 0))) by rw [hu.out, hs0, hq2.out, hb]; rfl)
  have m1 : w3.cell? ⟨w.heap.size, 1, none⟩ = some (Value.slice a1 ds.length cap1) := bp3.1.2 1 (by simp)
  have n0 : w3.cell? ⟨w.heap.size + 1, 0, none⟩ = some (.int .i64 fd) := br3.1.2 0 (by simp)
  have n1 : w3.cell? ⟨w.heap.size + 1, 1, none⟩ = some (.int .i64 fp) := br3.1.2 1 (by simp)
  have n2 : w3.cell? ⟨w.heap.size + 1, 2, none⟩ = some (.int .i64 fa) := br3.1.2 2 (by simp)
  obtain ⟨hd1, hd2⟩ : 0 ≤ fd ∧ fd < (ds.length : Int) := by simpa [isIn] using hb
  obtain ⟨k, rfl⟩ := Int.eq_ofNat_of_zero_le hd1
  have hk : k < ds.length := by omega
  have hki : (k : Int) < (ds.length : Int) := by omega
  have hk0 : (0 : Int) ≤ (k : Int) := by omega
  clear hd1 hd2 hu hq2 hb l0 l1 l2 BP2 BR2 b3 bp3 br3
  by_cases hph : fp = 1 ∨ fp = 4
  · have HR := hid (show R = inB fa 0 ((ds[k].entries_.length : Int) - 1) by
      have : inB fp 0 5 = true := by rcases hph with rfl | rfl <;> rfl
      rw [hu2.out, if_pos hph, entsAt_eq hk, this]; rfl)
    obtain ⟨bb, off, cs, rfl, hbs, ⟨v2, rfl, h2⟩, hcell⟩ := DC.out k hk
    obtain ⟨ea, ecap, rfl, hle, hlm⟩ := (rdsEntrys.1 h2).form
    have e2 := (hB3.cell (p := ⟨bb, off + k * 3 + 2, none⟩) hbs).trans (show w.cell? ⟨bb, off + k * 3 + 2, none⟩ = some _ from hcell 2 (show 2 < 3 by omega))
    have hlen2 : ds[k].entries_.length ≤ 9223372036854775807 := by omega
    have hb2 := Nat.lt_of_lt_of_le hbs hB3.size
    clear hcell h2 DC hu2
    by_cases ha0 : 0 ≤ fa
    · by_cases ha1 : fa < (ds[k].entries_.length : Int)
      · have HR2 := hid (show R = true by rw [HR.out]; exact inB_yes (by omega))
        rcases hph with rfl | rfl
        all_goals go_wp2
        all_goals (go_quiet (fail))
        all_goals go_wp2
        all_goals go_ret
        all_goals exact ⟨ret_bool (by rw [HR2.out]; first | done | rfl | exact decide_eq_false (by omega) | exact decide_eq_true (by omega) | (simp; omega)), by first | exact below_drewN hB3 _ | exact hB3⟩
      · have HR2 := hid (show R = false by rw [HR.out]; exact inB_no (by omega))
        rcases hph with rfl | rfl
        all_goals go_wp2
        all_goals (go_quiet (fail))
        all_goals go_wp2
        all_goals go_ret
        all_goals exact ⟨ret_bool (by rw [HR2.out]; first | done | rfl | exact decide_eq_false (by omega) | exact decide_eq_true (by omega) | (simp; omega)), by first | exact below_drewN hB3 _ | exact hB3⟩
    · have HR2 := hid (show R = false by rw [HR.out]; exact inB_no (by omega))
      have hd : decide (0 ≤ fa) = false := decide_eq_false ha0
      rcases hph with rfl | rfl
      all_goals go_wp2
      all_goals (go_quiet (fail))
      all_goals go_wp2
      all_goals go_ret
      all_goals exact ⟨ret_bool (by rw [HR2.out]; first | done | rfl | exact decide_eq_false (by omega) | exact decide_eq_true (by omega) | (simp; omega)), by first | exact below_drewN hB3 _ | exact hB3⟩
  · by_cases hp : fp = 0 ∨ fp = 2 ∨ fp = 3 ∨ fp = 5
    · have HR := hid (show R = decide (fa = 0) by
        have : inB fp 0 5 = true := by rcases hp with rfl | rfl | rfl | rfl <;> rfl
        rw [hu2.out, if_neg hph, this]; rfl)
      clear hu2 hph DC
      rcases hp with rfl | rfl | rfl | rfl
      all_goals go_wp2
      all_goals go_ret
      all_goals exact ⟨ret_bool (by rw [HR.out]; rfl), hB3⟩
    · have HR := hid (show R = false by
        have : inB fp 0 5 = false := inB_no (by omega)
        rw [hu2.out, this]; rfl)
      have p0 : (fp == 0) = false := by rw [beq_eq_false_iff_ne]; omega
      have p1 : (fp == 1) = false := by rw [beq_eq_false_iff_ne]; omega
      have p2 : (fp == 2) = false := by rw [beq_eq_false_iff_ne]; omega
      have p3 : (fp == 3) = false := by rw [beq_eq_false_iff_ne]; omega
      have p4 : (fp == 4) = false := by rw [beq_eq_false_iff_ne]; omega
      have p5 : (fp == 5) = false := by rw [beq_eq_false_iff_ne]; omega
      clear hu2 hph hp DC
      go_wp2
      go_ret
      exact ⟨ret_bool HR.out.symm, hB3⟩
end Go.Proofs.YtbbdchlabdilcabGreat
