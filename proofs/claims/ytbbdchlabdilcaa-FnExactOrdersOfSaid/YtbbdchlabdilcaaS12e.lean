/- Chapter 12's model: whether values and descriptors fit. -/
import Derived.Test.YtbbdchlabdilcaaF12p
import Derived.Test.YtbbdchlabdilcaaS7e
import Derived.StillTailTactics
namespace Go.Proofs.Ytbbdchlabdilcaa
set_option maxRecDepth 100000
open Go.RowKit Go.Proofs Go.Own
open Go Go.BigFrame
set_option linter.unusedVariables false
set_option linter.unusedSimpArgs false
set_option maxHeartbeats 8000000 in
theorem spec_l12Args0 (fs : List Int) (ds : List DescD) (most : Int) (v0 v1 : Value) (w : World) (h0 : Ints w v0 fs) (h1 : rdsL w v1 ds) :
    Calls Try.prog 18 #[v0, v1, .int .i64 most] w fun e w' => e = .returned (.bool (args12 fs ds most)) ∧ Below w.heap.size w w' := by
  have H0 := hid h0
  obtain ⟨a0, cap0, rfl, hl0, hm0⟩ := Flat.form h0
  obtain ⟨a1, cap1, rfl, hl1, hm1, hc1⟩ := rdsL_open h1
  have DC := hid hc1
  have hlen0 : fs.length ≤ 9223372036854775807 := by omega
  have hlen1 : ds.length ≤ 9223372036854775807 := by omega
  clear h0 h1 hc1
  have Hu := hid (show args12 fs ds most = ((inB (fs.length : Int) 1 8 && allIn fs (-1000000000) 1000000000 0 && !decide (most < (ds.length : Int))) && ds.all (descIn fs.length)) from rfl)
  generalize args12 fs ds most = R at *
  have hB1 := Below.refl w.heap.size w
  go_enter Try.func18, Try.ntmps18
  cases g1 : inB (fs.length : Int) 1 8 with
  | false =>
    have Hn := hid (show R = false by rw [Hu.out, g1]; rfl)
    go_wp2_with (first | (go_at_call 32; refine (spec_l1In _ _ _ _).mono ?_; rintro e w' ⟨rfl, rfl⟩) | (go_at_call 33; refine (spec_l1All _ fs _ _ _ H0.out).mono ?_; rintro e w' ⟨rfl, rfl⟩))
    go_ret
    exact ⟨ret_bool Hn.out.symm, hB1⟩
  | true =>
  cases g2 : allIn fs (-1000000000) 1000000000 0 with
  | false =>
    have Hn := hid (show R = false by rw [Hu.out, g1, g2]; rfl)
    go_wp2_with (first | (go_at_call 32; refine (spec_l1In _ _ _ _).mono ?_; rintro e w' ⟨rfl, rfl⟩) | (go_at_call 33; refine (spec_l1All _ fs _ _ _ H0.out).mono ?_; rintro e w' ⟨rfl, rfl⟩))
    go_ret
    exact ⟨ret_bool Hn.out.symm, hB1⟩
  | true =>
  by_cases g3 : most < (ds.length : Int)
  · have Hn := hid (show R = false by rw [Hu.out, g1, g2, decide_eq_true g3]; rfl)
    go_wp2_with (first | (go_at_call 32; refine (spec_l1In _ _ _ _).mono ?_; rintro e w' ⟨rfl, rfl⟩) | (go_at_call 33; refine (spec_l1All _ fs _ _ _ H0.out).mono ?_; rintro e w' ⟨rfl, rfl⟩))
    go_ret
    exact ⟨ret_bool Hn.out.symm, hB1⟩
  have Hu2 := hid (show R = ds.all (descIn fs.length) by rw [Hu.out, g1, g2, decide_eq_false g3]; simp)
  clear Hu
  go_wp2_with (first | (go_at_call 32; refine (spec_l1In _ _ _ _).mono ?_; rintro e w' ⟨rfl, rfl⟩) | (go_at_call 33; refine (spec_l1All _ fs _ _ _ H0.out).mono ?_; rintro e w' ⟨rfl, rfl⟩))
  go_loopw [7] (fun i wr => ∃ k : Nat, k ≤ ds.length ∧ i = .int .i64 k ∧ Same ((ds.drop k).all (descIn fs.length)) (ds.all (descIn fs.length)) ∧ Below w.heap.size w wr) (fun i _ => ds.length - (intOf i).toNat)
  case atStart => exact ⟨0, by omega, rfl, .rfl, hB1⟩
  case round =>
    obtain ⟨k, hk, rfl, hS, hBr⟩ := hrel
    by_cases hlt : k < ds.length
    · have hst := hid (all_step (descIn fs.length) ds k hlt)
      obtain ⟨bb, off, cs, rfl, hbs, ⟨v2, rfl, h2⟩, hcell⟩ := DC.out k hlt
      have c0 : w.cell? ⟨bb, off + k * 3, none⟩ = some (.int .i64 ds[k].owner_) := hcell 0 (show 0 < 3 by omega)
      have c1 : w.cell? ⟨bb, off + k * 3 + 1, none⟩ = some (.int .i64 ds[k].status_) := hcell 1 (show 1 < 3 by omega)
      have c2 : w.cell? ⟨bb, off + k * 3 + 2, none⟩ = some v2 := hcell 2 (show 2 < 3 by omega)
      have e0 := (hBr.cell (p := ⟨bb, off + k * 3, none⟩) hbs).trans c0
      have e1 := (hBr.cell (p := ⟨bb, off + k * 3 + 1, none⟩) hbs).trans c1
      have e2 := (hBr.cell (p := ⟨bb, off + k * 3 + 2, none⟩) hbs).trans c2
      have HY := hid (Entrys.below (rdsEntrys.1 h2) hBr)
      obtain ⟨D, hDD⟩ : ∃ D, Hid (ds[k] = D) := ⟨_, hid rfl⟩
      rw [hDD.out] at e0 e1 HY hst
      clear c0 c1 c2 hcell DC h2
      obtain ⟨a2, cap2, rfl, hl2, hm2, hc2⟩ := HY.out.open
      have HC2 := hid hc2
      clear hc2
      have hlen2 : D.entries_.length ≤ 9223372036854775807 := by omega
      obtain ⟨V, hV⟩ : ∃ X, wr.alloc (.cells #[.int .i64 D.owner_, .int .i64 D.status_, Value.slice a2 D.entries_.length cap2] 45) = X := ⟨_, rfl⟩
      have hBV : Below wr.heap.size wr V := by rw [← hV]; exact (Below.refl _ _).alloc (Nat.le_refl _) _
      have bv : Box V wr.heap.size [.int .i64 D.owner_, .int .i64 D.status_, Value.slice a2 D.entries_.length cap2] := by rw [← hV]; exact Box.alloc _ _ _
      have y0 : V.cell? ⟨wr.heap.size, 0, none⟩ = some (.int .i64 D.owner_) := bv.2 0 (by simp)
      have y1 : V.cell? ⟨wr.heap.size, 1, none⟩ = some (.int .i64 D.status_) := bv.2 1 (by simp)
      have y2 : V.cell? ⟨wr.heap.size, 2, none⟩ = some (Value.slice a2 D.entries_.length cap2) := bv.2 2 (by simp)
      have BV := hid bv
      have HBV := hid (hBr.trans (hBV.mono hBr.size))
      have hYV := hid (Entrys.below HY.out hBV)
      clear bv
      cases hd : descOk D.owner_ D.status_ D.entries_ with
      | false =>
        have Hn := hid (show R = false by rw [Hu2.out, ← hS.out, hst.out, descIn_no hd]; rfl)
        have hD := hid hd
        clear hd
        go_wp2_with fail
        refine (spec_DescOkIs _ _ _ _ false _ hYV.out hD.out).mono ?_
        rintro e w5 ⟨rfl, b5⟩
        have HB5 := hid (HBV.out.trans (b5.mono HBV.out.size))
        go_wp2
        go_ret
        exact ⟨ret_bool Hn.out.symm, HB5.out⟩
      | true =>
        obtain ⟨hd0, hd6⟩ := descOk_len hd
        have hi := hid (descIn_ok (n := fs.length) hd)
        have hD := hid hd
        clear hd
        have hle := lastO_eq (show D.entries_.length - 1 < D.entries_.length by omega)
        obtain ⟨b2, off2, rfl, hb2, d0, -⟩ := HC2.out (D.entries_.length - 1) (by omega)
        rw [← hle] at d0
        clear HC2 hle
        have hix : ((D.entries_.length : Int) - 1).toNat = D.entries_.length - 1 := by omega
        have hix0 : (0 : Int) ≤ (D.entries_.length : Int) - 1 := by omega
        have hix1 : (D.entries_.length : Int) - 1 < (D.entries_.length : Int) := by omega
        go_wp2_with fail
        refine (spec_DescOkIs _ _ _ _ true _ hYV.out hD.out).mono ?_
        rintro e w5 ⟨rfl, b5⟩
        have HB5 := hid (HBV.out.trans (b5.mono HBV.out.size))
        have z0 := (b5.cell (p := ⟨b2, off2 + (D.entries_.length - 1) * 5, none⟩) (Nat.lt_of_lt_of_le hb2 hBV.size)).trans ((hBV.cell (p := ⟨b2, off2 + (D.entries_.length - 1) * 5, none⟩) hb2).trans d0)
        have x2 : w5.cell? ⟨wr.heap.size, 2, none⟩ = some (Value.slice (some ⟨b2, off2, none⟩) D.entries_.length cap2) := (BV.out.below b5).2 2 (by simp)
        clear y0 y1 y2 d0
        by_cases hge : (fs.length : Int) ≤ lastO D.entries_
        · have Hn := hid (show R = false by rw [Hu2.out, ← hS.out, hst.out, hi.out, decide_eq_true hge]; rfl)
          go_wp2
          go_ret
          exact ⟨ret_bool Hn.out.symm, HB5.out⟩
        · have hs2 := hid (show ds.all (descIn fs.length) = (ds.drop (k+1)).all (descIn fs.length) by rw [← hS.out, hst.out, hi.out, decide_eq_false hge]; rfl)
          go_wp2
          go_roundw
          case rel => exact ⟨k+1, by omega, by go_num, Same.mk hs2.out.symm, HB5.out⟩
          case measure => simp [intOf]; omega
    · obtain rfl : k = ds.length := by omega
      have hu := hid (show R = true by rw [Hu2.out, ← hS.out, List.drop_length]; rfl)
      clear Hu2 hS
      go_wp2
      go_ret
      exact ⟨ret_bool hu.out.symm, hBr⟩
end Go.Proofs.Ytbbdchlabdilcaa
