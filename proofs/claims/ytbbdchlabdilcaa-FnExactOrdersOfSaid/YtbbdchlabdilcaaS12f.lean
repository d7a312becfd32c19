/- Chapter 12's model: Serial. -/
import Derived.Test.YtbbdchlabdilcaaS12a
import Derived.Test.YtbbdchlabdilcaaS12h
import Derived.Test.YtbbdchlabdilcaaS12e
import Derived.Test.YtbbdchlabdilcaaN7o
namespace Go.Proofs.Ytbbdchlabdilcaa
set_option maxRecDepth 100000
open Go.RowKit Go.Proofs Go.Own
open Go Go.BigFrame
set_option linter.unusedVariables false
set_option linter.unusedSimpArgs false
theorem args12_parts {fs : List Int} {ds : List DescD} {most : Int} (h : args12 fs ds most = true) : (1 ≤ fs.length ∧ fs.length ≤ 8) ∧ ∀ i, (hi : i < ds.length) → ∀ k, (hk : k < ds[i].entries_.length) → 0 ≤ ds[i].entries_[k].object_ ∧ ds[i].entries_[k].object_ < (fs.length : Int) := by
  unfold args12 at h
  simp only [Bool.and_eq_true] at h
  have h1 : 1 ≤ (fs.length : Int) ∧ (fs.length : Int) ≤ 8 := by simpa [inB] using h.1.1.1
  refine ⟨by omega, fun i hi k hk => ?_⟩
  have h2 := h.2
  rw [List.all_eq_true] at h2
  have h3 := h2 _ (List.getElem_mem hi)
  rw [descIn_is, Bool.and_eq_true, List.all_eq_true] at h3
  have h4 := h3.2 _ (List.getElem_mem hk)
  unfold objIn at h4
  simpa using h4
theorem serTo_yes {vs : List Int} {ds : List DescD} {n i : Nat} (hi : i < ds.length) (hc : canL vs ds[i].entries_ = true) : serTo vs ds (n+1) i = serTo (doL vs ds[i].entries_) ds n (i+1) := by
  conv => lhs; unfold serTo
  rw [List.getElem?_eq_getElem hi]
  exact if_pos hc
theorem serTo_no {vs : List Int} {ds : List DescD} {n i : Nat} (hi : i < ds.length) (hc : canL vs ds[i].entries_ = false) : serTo vs ds (n+1) i = (vs, false) := by
  conv => lhs; unfold serTo
  rw [List.getElem?_eq_getElem hi]
  exact if_neg (by rw [hc]; simp)
set_option maxHeartbeats 8000000 in
theorem spec_Serial0 (fs : List Int) (ds : List DescD) (v0 v1 : Value) (w : World) (h0 : rdsL w v0 fs) (h1 : rdsL w v1 ds) :
    Calls Try.prog 6 #[v0, v1] w fun e w' => ∃ u : Value, e = .returned (.tuple #[u, .bool (serC fs ds).2]) ∧ w'.ownsRow w.heap.size 3 1 u (serC fs ds).1.length ((serC fs ds).1.flatMap encI) ∧ Below w.heap.size w w' := by
  have R0 := hid h0
  have R1 := hid h1
  obtain ⟨a0, cap0, rfl, hl0, hm0, -⟩ := rdsL_open h0
  obtain ⟨a1, cap1, rfl, hl1, hm1, hc1⟩ := rdsL_open h1
  have DC := hid hc1
  have hlen1 : ds.length ≤ 9223372036854775807 := by omega
  clear h0 h1 hc1
  have Hs := hid (show serC fs ds = if args12 fs ds 60 = true then serTo fs ds ds.length 0 else ([], false) from rfl)
  have Hp := hid (fun (h : args12 fs ds 60 = true) => args12_parts h)
  generalize serC fs ds = SC at *
  go_enter Try.func6, Try.ntmps6
  go_wp2_with fail
  refine (spec_l12Args0 fs ds 60 _ _ _ (rdsInts.1 R0.out) R1.out).mono ?_
  rintro e w2 ⟨rfl, b2⟩
  have HB2 := hid b2
  generalize args12 fs ds 60 = R at *
  cases R with
  | false =>
    have hn : SC = ([], false) := by rw [Hs.out]; simp
    subst hn
    clear Hs Hp
    have HBL := hid (show Below w.heap.size w (w2.alloc (.cells #[] 3)) from b2.alloc b2.size _)
    have hO := owns_litN w2 3 1 0 #[] w.heap.size b2.size rfl (Nat.zero_le _)
    go_wp2
    go_ret2
    exact ⟨_, rfl, hO, HBL.out⟩
  | true =>
  obtain ⟨hf, hen⟩ := Hp.out rfl
  have HEN := hid hen
  have Hs2 := hid (show SC = serTo fs ds ds.length 0 by rw [Hs.out]; simp)
  clear Hs Hp hen
  go_wp2_with fail
  refine (spec_l1Copy _ fs _ (rdsInts.1 (rdsL.below R0.out b2)) (by omega)).mono ?_
  rintro e w3 ⟨u, rfl, hO, b3⟩
  have B3 := b2.trans (b3.mono b2.size)
  obtain ⟨g, gc, rfl, hgc1, hgc2, hg1, hg2, -, -⟩ := owns_at hO (by omega)
  have hg0 : w.heap.size ≤ g := Nat.le_trans b2.size hg1
  have HO0 := hid hO
  clear hO
  go_wp2
  go_loopw [7] (fun i wr => ∃ (k m : Nat) (X : List Int), k + m = ds.length ∧ i = .int .i64 k ∧ Hid (X.length = fs.length) ∧ Hid (wr.ownsRow w2.heap.size 3 1 (.slice (some ⟨g, 0, none⟩) fs.length gc) fs.length (X.flatMap encI)) ∧ Hid (ChgS (fun b => b = g) w3 wr) ∧ Same (serTo X ds m k) (serTo fs ds ds.length 0)) (fun i _ => ds.length - (intOf i).toNat)
  case atStart => exact ⟨0, ds.length, fs, by omega, rfl, hid rfl, HO0, hid (ChgS.refl _ _), .rfl⟩
  case round =>
    clear HO0
    obtain ⟨k, m, X, hkm, rfl, HX, HO, HC, hS⟩ := hrel
    have hBr := below_chg B3 HC.out B3.size (fun b hb => by omega)
    have HB := hid hBr
    by_cases hlt : k < ds.length
    · obtain ⟨m, rfl⟩ : ∃ q, m = q + 1 := ⟨m - 1, by omega⟩
      obtain ⟨bb, off, cs, rfl, hbs, ⟨v2, rfl, h2⟩, hcell⟩ := DC.out k hlt
      have c0 : w.cell? ⟨bb, off + k * 3, none⟩ = some (.int .i64 ds[k].owner_) := hcell 0 (show 0 < 3 by omega)
      have c1 : w.cell? ⟨bb, off + k * 3 + 1, none⟩ = some (.int .i64 ds[k].status_) := hcell 1 (show 1 < 3 by omega)
      have c2 : w.cell? ⟨bb, off + k * 3 + 2, none⟩ = some v2 := hcell 2 (show 2 < 3 by omega)
      have e0 := (hBr.cell (p := ⟨bb, off + k * 3, none⟩) hbs).trans c0
      have e1 := (hBr.cell (p := ⟨bb, off + k * 3 + 1, none⟩) hbs).trans c1
      have e2 := (hBr.cell (p := ⟨bb, off + k * 3 + 2, none⟩) hbs).trans c2
      have HR2 := hid h2
      have HR2r := hid (rdsL.below h2 hBr)
      have HENk := hid (HEN.out k hlt)
      have Hyes := hid (fun hc => serTo_yes (vs := X) (n := m) hlt hc)
      have Hno := hid (fun hc => serTo_no (vs := X) (n := m) hlt hc)
      have HXR := hid (show Ints wr (.slice (some ⟨g, 0, none⟩) fs.length gc) X by
        show Flat wr _ X.length 1 _
        rw [HX.out]; exact Flat.of_owns HO.out)
      obtain ⟨ua, uc, rfl, -, -, -⟩ := rdsL_open h2
      clear c0 c1 c2 hcell DC h2
      generalize ds[k].entries_ = es at *
      generalize ds[k].owner_ = ow at *
      generalize ds[k].status_ = st at *
      obtain ⟨B, hB9⟩ : ∃ B, Hid (canL X es = B) := ⟨_, hid rfl⟩
      have Hcan := hid (spec_l12Can0 X ow st es (.slice (some ⟨g, 0, none⟩) fs.length gc) _ wr HXR.out HR2r.out (fun i hi => by rw [HX.out]; exact HENk.out i hi) (by rw [HX.out]; omega))
      rw [hB9.out] at Hcan Hyes Hno
      go_wp2_with fail
      refine Hcan.out.mono ?_
      rintro e w5 ⟨rfl, b5⟩
      have f0 := (b5.cell (p := ⟨bb, off + k * 3, none⟩) (Nat.lt_of_lt_of_le hbs hBr.size)).trans e0
      have f1 := (b5.cell (p := ⟨bb, off + k * 3 + 1, none⟩) (Nat.lt_of_lt_of_le hbs hBr.size)).trans e1
      have f2 := (b5.cell (p := ⟨bb, off + k * 3 + 2, none⟩) (Nat.lt_of_lt_of_le hbs hBr.size)).trans e2
      have HB5 := hid (hBr.trans (b5.mono hBr.size))
      have HO5 := hid (owns_below HO.out b5)
      have HC5 := hid (HC.out.trans (ChgS.of_below b5 (fun b => b = g)))
      clear e0 e1 e2 Hcan hBr b5
      cases B with
      | false =>
        have hn : SC = (X, false) := by rw [Hs2.out, ← hS.out]; exact Hno.out (by first | exact rfl | trivial)
        subst hn
        clear Hs2
        have HF := hid (show w5.ownsRow w.heap.size 3 1 (.slice (some ⟨g, 0, none⟩) fs.length gc) X.length (X.flatMap encI) by rw [HX.out]; exact owns_mono HO5.out HB2.out.size)
        go_wp2
        go_ret2
        exact ⟨_, rfl, HF.out, HB5.out⟩
      | true =>
        have Hdo := hid (spec_l12Do0 X ow st es fs.length HX.out w2.heap.size g gc _ w w5 HB5.out hg0 HR2.out HO5.out (fun i hi => HENk.out i hi) (by omega))
        go_wp2_with fail
        refine Hdo.out.mono ?_
        rintro e w6 ⟨rfl, o6, C6⟩
        have HL6 := hid (show (doL X es).length = fs.length by rw [doL_len, HX.out])
        have HO6 := hid o6
        have HC6 := hid (HC5.out.trans C6)
        have HS6 := hid (show Same (serTo (doL X es) ds m (k+1)) (serTo fs ds ds.length 0) from .mk (by rw [← hS.out]; exact (Hyes.out (by first | exact rfl | trivial)).symm))
        clear o6 C6 HO5 hS Hyes Hno f0 f1 f2 HXR HR2r Hdo
        go_wp2
        go_roundw
        case rel => exact ⟨k+1, m, doL X es, by omega, by go_num, HL6, HO6, HC6, HS6.out⟩
        case measure => simp [intOf]; omega
    · obtain rfl : m = 0 := by omega
      have hn : SC = (X, true) := by rw [Hs2.out, ← hS.out]; rfl
      subst hn
      clear Hs2
      have HF := hid (show wr.ownsRow w.heap.size 3 1 (.slice (some ⟨g, 0, none⟩) fs.length gc) X.length (X.flatMap encI) by rw [HX.out]; exact owns_mono HO.out HB2.out.size)
      have hkl : ¬ (k : Int) < (ds.length : Int) := by omega
      go_wp2
      go_ret2
      exact ⟨_, rfl, HF.out, HB.out⟩
end Go.Proofs.Ytbbdchlabdilcaa
