/- Chapter 12's program: OrdersOf. -/
import Derived.Test.YtbbdchlabdilcaaI12o
namespace Go.Proofs.Ytbbdchlabdilcaa
set_option maxRecDepth 100000
open Go.RowKit Go.Proofs Go.Own Go.Ord
open Go Go.BigFrame
set_option linter.unusedVariables false
set_option linter.unusedSimpArgs false
theorem args6 (fs : List Int) (ds : List DescD) : args12 fs ds 6 = (!decide ((6 : Int) < (ds.length : Int)) && args12 fs ds 60) := by
  unfold args12
  by_cases h : (6 : Int) < (ds.length : Int)
  · simp [h]
  · have h2 : ¬ (60 : Int) < (ds.length : Int) := by omega
    simp [h, h2]
theorem descsAt_own {g : Nat} {wA w : World} {B : Nat} {ua : Option Addr} {uc : Nat} {Y : List DX} (h : w.ownsRow B 45 3 (.slice ua Y.length uc) Y.length (Y.flatMap DX.enc)) (hB : g < B) (hY : ∀ x ∈ Y, rdsL wA (.slice x.a x.d.entries_.length x.c) x.d.entries_) : DescsAt g wA w ua (Y.map DX.d) := by
  intro wr C k hk
  rw [List.length_map] at hk
  have hf := flat_chgB (Flat.of_owns h) C (fun b hb => by have z := (World.ownsRow.lt h b hb).1; omega)
  obtain ⟨a, cap, e, -, -, hc⟩ := flat_elem (f := DX.enc) (fun _ => rfl) hf
  obtain rfl : ua = a := by injection e
  obtain ⟨b, off, rfl, hb, hcell⟩ := hc k hk
  refine ⟨b, off, .slice Y[k].a Y[k].d.entries_.length Y[k].c, rfl, ?_, ?_, ?_, ?_⟩
  · rw [List.getElem_map]; exact hcell 0 (by omega)
  · rw [List.getElem_map]; exact hcell 1 (by omega)
  · exact hcell 2 (by omega)
  · rw [List.getElem_map]; exact hY _ (List.getElem_mem hk)
def cntTo (fs : List Int) (ds : List DescD) (k : Nat) : Nat := ((List.range k).map fun q => okN (runG canD dovD fs (ordN ds.length ds q))).sum
theorem cntTo_succ (fs : List Int) (ds : List DescD) (k : Nat) : cntTo fs ds (k+1) = cntTo fs ds k + okN (runG canD dovD fs (ordN ds.length ds k)) := by
  unfold cntTo; rw [List.range_succ, List.map_append, List.sum_append]; simp
theorem cntTo_all (fs : List Int) (ds : List DescD) : cntTo fs ds (facN ds.length) = cntF canD dovD ds ds.length fs (List.replicate ds.length false) := ord_nums fs ds
theorem cntTo_le (fs : List Int) (ds : List DescD) (hd : ds.length ≤ 6) (k : Nat) (hk : k ≤ facN ds.length) : cntTo fs ds k ≤ 720 := by
  have z := range_sum_le (fun q => okN (runG canD dovD fs (ordN ds.length ds q))) (facN ds.length - k) k
  rw [show k + (facN ds.length - k) = facN ds.length by omega] at z
  have y := cntTo_all fs ds
  have x := ords_le (fs := fs) hd
  unfold cntTo at y ⊢
  omega
set_option maxHeartbeats 16000000 in
theorem impl_OrdersOf0 (fs : List Int) (ds : List DescD) (v0 v1 : Value) (w : World) (h0 : rdsL w v0 fs) (h1 : rdsL w v1 ds) (hx : fs.length ≤ 1048576) (hx1 : ds.length ≤ 1048576) :
    Calls Try.prog 16 #[v0, v1] w fun e w' => e = .returned (.tuple #[.int .i64 (ordC fs ds), .bool (args12 fs ds 6)]) ∧ Below w.heap.size w w' := by
  have R0 := hid h0
  have R1 := hid h1
  obtain ⟨P, hPd, hPf, hPe⟩ := dx_list h1
  obtain ⟨a0, cap0, rfl, hl0, hm0, -⟩ := rdsL_open h0
  obtain ⟨a1, cap1, rfl, hl1, hm1, -⟩ := rdsL_open h1
  have Hs := hid (show ordC fs ds = if args12 fs ds 6 = true then ((cntF canD dovD ds ds.length fs (List.replicate ds.length false) : Nat) : Int) else 0 from rfl)
  have Ha := hid (args6 fs ds)
  have Hp := hid (fun (h : args12 fs ds 60 = true) => args12_parts h)
  have Hcall := hid (impl_serialOk fs ds _ _ w h0 h1 hx)
  have HPl := hid (show P.length = ds.length by rw [← hPd, List.length_map])
  have HPd := hid hPd
  have HPf := hid hPf
  have HPe := hid hPe
  generalize ordC fs ds = OC at *
  generalize args12 fs ds 6 = R6 at *
  clear h0 h1 hPd hPf hPe
  have HB0 := Below.refl w.heap.size w
  go_enter Try.func16, Try.ntmps16
  by_cases h6 : (6 : Int) < (ds.length : Int)
  · have hr : R6 = false := by rw [Ha.out, decide_eq_true h6]; rfl
    have hn : OC = 0 := by rw [Hs.out, hr]; simp
    subst hr
    subst hn
    clear Hs Hp Hcall Ha
    go_wp2
    go_ret2
    exact ⟨rfl, HB0⟩
  have Ha2 := hid (show R6 = args12 fs ds 60 by rw [Ha.out, decide_eq_false h6]; rfl)
  generalize args12 fs ds 60 = R at *
  clear Ha
  go_wp2_with fail
  refine Hcall.out.mono ?_
  rintro e w2 ⟨rfl, b2⟩
  have HB2 := hid b2
  cases R with
  | false =>
    have hr : R6 = false := Ha2.out
    have hn : OC = 0 := by rw [Hs.out, hr]; simp
    subst hr
    subst hn
    clear Hs Hp Hcall Ha2
    go_wp2
    go_ret2
    exact ⟨rfl, HB2.out⟩
  | true =>
  obtain ⟨hf, hen⟩ := Hp.out (by first | exact rfl | trivial)
  have HEN := hid hen
  have hr : R6 = true := Ha2.out
  have hn : OC = ((cntF canD dovD ds ds.length fs (List.replicate ds.length false) : Nat) : Int) := by rw [Hs.out, hr]; simp
  subst hr
  subst hn
  have hd6 : ds.length ≤ 6 := by omega
  clear Hs Hp hen Hcall Ha2
  go_wp2_with fail
  refine (impl_stateOf fs _ _ (rdsInts.1 (rdsL.below R0.out b2)) (by omega)).mono ?_
  rintro e w3 ⟨u, rfl, o3, b3⟩
  have HB3 := hid (b2.trans (b3.mono b2.size))
  have hs2 := b2.size
  obtain ⟨gv, gc, rfl, hgc1, hgc2, hgv1, hgv2, -, -⟩ := owns_at o3 (by omega)
  have HO3 := hid o3
  clear o3 b2 b3
  have Hfac := hid (fun w => impl_factorial ds.length hd6 w)
  have Hle := hid (fun k (hk : k ≤ facN ds.length) => cntTo_le fs ds hd6 k hk)
  have Hall := hid (cntTo_all fs ds)
  have hfl := facN_le6 hd6
  go_wp2_with fail
  refine (Hfac.out _).mono ?_
  rintro e w3' ⟨rfl, rfl⟩
  obtain ⟨F, hF⟩ : ∃ F, facN ds.length = F := ⟨_, rfl⟩
  rw [hF] at hfl Hle Hall ⊢
  clear hF Hfac
  go_wp2
  go_loopw [25, 7] (fun i a wr => ∃ k : Nat, k ≤ F ∧ i = .int .i64 k ∧ a = .int .i64 ((cntTo fs ds k : Nat) : Int) ∧ Hid (wr.ownsRow w2.heap.size 3 1 (.slice (some ⟨gv, 0, none⟩) fs.length gc) fs.length (fs.flatMap encI)) ∧ Hid (ChgS (fun b => b = gv) w3 wr)) (fun i _ _ => F - (intOf i).toNat)
  case atStart => exact ⟨0, by omega, rfl, rfl, HO3, hid (ChgS.refl _ _)⟩
  case round =>
    clear HO3
    obtain ⟨k, hk, rfl, rfl, HO, HC⟩ := hrel
    have HBr := hid (below_chg HB3.out HC.out HB3.out.size (fun b hb => by omega))
    have hsr := HC.out.size
    by_cases hlt : k < F
    · have hkF : (k : Int) < (F : Int) := by omega
      have Hcn := hid (cntTo_succ fs ds k)
      have hb720 := hid (Hle.out (k+1) (by omega))
      have Hord := hid (impl_ordered0 P k a1 cap1 wr (by
        have z := Flat.below HPf.out HBr.out
        rw [← HPl.out] at z; exact z) (by rw [HPl.out]; exact hd6) (by omega))
      rw [HPl.out] at Hord
      go_wp2_with fail
      refine Hord.out.mono ?_
      rintro e w5 ⟨ua, uc, rfl, o5, b5⟩
      have HO5 := hid (owns_below HO.out b5)
      have HC5 := hid (HC.out.trans (ChgS.of_below b5 (fun b => b = gv)))
      have HB5 := hid (HBr.out.trans (b5.mono HBr.out.size))
      have Hyl := hid (ordN_len ds.length P k HPl.out)
      have Hym := hid (show (ordN ds.length P k).map DX.d = ordN ds.length ds k by rw [ordN_map, HPd.out])
      have Hdl := hid (ordN_len ds.length ds k rfl)
      have HD5 := hid (show DescsAt gv w w5 ua (ordN ds.length ds k) by
        rw [← Hym.out]
        refine descsAt_own (B := wr.heap.size) (uc := uc) (by rw [Hyl.out]; exact o5) (by omega) (fun x hx => HPe.out x (ordN_mem _ _ _ x hx)))
      have Hob := hid (show ∀ j, (hj : j < (ordN ds.length ds k).length) → ∀ i, (h : i < (ordN ds.length ds k)[j].entries_.length) → 0 ≤ (ordN ds.length ds k)[j].entries_[i].object_ ∧ (ordN ds.length ds k)[j].entries_[i].object_ < (fs.length : Int) from fun j hj => by
        obtain ⟨q, hq, e⟩ := List.mem_iff_getElem.1 (ordN_mem _ _ _ _ (List.getElem_mem hj))
        rw [← e]; exact HEN.out q hq)
      have Hbe := hid (impl_behind0 fs (ordN ds.length ds k) fs.length rfl w2.heap.size gv gc ua uc w w5 HB5.out (by omega) HD5.out (by rw [Hdl.out]; omega) HO5.out Hob.out hf.1 hf.2)
      have Hrun := hid (serTo_run (ordN ds.length ds k) (ordN ds.length ds k).length 0 fs (by omega))
      rw [List.drop_zero] at Hrun
      rw [Hrun.out, Hdl.out] at Hbe
      clear Hord o5 b5 HO HC Hob HD5
      go_wp2_with fail
      refine Hbe.out.mono ?_
      rintro e w6 ⟨u6, rfl, o6, o7, C6⟩
      obtain ⟨ua6, uc6, rfl, -, -⟩ := owns_form o6
      have HO7 := hid o7
      have HC7 := hid (HC5.out.trans C6)
      clear o6 o7 C6 Hbe Hrun
      have hb9 := hb720.out
      rw [Hcn.out] at hb9
      generalize runG canD dovD fs (ordN ds.length ds k) = B at *
      generalize cntTo fs ds k = c at *
      cases B with
      | false =>
        have Hv := hid (show ((c : Nat) : Int) = ((cntTo fs ds (k+1) : Nat) : Int) by rw [Hcn.out]; rfl)
        clear hb9 hb720 Hcn
        go_wp2
        go_roundw
        case rel => exact ⟨k+1, by omega, by go_num, by rw [← Hv.out], HO7, HC7⟩
        case measure => simp [intOf]; omega
      | true =>
        have Hv := hid (show ((c : Nat) : Int) + 1 = ((cntTo fs ds (k+1) : Nat) : Int) by rw [Hcn.out]; rfl)
        have hc9 : ((c : Nat) : Int) + 1 ≤ 720 := by have z : c + 1 ≤ 720 := hb9; omega
        clear hb9 hb720 Hcn
        go_wp2
        go_roundw
        case rel => exact ⟨k+1, by omega, by go_num, by rw [← Hv.out], HO7, HC7⟩
        case measure => simp [intOf]; omega
    · obtain rfl : k = F := by omega
      have hv := Hall.out
      rw [hv]
      clear hv Hall Hle
      go_wp2
      go_ret2
      exact ⟨rfl, HBr.out⟩
end Go.Proofs.Ytbbdchlabdilcaa
