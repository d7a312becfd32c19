/- Chapter 12's program: Serial. -/
import Derived.Test.YtbbdchlabdilcaaI12b
import Derived.Test.YtbbdchlabdilcaaI7d
namespace Go.Proofs.Ytbbdchlabdilcaa
set_option maxRecDepth 100000
open Go.RowKit Go.Proofs Go.Own
open Go Go.BigFrame
set_option linter.unusedVariables false
set_option linter.unusedSimpArgs false
theorem headsGo_mk {ds : List DescD} : ∀ (xs : List Int) (i : Nat), xs.all (inB · (-1000000000) 1000000000) = true → headsGo ds (xs.map mkHd) i = true
  | [], _, _ => rfl
  | x :: xs, i, h => by
    rw [List.all_cons, Bool.and_eq_true] at h
    show (headIn ds i (mkHd x) && headsGo ds (xs.map mkHd) (i+1)) = true
    rw [headsGo_mk xs (i+1) h.2, Bool.and_true]
    unfold headIn mkHd isVal
    dsimp only
    rw [h.1]
    simp [inB]
    omega
theorem args_store (fs : List Int) (ds : List DescD) : args12 fs ds 60 = (newOk fs && storeOk (newH fs) ds) := by
  have e : args12 fs ds 60 = ((newOk fs && !decide ((60 : Int) < (ds.length : Int))) && ds.all (descIn fs.length)) := rfl
  rw [e]
  cases h : newOk fs with
  | false => rfl
  | true =>
    have hn : newH fs = fs.map mkHd := by unfold newH; rw [if_pos h]
    have h2 := h
    unfold newOk at h2
    rw [Bool.and_eq_true] at h2
    unfold storeOk
    rw [hn, List.length_map, h2.1]
    have h3 : headsAt ds (fs.map mkHd) 0 = true := by
      unfold headsAt
      rw [List.drop_zero]
      exact headsGo_mk fs 0 (by have z := h2.2; unfold allIn at z; simpa using z)
    rw [h3]
    simp
set_option maxHeartbeats 8000000 in
theorem impl_serialOk (fs : List Int) (ds : List DescD) (v0 v1 : Value) (w : World) (r0 : rdsL w v0 fs) (r1 : rdsL w v1 ds) (hx : fs.length ≤ 1048576) :
    Calls Try.prog 23 #[v0, v1] w fun e w' => e = .returned (.bool (args12 fs ds 60)) ∧ Below w.heap.size w w' := by
  have R0 := hid r0
  have R1 := hid r1
  obtain ⟨a0, cap0, rfl, hl0, hm0, -⟩ := rdsL_open r0
  obtain ⟨a1, cap1, rfl, hl1, hm1, -⟩ := rdsL_open r1
  have Hu := hid (args_store fs ds)
  generalize args12 fs ds 60 = R at *
  clear r0 r1
  go_enter Try.func23, Try.ntmps23
  go_wp2_with fail
  refine (impl_NewStore0 fs _ _ (rdsInts.1 R0.out) hx).mono ?_
  rintro e w2 ⟨u0, S0, rfl, o0, rg0, b2⟩
  have HB2 := hid b2
  have hR0 := hid o0.rds
  obtain ⟨ua, uc, rfl, -, -, -⟩ := rdsL_open o0.rds
  cases hq : newOk fs with
  | false =>
    have Hn := hid (show R = false by rw [Hu.out, hq]; rfl)
    have HBA := hid (show Below w.heap.size w (w2.alloc (.cells #[Value.slice ua (newH fs).length uc, Value.slice a1 ds.length cap1] 67)) from HB2.out.alloc HB2.out.size _)
    go_wp2
    go_ret
    exact ⟨ret_bool Hn.out.symm, HBA.out⟩
  | true =>
    have Hn := hid (show R = storeOk (newH fs) ds by rw [Hu.out, hq]; rfl)
    have hBA := HB2.out.alloc HB2.out.size (.cells #[Value.slice ua (newH fs).length uc, Value.slice a1 ds.length cap1] 67)
    have hA2 : Below w2.heap.size w2 (w2.alloc (.cells #[Value.slice ua (newH fs).length uc, Value.slice a1 ds.length cap1] 67)) := (Below.refl _ _).alloc (Nat.le_refl _) _
    have Hcall := hid (impl_StoreOk0 (newH fs) ds _ _ _ (rdsL.below o0.rds hA2) (rdsL.below R1.out hBA))
    have HBA := hid hBA
    rw [← Hn.out] at Hcall
    clear hBA hA2 o0 rg0
    go_wp2_with fail
    refine Hcall.out.mono ?_
    rintro e w3 ⟨rfl, b3⟩
    have HB3 := hid (HBA.out.trans (b3.mono HBA.out.size))
    go_wp2
    go_ret
    exact ⟨rfl, HB3.out⟩
set_option maxHeartbeats 8000000 in
theorem impl_Serial0 (fs : List Int) (ds : List DescD) (v0 v1 : Value) (w : World) (h0 : rdsL w v0 fs) (h1 : rdsL w v1 ds) (hx : fs.length ≤ 1048576) (hx1 : ds.length ≤ 1048576) :
    Calls Try.prog 9 #[v0, v1] w fun e w' => ∃ u : Value, e = .returned (.tuple #[u, .bool (serC fs ds).2]) ∧ w'.ownsRow w.heap.size 3 1 u (serC fs ds).1.length ((serC fs ds).1.flatMap encI) ∧ Below w.heap.size w w' := by
  have R0 := hid h0
  have R1 := hid h1
  obtain ⟨a0, cap0, rfl, hl0, hm0, -⟩ := rdsL_open h0
  obtain ⟨a1, cap1, rfl, hl1, hm1, -⟩ := rdsL_open h1
  have Hs := hid (show serC fs ds = if args12 fs ds 60 = true then serTo fs ds ds.length 0 else ([], false) from rfl)
  have Hp := hid (fun (h : args12 fs ds 60 = true) => args12_parts h)
  have Hcall := hid (impl_serialOk fs ds _ _ w h0 h1 hx)
  generalize serC fs ds = SC at *
  generalize args12 fs ds 60 = R at *
  clear h0 h1
  go_enter Try.func9, Try.ntmps9
  go_wp2_with fail
  refine Hcall.out.mono ?_
  rintro e w2 ⟨rfl, b2⟩
  have HB2 := hid b2
  cases R with
  | false =>
    have hn : SC = ([], false) := by rw [Hs.out]; simp
    subst hn
    clear Hs Hp
    go_wp2
    go_ret2
    exact ⟨_, rfl, (⟨rfl, .inl ⟨rfl, rfl⟩⟩ : w2.ownsRow w.heap.size 3 1 (.slice none 0 0) 0 []), HB2.out⟩
  | true =>
  obtain ⟨hf, hen⟩ := Hp.out (by first | exact rfl | trivial)
  have HEN := hid hen
  have hn : SC = serTo fs ds ds.length 0 := by rw [Hs.out]; simp
  subst hn
  clear Hs Hp hen
  go_wp2_with fail
  refine (impl_stateOf fs _ _ (rdsInts.1 (rdsL.below R0.out b2)) (by omega)).mono ?_
  rintro e w3 ⟨u, rfl, o3, b3⟩
  have B3 := b2.trans (b3.mono b2.size)
  have HB3 := hid B3
  obtain ⟨g, gc, rfl, hgc1, hgc2, hg1, hg2, -, -⟩ := owns_at o3 (by omega)
  have hg0 : w.heap.size ≤ g := Nat.le_trans b2.size hg1
  have HO3 := hid o3
  have hd := hid (descsAt_of (g := g) R1.out B3 hg0)
  have Hb := hid (impl_behind0 fs ds fs.length rfl w2.heap.size g gc a1 cap1 w w3 B3 hg0 hd.out hx1 o3 HEN.out hf.1 hf.2)
  clear o3 b2 b3 B3
  go_wp2_with fail
  refine Hb.out.mono ?_
  rintro e w4 ⟨u4, rfl, o4, -, C4⟩
  have HF := hid (below_chg HB3.out C4 HB3.out.size (fun b hb => by omega))
  have O4 := hid (show w4.ownsRow w.heap.size 3 1 u4 (serTo fs ds ds.length 0).1.length ((serTo fs ds ds.length 0).1.flatMap encI) by rw [serTo_len]; exact owns_mono o4 HB3.out.size)
  clear o4 C4
  obtain ⟨ua4, uc4, rfl, -, -⟩ := owns_form O4.out
  go_wp2
  go_ret2
  exact ⟨_, rfl, O4.out, HF.out⟩
end Go.Proofs.Ytbbdchlabdilcaa
