/- Chapter 15's program: TreeBuild. -/
import Derived.Test.YtdgmbcmgjadoiaaI15z
import Derived.Test.YtdgmbcmgjadoiaaI15k
import Derived.Test.YtdgmbcmgjadoiaaI15s
import Derived.Test.YtdgmbcmgjadoiaaS15z
namespace Go.Proofs.Ytdgmbcmgjadoiaa
set_option maxRecDepth 100000
open Go.RowKit Go.Proofs Go.Own
open Go Go.BigFrame
set_option linter.unusedVariables false
set_option linter.unusedSimpArgs false
theorem impl_isVal15 (x : Int) (r : Bool) (w : World) (e : isVal x = r) :
    Calls Try.prog 66 #[.int .i64 x] w fun e w' => e = .returned (.bool r) ∧ w = w' := by
  subst e
  go_enter Try.func66, Try.ntmps66
  go_wp2
  all_goals go_ret
  all_goals (simp [isVal, inB, *]; try omega)
theorem all_no15 {xs : List Int} {k : Nat} (h : k < xs.length) (hv : isVal xs[k] = false) : xs.all isVal = false := by
  rw [Bool.eq_false_iff]; intro h9
  rw [List.all_eq_true] at h9
  have := h9 _ (List.getElem_mem h)
  rw [hv] at this; cases this
theorem impl_allVal15 (v : Value) (xs : List Int) (w : World) (h : Ints w v xs) :
    Calls Try.prog 44 #[v] w fun e w' => e = .returned (.bool (xs.all isVal)) ∧ w = w' := by
  obtain ⟨ad, cap, rfl, hl, hm, hc⟩ := h.open
  have HC := hid hc
  have HNO := hid (fun k (hk : k < xs.length) hv => all_no15 (k := k) hk hv)
  have hlen : xs.length ≤ 9223372036854775807 := by omega
  have Hd := hid (show xs.all isVal = true ↔ ∀ j (hj : j < xs.length), isVal xs[j] = true from by
    rw [List.all_eq_true]
    exact ⟨fun h j hj => h _ (List.getElem_mem hj), fun h y hy => by obtain ⟨i, hi, rfl⟩ := List.getElem_of_mem hy; exact h i hi⟩)
  generalize xs.all isVal = R at *
  clear h hc
  go_enter Try.func44, Try.ntmps44
  go_wp2
  go_loopw [7] (fun i wr => ∃ k : Nat, k ≤ xs.length ∧ i = .int .i64 k ∧ Hid (∀ j (hj : j < xs.length), j < k → isVal xs[j] = true) ∧ Hid (wr = w)) (fun i _ => xs.length - (intOf i).toNat)
  case atStart => exact ⟨0, by omega, rfl, hid (fun j h h2 => by omega), hid rfl⟩
  case round =>
    obtain ⟨k, hk, rfl, HK, HW⟩ := hrel
    obtain rfl := HW.out
    by_cases hlt : k < xs.length
    · obtain ⟨bb, off, rfl, hbs, hcell⟩ := HC.out k hlt
      have HN1 := hid (fun hv => HNO.out k hlt hv)
      have HY1 := hid (fun (hv : isVal xs[k] = true) j (hj : j < xs.length) (hjk : j < k + 1) => (show isVal xs[j] = true from by
        by_cases e : j = k
        · subst e; exact hv
        · exact HK.out j hj (by omega)))
      obtain ⟨x, hx⟩ : ∃ x, xs[k] = x := ⟨_, rfl⟩
      rw [hx] at hcell HN1 HY1
      obtain ⟨r, hr⟩ : ∃ r, isVal x = r := ⟨_, rfl⟩
      have HV := hid (fun w => impl_isVal15 x r w hr)
      have HRr := hid hr
      clear HC HK HNO hx hr
      go_wp2_with fail
      refine (HV.out _).mono ?_
      rintro e w2 ⟨rfl, rfl⟩
      cases r with
      | true =>
        have Hz := hid (HY1.out HRr.out)
        go_wp2
        go_roundw
        case rel => exact ⟨k+1, by omega, by go_num, Hz, hid (by first | rfl | trivial)⟩
        case measure => simp [intOf]; omega
      | false =>
        have Hx := hid (HN1.out HRr.out)
        go_wp2
        go_ret
        exact ⟨ret_bool Hx.out.symm, rfl⟩
    · obtain rfl : k = xs.length := by omega
      have Hx := hid (Hd.out.2 fun j hj => HK.out j hj hj)
      clear HC HK HNO
      go_wp2
      go_ret
      exact ⟨ret_bool Hx.out.symm, rfl⟩
set_option maxHeartbeats 8000000 in
theorem impl_TreeBuild0 (ks : List Int) (v : Value) (w : World) (hv : Ints w v ks) :
    Calls Try.prog 14 #[v] w fun e w' => e = .returned (.tuple #[.agg (buildC ks).1.enc.toArray, .bool (buildC ks).2]) ∧ Below w.heap.size w w' := by
  obtain ⟨W1, hW1⟩ : ∃ X, w.alloc (.cells #[.bool false, .int .i64 0, .int .i64 0, .int .i64 0, .bool false, .int .i64 0, .int .i64 0, .int .i64 0, .bool false, .int .i64 0, .int .i64 0, .int .i64 0, .bool false, .int .i64 0, .int .i64 0, .int .i64 0, .bool false, .int .i64 0, .int .i64 0, .int .i64 0, .bool false, .int .i64 0, .int .i64 0, .int .i64 0, .bool false, .int .i64 0, .int .i64 0, .int .i64 0, .bool false, .int .i64 0, .int .i64 0, .int .i64 0, .bool false, .int .i64 0, .int .i64 0, .int .i64 0, .bool false, .int .i64 0, .int .i64 0, .int .i64 0, .bool false, .int .i64 0, .int .i64 0, .int .i64 0, .bool false, .int .i64 0, .int .i64 0, .int .i64 0, .bool false, .int .i64 0, .int .i64 0, .int .i64 0, .bool false, .int .i64 0, .int .i64 0, .int .i64 0, .bool false, .int .i64 0, .int .i64 0, .int .i64 0, .bool false, .int .i64 0, .int .i64 0, .int .i64 0, .int .i64 0] 27) = X := ⟨_, rfl⟩
  have hB1 : Below w.heap.size w W1 := by rw [← hW1]; exact (Below.refl _ _).alloc (Nat.le_refl _) _
  have RB : Hid (BoxF W1 w.heap.size [.bool false, .int .i64 0, .int .i64 0, .int .i64 0, .bool false, .int .i64 0, .int .i64 0, .int .i64 0, .bool false, .int .i64 0, .int .i64 0, .int .i64 0, .bool false, .int .i64 0, .int .i64 0, .int .i64 0, .bool false, .int .i64 0, .int .i64 0, .int .i64 0, .bool false, .int .i64 0, .int .i64 0, .int .i64 0, .bool false, .int .i64 0, .int .i64 0, .int .i64 0, .bool false, .int .i64 0, .int .i64 0, .int .i64 0, .bool false, .int .i64 0, .int .i64 0, .int .i64 0, .bool false, .int .i64 0, .int .i64 0, .int .i64 0, .bool false, .int .i64 0, .int .i64 0, .int .i64 0, .bool false, .int .i64 0, .int .i64 0, .int .i64 0, .bool false, .int .i64 0, .int .i64 0, .int .i64 0, .bool false, .int .i64 0, .int .i64 0, .int .i64 0, .bool false, .int .i64 0, .int .i64 0, .int .i64 0, .bool false, .int .i64 0, .int .i64 0, .int .i64 0, .int .i64 0]) := by
    rw [← hW1]; exact hid (BoxF.alloc w #[.bool false, .int .i64 0, .int .i64 0, .int .i64 0, .bool false, .int .i64 0, .int .i64 0, .int .i64 0, .bool false, .int .i64 0, .int .i64 0, .int .i64 0, .bool false, .int .i64 0, .int .i64 0, .int .i64 0, .bool false, .int .i64 0, .int .i64 0, .int .i64 0, .bool false, .int .i64 0, .int .i64 0, .int .i64 0, .bool false, .int .i64 0, .int .i64 0, .int .i64 0, .bool false, .int .i64 0, .int .i64 0, .int .i64 0, .bool false, .int .i64 0, .int .i64 0, .int .i64 0, .bool false, .int .i64 0, .int .i64 0, .int .i64 0, .bool false, .int .i64 0, .int .i64 0, .int .i64 0, .bool false, .int .i64 0, .int .i64 0, .int .i64 0, .bool false, .int .i64 0, .int .i64 0, .int .i64 0, .bool false, .int .i64 0, .int .i64 0, .int .i64 0, .bool false, .int .i64 0, .int .i64 0, .int .i64 0, .bool false, .int .i64 0, .int .i64 0, .int .i64 0, .int .i64 0] 27)
  have hz : ∀ w : World, (zeroValue 27).run Try.prog w = .ok (.agg #[.bool false, .int .i64 0, .int .i64 0, .int .i64 0, .bool false, .int .i64 0, .int .i64 0, .int .i64 0, .bool false, .int .i64 0, .int .i64 0, .int .i64 0, .bool false, .int .i64 0, .int .i64 0, .int .i64 0, .bool false, .int .i64 0, .int .i64 0, .int .i64 0, .bool false, .int .i64 0, .int .i64 0, .int .i64 0, .bool false, .int .i64 0, .int .i64 0, .int .i64 0, .bool false, .int .i64 0, .int .i64 0, .int .i64 0, .bool false, .int .i64 0, .int .i64 0, .int .i64 0, .bool false, .int .i64 0, .int .i64 0, .int .i64 0, .bool false, .int .i64 0, .int .i64 0, .int .i64 0, .bool false, .int .i64 0, .int .i64 0, .int .i64 0, .bool false, .int .i64 0, .int .i64 0, .int .i64 0, .bool false, .int .i64 0, .int .i64 0, .int .i64 0, .bool false, .int .i64 0, .int .i64 0, .int .i64 0, .bool false, .int .i64 0, .int .i64 0, .int .i64 0, .int .i64 0]) w := fun w => zero_run w (by kernel_rfl)
  obtain ⟨a, cap, rfl, hl9, hm9, hcx⟩ := Ints.open hv
  have HV := hid hv
  have HB := hid hB1
  have HW1 := hid hW1
  have HAV := hid (fun (W : World) (hb : Below w.heap.size w W) => impl_allVal15 _ ks W (Ints.below hv hb))
  have HIA := hid (fun (W : World) (hb : Below w.heap.size w W) => impl_isAscending0 _ ks W (Ints.below hv hb))
  have HNT := hid (fun (W : World) => impl_NewTree0 W)
  have hlN := tree_len newTr_len
  have honeN := tree_one newTr
  obtain ⟨nn, hnn⟩ : ∃ X, ks.length = X := ⟨_, rfl⟩
  obtain ⟨ba, hba⟩ : ∃ X, ks.all isVal = X := ⟨_, rfl⟩
  obtain ⟨aa, haa⟩ : ∃ X, ascI ks = X := ⟨_, rfl⟩
  rw [hba] at HAV
  rw [haa] at HIA
  have HN := hid hnn
  have HBA := hid hba
  have HAA := hid haa
  rw [hnn] at HAV HIA hl9 ⊢
  obtain ⟨CE, hCE⟩ : ∃ X, newTr.enc = X := ⟨_, rfl⟩
  rw [hCE] at hlN honeN HNT
  have HCEn := hid hCE
  have HNO := hid (fun (h : ¬ (nn ≤ 16 ∧ ba = true ∧ aa = true)) => (show (buildC ks).1.enc = CE ∧ (buildC ks).2 = false by rw [buildC_no (by rw [hnn, hba, haa]; exact h)]; exact ⟨hCE, rfl⟩))
  have HYS := hid (fun (h : nn ≤ 16 ∧ ba = true ∧ aa = true) => (show (buildC ks).1.enc = encT (buildT 16 (List.replicate 16 zTwig) ks 0) (rootB ks 0) ∧ (buildC ks).2 = true by rw [buildC_yes (by rw [hnn, hba, haa]; exact h)]; exact ⟨rfl, rfl⟩))
  clear hW1 hB1 hv hCE hba haa hnn hcx
  go_enter Try.func14, Try.ntmps14
  go_upto_region 1 with fail
  rw [HW1.out]
  go_wp2_with (first
    | (go_at_call 43; refine (HNT.out _).mono ?_; rintro e w4 ⟨rfl, b4⟩; have TB4 := hid (BoxF.alloc w4 #[.bool false, .int .i64 0, .int .i64 0, .int .i64 0, .bool false, .int .i64 0, .int .i64 0, .int .i64 0, .bool false, .int .i64 0, .int .i64 0, .int .i64 0, .bool false, .int .i64 0, .int .i64 0, .int .i64 0, .bool false, .int .i64 0, .int .i64 0, .int .i64 0, .bool false, .int .i64 0, .int .i64 0, .int .i64 0, .bool false, .int .i64 0, .int .i64 0, .int .i64 0, .bool false, .int .i64 0, .int .i64 0, .int .i64 0, .bool false, .int .i64 0, .int .i64 0, .int .i64 0, .bool false, .int .i64 0, .int .i64 0, .int .i64 0, .bool false, .int .i64 0, .int .i64 0, .int .i64 0, .bool false, .int .i64 0, .int .i64 0, .int .i64 0, .bool false, .int .i64 0, .int .i64 0, .int .i64 0, .bool false, .int .i64 0, .int .i64 0, .int .i64 0, .bool false, .int .i64 0, .int .i64 0, .int .i64 0, .bool false, .int .i64 0, .int .i64 0, .int .i64 0, .int .i64 0] 27); have B5 := b4.alloc b4.size (.cells #[.bool false, .int .i64 0, .int .i64 0, .int .i64 0, .bool false, .int .i64 0, .int .i64 0, .int .i64 0, .bool false, .int .i64 0, .int .i64 0, .int .i64 0, .bool false, .int .i64 0, .int .i64 0, .int .i64 0, .bool false, .int .i64 0, .int .i64 0, .int .i64 0, .bool false, .int .i64 0, .int .i64 0, .int .i64 0, .bool false, .int .i64 0, .int .i64 0, .int .i64 0, .bool false, .int .i64 0, .int .i64 0, .int .i64 0, .bool false, .int .i64 0, .int .i64 0, .int .i64 0, .bool false, .int .i64 0, .int .i64 0, .int .i64 0, .bool false, .int .i64 0, .int .i64 0, .int .i64 0, .bool false, .int .i64 0, .int .i64 0, .int .i64 0, .bool false, .int .i64 0, .int .i64 0, .int .i64 0, .bool false, .int .i64 0, .int .i64 0, .int .i64 0, .bool false, .int .i64 0, .int .i64 0, .int .i64 0, .bool false, .int .i64 0, .int .i64 0, .int .i64 0, .int .i64 0] 27); have RB5 := hid (RB.out.below B5); have HB5 := hid (HB.out.trans (B5.mono HB.out.size)); have h49 := b4.size; clear B5 b4)
    | (refine wpList_store_box rfl 27 _ _ rfl w4.heap.size [.bool false, .int .i64 0, .int .i64 0, .int .i64 0, .bool false, .int .i64 0, .int .i64 0, .int .i64 0, .bool false, .int .i64 0, .int .i64 0, .int .i64 0, .bool false, .int .i64 0, .int .i64 0, .int .i64 0, .bool false, .int .i64 0, .int .i64 0, .int .i64 0, .bool false, .int .i64 0, .int .i64 0, .int .i64 0, .bool false, .int .i64 0, .int .i64 0, .int .i64 0, .bool false, .int .i64 0, .int .i64 0, .int .i64 0, .bool false, .int .i64 0, .int .i64 0, .int .i64 0, .bool false, .int .i64 0, .int .i64 0, .int .i64 0, .bool false, .int .i64 0, .int .i64 0, .int .i64 0, .bool false, .int .i64 0, .int .i64 0, .int .i64 0, .bool false, .int .i64 0, .int .i64 0, .int .i64 0, .bool false, .int .i64 0, .int .i64 0, .int .i64 0, .bool false, .int .i64 0, .int .i64 0, .int .i64 0, .bool false, .int .i64 0, .int .i64 0, .int .i64 0, .int .i64 0] CE (by exact TB4.out) rfl rfl (by rw [hlN]; rfl) (by rw [hlN]; kernel_rfl) honeN ?_))
  intro w7 o7 C7
  have hne : w.heap.size < w4.heap.size := by have := RB.out.1.1; omega
  have TB7 := hid o7
  have RB7 := hid (RB5.out.chg C7 (by omega))
  have HB7 := hid (below_chg HB5.out C7 HB5.out.size (fun b hb => by omega))
  clear o7 C7 RB5 HB5 TB4 h49
  by_cases hgt : (nn : Int) > 16
  · have HR := HNO.out (fun h => absurd h.1 (by omega))
    have HR1 := hid HR.1
    have HR2 := hid HR.2
    clear HR HNO HYS
    go_wp2_with (first | (refine wpList_load_boxg rfl 27 _ rfl w4.heap.size CE (by exact TB7.out.1) rfl _ Try.underlying27 rfl (by rw [hlN]; kernel_rfl) ?_) | (refine wpList_store_box rfl 27 _ _ rfl w.heap.size [.bool false, .int .i64 0, .int .i64 0, .int .i64 0, .bool false, .int .i64 0, .int .i64 0, .int .i64 0, .bool false, .int .i64 0, .int .i64 0, .int .i64 0, .bool false, .int .i64 0, .int .i64 0, .int .i64 0, .bool false, .int .i64 0, .int .i64 0, .int .i64 0, .bool false, .int .i64 0, .int .i64 0, .int .i64 0, .bool false, .int .i64 0, .int .i64 0, .int .i64 0, .bool false, .int .i64 0, .int .i64 0, .int .i64 0, .bool false, .int .i64 0, .int .i64 0, .int .i64 0, .bool false, .int .i64 0, .int .i64 0, .int .i64 0, .bool false, .int .i64 0, .int .i64 0, .int .i64 0, .bool false, .int .i64 0, .int .i64 0, .int .i64 0, .bool false, .int .i64 0, .int .i64 0, .int .i64 0, .bool false, .int .i64 0, .int .i64 0, .int .i64 0, .bool false, .int .i64 0, .int .i64 0, .int .i64 0, .bool false, .int .i64 0, .int .i64 0, .int .i64 0, .int .i64 0] CE (by exact RB7.out) rfl rfl (by rw [hlN]; rfl) (by rw [hlN]; kernel_rfl) honeN ?_))
    intro w9 o9 C9
    have O9 := hid o9
    have HB9 := hid (below_chg HB7.out C9 HB7.out.size (fun b hb => by omega))
    clear o9 C9
    go_wp2
    exact bodyPost_ret (results_box2 rfl _ _ w.heap.size CE rfl O9.out _ Try.underlying27 rfl (by rw [hlN]; kernel_rfl)) rfl ⟨by rw [HR1.out, HR2.out]; rfl, HB9.out⟩
  · cases ba with
    | false =>
      have HR := HNO.out (fun h => by cases h.2.1)
      have HR1 := hid HR.1
      have HR2 := hid HR.2
      clear HR HNO HYS
      go_wp2_with (first | (go_at_call 44; refine (HAV.out _ HB7.out).mono ?_; rintro e w8 ⟨rfl, rfl⟩) | (refine wpList_load_boxg rfl 27 _ rfl w4.heap.size CE (by exact TB7.out.1) rfl _ Try.underlying27 rfl (by rw [hlN]; kernel_rfl) ?_) | (refine wpList_store_box rfl 27 _ _ rfl w.heap.size [.bool false, .int .i64 0, .int .i64 0, .int .i64 0, .bool false, .int .i64 0, .int .i64 0, .int .i64 0, .bool false, .int .i64 0, .int .i64 0, .int .i64 0, .bool false, .int .i64 0, .int .i64 0, .int .i64 0, .bool false, .int .i64 0, .int .i64 0, .int .i64 0, .bool false, .int .i64 0, .int .i64 0, .int .i64 0, .bool false, .int .i64 0, .int .i64 0, .int .i64 0, .bool false, .int .i64 0, .int .i64 0, .int .i64 0, .bool false, .int .i64 0, .int .i64 0, .int .i64 0, .bool false, .int .i64 0, .int .i64 0, .int .i64 0, .bool false, .int .i64 0, .int .i64 0, .int .i64 0, .bool false, .int .i64 0, .int .i64 0, .int .i64 0, .bool false, .int .i64 0, .int .i64 0, .int .i64 0, .bool false, .int .i64 0, .int .i64 0, .int .i64 0, .bool false, .int .i64 0, .int .i64 0, .int .i64 0, .bool false, .int .i64 0, .int .i64 0, .int .i64 0, .int .i64 0] CE (by exact RB7.out) rfl rfl (by rw [hlN]; rfl) (by rw [hlN]; kernel_rfl) honeN ?_))
      intro w9 o9 C9
      have O9 := hid o9
      have HB9 := hid (below_chg HB7.out C9 HB7.out.size (fun b hb => by omega))
      clear o9 C9
      go_wp2
      exact bodyPost_ret (results_box2 rfl _ _ w.heap.size CE rfl O9.out _ Try.underlying27 rfl (by rw [hlN]; kernel_rfl)) rfl ⟨by rw [HR1.out, HR2.out]; rfl, HB9.out⟩
    | true =>
      cases aa with
      | false =>
        have HR := HNO.out (fun h => by cases h.2.2)
        have HR1 := hid HR.1
        have HR2 := hid HR.2
        clear HR HNO HYS
        go_wp2_with (first | (go_at_call 44; refine (HAV.out _ HB7.out).mono ?_; rintro e w8 ⟨rfl, rfl⟩) | (go_at_call 45; refine (HIA.out _ HB7.out).mono ?_; rintro e w8 ⟨rfl, b8⟩; have TB7 := hid (TB7.out.below b8); have RB7 := hid (RB7.out.below b8); have HB7 := hid (HB7.out.trans (b8.mono HB7.out.size)); clear b8) | (refine wpList_load_boxg rfl 27 _ rfl w4.heap.size CE (by exact TB7.out.1) rfl _ Try.underlying27 rfl (by rw [hlN]; kernel_rfl) ?_) | (refine wpList_store_box rfl 27 _ _ rfl w.heap.size [.bool false, .int .i64 0, .int .i64 0, .int .i64 0, .bool false, .int .i64 0, .int .i64 0, .int .i64 0, .bool false, .int .i64 0, .int .i64 0, .int .i64 0, .bool false, .int .i64 0, .int .i64 0, .int .i64 0, .bool false, .int .i64 0, .int .i64 0, .int .i64 0, .bool false, .int .i64 0, .int .i64 0, .int .i64 0, .bool false, .int .i64 0, .int .i64 0, .int .i64 0, .bool false, .int .i64 0, .int .i64 0, .int .i64 0, .bool false, .int .i64 0, .int .i64 0, .int .i64 0, .bool false, .int .i64 0, .int .i64 0, .int .i64 0, .bool false, .int .i64 0, .int .i64 0, .int .i64 0, .bool false, .int .i64 0, .int .i64 0, .int .i64 0, .bool false, .int .i64 0, .int .i64 0, .int .i64 0, .bool false, .int .i64 0, .int .i64 0, .int .i64 0, .bool false, .int .i64 0, .int .i64 0, .int .i64 0, .bool false, .int .i64 0, .int .i64 0, .int .i64 0, .int .i64 0] CE (by exact RB7.out) rfl rfl (by rw [hlN]; rfl) (by rw [hlN]; kernel_rfl) honeN ?_))
        intro w9 o9 C9
        have O9 := hid o9
        have HB9 := hid (below_chg HB7.out C9 HB7.out.size (fun b hb => by omega))
        clear o9 C9
        go_wp2
        exact bodyPost_ret (results_box2 rfl _ _ w.heap.size CE rfl O9.out _ Try.underlying27 rfl (by rw [hlN]; kernel_rfl)) rfl ⟨by rw [HR1.out, HR2.out]; rfl, HB9.out⟩
      | true =>
        have hn16 : nn ≤ 16 := by omega
        have hn16i : (nn : Int) ≤ 16 := by omega
        have HY := HYS.out ⟨hn16, rfl, rfl⟩
        have HBD := hid (fun (W : World) (hB : BoxF W w4.heap.size CE) (hb : Below w.heap.size w W) => (show Calls Try.prog 46 #[.pointer (some ⟨w4.heap.size, 0, none⟩), .slice a nn cap, .int .i64 0] W fun e w' => e = .returned (.int .i64 (rootB ks 0)) ∧ BoxF w' w4.heap.size (encT (buildT 16 (List.replicate 16 zTwig) ks 0) (-1)) ∧ ChgS (fun k => k = w4.heap.size) W w' from by
          have z := impl_build 16 w4.heap.size (List.replicate 16 zTwig) rfl (-1) ks nn 0 0 (.slice a nn cap) W HN.out rfl hn16 (by omega) (by rw [show encT (List.replicate 16 zTwig) (-1) = CE from HCEn.out]; exact hB) (fun W2 hC => by
            have z := Ints.below HV.out (below_chg hb hC hb.size (fun b hb => by omega))
            rw [HN.out] at z
            exact z)
          exact z))
        have hT16 : (buildT 16 (List.replicate 16 zTwig) ks 0).length = 16 := (buildT_len _ _ _ _).trans rfl
        obtain ⟨TL, hTL⟩ : ∃ X, buildT 16 (List.replicate 16 zTwig) ks 0 = X := ⟨_, rfl⟩
        obtain ⟨rt, hrt⟩ : ∃ X, rootB ks 0 = X := ⟨_, rfl⟩
        rw [hTL, hrt] at HBD HY
        rw [hTL] at hT16
        have hl0 : (encT TL (-1)).length = 65 := tree_len (c := ⟨TL, -1⟩) hT16
        have hl1 : (encT TL rt).length = 65 := tree_len (c := ⟨TL, rt⟩) hT16
        have hone1 : (encT TL rt).all (·.oneCell') = true := tree_one ⟨TL, rt⟩
        have HT16 := hid hT16
        have HSET := hid (show (encT TL (-1)).set 64 (.int .i64 rt) = encT TL rt by
          show (TL.flatMap Twig.enc ++ [Value.int .i64 (-1)]).set 64 (.int .i64 rt) = TL.flatMap Twig.enc ++ [Value.int .i64 rt]
          have z : (TL.flatMap Twig.enc).length = 64 := by rw [flatMap_len Twig.enc 4 (fun _ => rfl), hT16]
          rw [List.set_append_right _ _ (by omega), z]; rfl)
        obtain ⟨C0, hC0⟩ : ∃ X, encT TL (-1) = X := ⟨_, rfl⟩
        obtain ⟨CF, hCF⟩ : ∃ X, encT TL rt = X := ⟨_, rfl⟩
        have HC0 := hid hC0
        rw [hC0] at HBD hl0 HSET
        rw [hCF] at HY hl1 hone1 HSET
        have HR1 := hid HY.1
        have HR2 := hid HY.2
        clear hC0 hCF hTL hrt hT16 HY HYS HNO
        go_wp2_with (first
          | (go_at_call 44; refine (HAV.out _ HB7.out).mono ?_; rintro e w8 ⟨rfl, rfl⟩)
          | (go_at_call 45; refine (HIA.out _ HB7.out).mono ?_; rintro e w8 ⟨rfl, b8⟩; have TB7 := hid (TB7.out.below b8); have RB7 := hid (RB7.out.below b8); have HB7 := hid (HB7.out.trans (b8.mono HB7.out.size)); clear b8)
          | (go_at_call 46; refine (HBD.out _ TB7.out HB7.out).mono ?_; rintro e w9 ⟨rfl, B9, G9⟩; have RB9 := RB7.out.chg G9 (by omega); have HB9 := below_chg HB7.out G9 HB7.out.size (fun b hb => by omega); have c64 : w9.cell? ⟨w4.heap.size, 64, none⟩ = some (.int .i64 (-1)) := tree_root (L := TL) (r := -1) (by (rw [show TreeD.enc ⟨TL, -1⟩ = C0 from HC0.out]; exact B9)) HT16.out; have f64 : w9.frozen? ⟨w4.heap.size, 64, none⟩ = false := B9.2 64 (by omega); have C8 : ChgS (fun k => k = w4.heap.size) w9 (w9.setCell ⟨w4.heap.size, 64, none⟩ (.int .i64 rt)) := (ChgS.refl (fun k => k = w4.heap.size) w9).set ⟨w4.heap.size, 64, none⟩ _ rfl; have TB8 := hid (show BoxF (w9.setCell ⟨w4.heap.size, 64, none⟩ (.int .i64 rt)) w4.heap.size CF by (rw [← HSET.out]; exact B9.set 64 (by omega) _)); have RB8 := hid (RB9.chg C8 (by omega)); have HB7 := hid (below_chg HB9 C8 HB9.size (fun b hb => by omega)); clear B9 G9 RB9 HB9 C8)
          | (refine wpList_load_boxg rfl 27 _ rfl w4.heap.size CF (by exact TB8.out.1) rfl _ Try.underlying27 rfl (by rw [hl1]; kernel_rfl) ?_)
          | (refine wpList_store_box rfl 27 _ _ rfl w.heap.size [.bool false, .int .i64 0, .int .i64 0, .int .i64 0, .bool false, .int .i64 0, .int .i64 0, .int .i64 0, .bool false, .int .i64 0, .int .i64 0, .int .i64 0, .bool false, .int .i64 0, .int .i64 0, .int .i64 0, .bool false, .int .i64 0, .int .i64 0, .int .i64 0, .bool false, .int .i64 0, .int .i64 0, .int .i64 0, .bool false, .int .i64 0, .int .i64 0, .int .i64 0, .bool false, .int .i64 0, .int .i64 0, .int .i64 0, .bool false, .int .i64 0, .int .i64 0, .int .i64 0, .bool false, .int .i64 0, .int .i64 0, .int .i64 0, .bool false, .int .i64 0, .int .i64 0, .int .i64 0, .bool false, .int .i64 0, .int .i64 0, .int .i64 0, .bool false, .int .i64 0, .int .i64 0, .int .i64 0, .bool false, .int .i64 0, .int .i64 0, .int .i64 0, .bool false, .int .i64 0, .int .i64 0, .int .i64 0, .bool false, .int .i64 0, .int .i64 0, .int .i64 0, .int .i64 0] CF (by exact RB8.out) rfl rfl (by rw [hl1]; rfl) (by rw [hl1]; kernel_rfl) hone1 ?_))
        intro w9 o9 C9
        have O9 := hid o9
        have HB9 := hid (below_chg HB7.out C9 HB7.out.size (fun b hb => by omega))
        clear o9 C9
        go_wp2
        exact bodyPost_ret (results_box2 rfl _ _ w.heap.size CF rfl O9.out _ Try.underlying27 rfl (by rw [hl1]; kernel_rfl)) rfl ⟨by rw [HR1.out, HR2.out]; rfl, HB9.out⟩
end Go.Proofs.Ytdgmbcmgjadoiaa
