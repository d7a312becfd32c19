/- Chapter 16's model: SetList, SetJoin, SetSame, NewSet. -/
import Derived.Test.YtdgmbcmgjadoiaaS16c
namespace Go.Proofs.Ytdgmbcmgjadoiaa
set_option maxRecDepth 100000
open Go.RowKit Go.Proofs Go.Own
open Go Go.BigFrame
set_option linter.unusedVariables false
set_option linter.unusedSimpArgs false
theorem sortL_snoc (xs : List Int) (x : Int) : sortL (xs ++ [x]) = putL (sortL xs) x := by simp [sortL]
theorem sortL_perm (xs : List Int) : (sortL xs).Perm xs := by
  have h : ∀ (ys acc : List Int), (ys.foldl putL acc).Perm (ys ++ acc) := by
    intro ys
    induction ys with
    | nil => intro acc; exact List.Perm.refl _
    | cons y ys ih => intro acc; exact (ih (putL acc y)).trans (((putL_perm acc y).append_left ys).trans List.perm_middle)
  have := h xs []
  rwa [List.append_nil] at this
theorem sortL_len (xs : List Int) : (sortL xs).length = xs.length := (sortL_perm xs).length_eq
theorem list_no {s : List RowD} (h : setOk s = false) : listC s = [] := by unfold listC; rw [h]; rfl
theorem list_yes {s : List RowD} (h : setOk s = true) : listC s = sortL (allL s) := by unfold listC; rw [h]; rfl
theorem listC_len (s : List RowD) : (listC s).length ≤ (allL s).length := by
  unfold listC; split
  · rw [sortL_len]; exact Nat.le_refl _
  · simp
set_option maxHeartbeats 16000000 in
theorem spec_SetList0 (s : List RowD) (v : Value) (w : World) (h : rdsL w v s) (hb : IntSSB s) :
    Calls Try.prog 32 #[v] w fun e w' => ∃ u, e = .returned u ∧ w'.ownsRow w.heap.size 3 1 u (listC s).length ((listC s).flatMap encI) ∧ Below w.heap.size w w' := by
  have hN : (allL s).length ≤ 1048576 := by rw [allL_len]; unfold IntSSB szIntSSD at hb; omega
  obtain ⟨r1, hr1⟩ : ∃ r, setOk s = r := ⟨_, rfl⟩
  have HOK := hid (fun w (r : rdsL w v s) => spec_SetOkIs s r1 v w r hr1)
  have HR := hid h
  obtain ⟨a, cap, rfl, hl9, hm9, hc⟩ := ss_open h
  have HC := hid hc
  have HT := hid (fun k i (h1 : k < s.length) h2 => Nat.le_trans (allL_take_len s k i h1 h2) hN)
  have HTK := hid (fun k (h1 : k < s.length) => allL_take s k h1)
  have HNO := hid (fun h => list_no (s := s) h)
  have HYES := hid (fun h => list_yes (s := s) h)
  have HAL := hid (show allL (s.take s.length) = allL s by rw [List.take_length])
  have HR1 := hid hr1
  have hsm := hid (show s.length ≤ 1048576 by unfold IntSSB szIntSSD at hb; omega)
  clear h hc hb hr1 hN
  obtain ⟨W1, hW1⟩ : ∃ X, w.alloc (.cells #[] 3) = X := ⟨_, rfl⟩
  have hB1 : Below w.heap.size w W1 := by rw [← hW1]; exact (Below.refl _ _).alloc (Nat.le_refl _) _
  have o1 : W1.ownsRow w.heap.size 3 1 (.slice (some ⟨w.heap.size, 0, none⟩) 0 0) 0 [] := by
    rw [← hW1]; exact owns_litN w 3 1 0 #[] w.heap.size (Nat.le_refl _) rfl (Nat.zero_le _)
  have O1 := hid o1
  have HW1 := hid hW1
  clear hW1 o1
  generalize listC s = LC at *
  go_enter Try.func32, Try.ntmps32
  go_wp2
  rw [HW1.out]
  clear HW1
  go_loopw [4, 3] (fun b u wr => ∃ (k : Nat) (ua : Option Addr) (uc : Nat), k ≤ s.length ∧ b = .int .i64 k ∧ u = .slice ua (sortL (allL (s.take k))).length uc ∧ (0 < k → r1 = true) ∧ Hid (wr.ownsRow w.heap.size 3 1 (.slice ua (sortL (allL (s.take k))).length uc) (sortL (allL (s.take k))).length ((sortL (allL (s.take k))).flatMap encI)) ∧ Below w.heap.size w wr) (fun b _ _ => s.length - (intOf b).toNat)
  case atStart => exact ⟨0, _, _, by omega, rfl, rfl, fun h => by omega, O1, hB1⟩
  case round =>
    clear O1 hB1
    obtain ⟨k, ua, uc, hk, rfl, rfl, hkr, HO, hB⟩ := hrel
    have HKR := hid hkr
    clear hkr
    by_cases hlt : k < s.length
    · have HB := hid hB
      clear hB
      obtain ⟨pre, hpre⟩ : ∃ p, allL (s.take k) = p := ⟨_, rfl⟩
      have HTK2 := hid (HTK.out k hlt)
      have HT2 := hid (fun i h2 => HT.out k i hlt h2)
      obtain ⟨bb, off, b2, c2, xs, hxs, rfl, hbs, c0, hI⟩ := HC.out k hlt
      rw [hxs] at HTK2 HT2
      rw [hpre] at HTK2 HO HT2
      have HPRE := hid hpre
      have C0 := hid c0
      have HII := hid hI
      clear hxs c0 hI HTK HT
      rw [hpre]
      clear hpre
      obtain ⟨Z, hZ⟩ : ∃ Z, sortL pre = Z := ⟨_, rfl⟩
      rw [hZ] at HO
      rw [hZ]
      have HZ := hid hZ
      clear hZ
      go_wp2_with fail
      refine (HOK.out _ (rdsL.below HR.out HB.out)).mono ?_
      rintro e w2 ⟨rfl, b2'⟩
      have HB2 := hid (HB.out.trans (b2'.mono HB.out.size))
      have HO2 := hid (owns_below HO.out b2')
      clear b2' HO HB
      cases r1 with
      | false =>
        have hk0 : k = 0 := by
          rcases Nat.eq_zero_or_pos k with e | e
          · exact e
          · exact absurd (HKR.out e) (by simp)
        have Hx := hid (show LC = [] from HNO.out HR1.out)
        have Hz0 := hid (show Z = [] by rw [← HZ.out, ← HPRE.out, hk0]; rfl)
        clear HC HTK2 HT2 HII C0
        clear hk0
        go_wp2
        go_ret
        exact ⟨_, rfl, by rw [Hx.out]; have z := HO2.out; rw [Hz0.out] at z ⊢; exact z, HB2.out⟩
      | true =>
      obtain ⟨hl3, hm3, hci⟩ := ints_open HII.out
      have HCI := hid hci
      have HZS := hid (show Z = sortL (pre ++ xs.take 0) by rw [List.take_zero, List.append_nil]; exact HZ.out.symm)
      clear hci HII HC
      go_wp2
      go_loopw [5, 3] (fun i u wx => ∃ (q : Nat) (Y : List Int) (ya : Option Addr) (yc : Nat), q ≤ xs.length ∧ i = .int .i64 q ∧ u = .slice ya Y.length yc ∧ Hid (Y = sortL (pre ++ xs.take q)) ∧ Hid (wx.ownsRow w.heap.size 3 1 (.slice ya Y.length yc) Y.length (Y.flatMap encI)) ∧ Below w.heap.size w wx) (fun i _ _ => xs.length - (intOf i).toNat)
      case atStart => exact ⟨0, Z, _, _, by omega, rfl, rfl, HZS, HO2, HB2.out⟩
      case round =>
        clear HO2 HB2 HZS
        obtain ⟨q, Y, ya, yc, hq, rfl, rfl, HY, HO, hB⟩ := hrel
        have q0 := (hB.cell (p := ⟨bb, off + k, none⟩) hbs).trans C0.out
        by_cases hql : q < xs.length
        · obtain ⟨b9, o9, rfl, hb9, c9⟩ := HCI.out q hql
          have r0 := (hB.cell (p := ⟨b9, o9 + q, none⟩) hb9).trans c9
          have Htk := hid (take_snocR xs q hql)
          have HYl := hid (show Y.length ≤ 1048576 by rw [HY.out, sortL_len]; exact HT2.out q hq)
          generalize xs[q] = x at *
          have HY2 := hid (show putL Y x = sortL (pre ++ xs.take (q+1)) by rw [HY.out, ← sortL_snoc, List.append_assoc, Htk.out])
          have HFL := hid (Flat.of_owns HO.out)
          have HB := hid hB
          clear HCI C0 c9 HT2 HTK2 Htk HY hB
          go_wp2_with fail
          refine (spec_l16Put Y x _ _ HFL.out HYl.out).mono ?_
          rintro e w5 ⟨u5, rfl, o5, b5⟩
          generalize putL Y x = Y5 at *
          obtain ⟨p5, c5, rfl, -, -⟩ := owns_form o5
          have hsB := HB.out.size
          have HO5 := hid (owns_base o5 (fun b hb => Nat.le_trans hsB (World.ownsRow.lt o5 b hb).1))
          have HB5 := hid (HB.out.trans (b5.mono HB.out.size))
          clear o5 b5 HFL HO HB q0 r0
          go_wp2
          go_roundw
          case rel => exact ⟨q+1, Y5, _, _, by omega, by go_num, rfl, HY2, HO5, HB5.out⟩
          case measure => simp [intOf]; omega
        · obtain rfl : q = xs.length := by omega
          have HX9 := hid (show Y = sortL (allL (s.take (k+1))) by rw [HY.out, List.take_length, HTK2.out])
          clear HY HT2 HCI HTK2
          go_wp2
          go_roundw
          case rel => exact ⟨k+1, _, _, by omega, by go_num, congrArg (fun Y => Value.slice ya (List.length Y) yc) HX9.out, (by intros; first | rfl | trivial), hid (by rw [← HX9.out]; exact HO.out), hB⟩
          case measure => simp [intOf]; omega
    · obtain rfl : k = s.length := by omega
      have Hx := hid (show LC = sortL (allL (s.take s.length)) by
        cases r1 with
        | true => rw [HAL.out]; exact HYES.out HR1.out
        | false =>
          have h0 : s.length = 0 := by
            rcases Nat.eq_zero_or_pos s.length with e | e
            · exact e
            · exact absurd (HKR.out e) (by simp)
          rw [HNO.out HR1.out, h0]; rfl)
      rw [← Hx.out] at HO ⊢
      clear HC HT HTK
      go_wp2
      go_ret
      exact ⟨_, rfl, HO.out, hB⟩
end Go.Proofs.Ytdgmbcmgjadoiaa
