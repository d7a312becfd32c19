/- Chapter 16's model: SetSame, NewSet. -/
import Derived.Test.YtdgmbcmgjadoiaaS16e
namespace Go.Proofs.Ytdgmbcmgjadoiaa
set_option maxRecDepth 100000
open Go.RowKit Go.Proofs Go.Own
open Go Go.BigFrame
set_option linter.unusedVariables false
set_option linter.unusedSimpArgs false
/-- Two lists alike up to a place. -/
def sameTo (xs ys : List Int) (k : Nat) : Prop := ∀ j, j < k → (h : j < xs.length) → (h2 : j < ys.length) → xs[j] = ys[j]
theorem same_no1 {a b : List RowD} (h : (setOk a && setOk b) = false) : sameC a b = false := by unfold sameC; rw [h]; rfl
theorem same_eq {a b : List RowD} (h : (setOk a && setOk b) = true) : sameC a b = decide (listC a = listC b) := by unfold sameC; rw [h]; rfl
set_option maxHeartbeats 16000000 in
theorem spec_SetSame0 (sa sb : List RowD) (va vb : Value) (w : World) (ha : rdsL w va sa) (hb : rdsL w vb sb) (hba : IntSSB sa) (hbb : IntSSB sb) :
    Calls Try.prog 38 #[va, vb] w fun e w' => e = .returned (.bool (sameC sa sb)) ∧ Below w.heap.size w w' := by
  obtain ⟨A, hA⟩ : ∃ A, sameC sa sb = A := ⟨_, rfl⟩
  obtain ⟨r1, hr1⟩ : ∃ r, setOk sa = r := ⟨_, rfl⟩
  obtain ⟨r2, hr2⟩ : ∃ r, setOk sb = r := ⟨_, rfl⟩
  have HOA := hid (fun w (r : rdsL w va sa) => spec_SetOkIs sa r1 va w r hr1)
  have HOB := hid (fun w (r : rdsL w vb sb) => spec_SetOkIs sb r2 vb w r hr2)
  have HLA := hid (fun w (r : rdsL w va sa) => spec_SetList0 sa va w r hba)
  have HLB := hid (fun w (r : rdsL w vb sb) => spec_SetList0 sb vb w r hbb)
  have HRA := hid ha
  have HRB := hid hb
  have HNO := hid (fun h => hA.symm.trans (same_no1 (a := sa) (b := sb) h))
  have HEQ := hid (fun h => hA.symm.trans (same_eq (a := sa) (b := sb) h))
  have HlA := hid (listC_len sa)
  have HlB := hid (listC_len sb)
  have HNA := hid (show (allL sa).length ≤ 1048576 by rw [allL_len]; unfold IntSSB szIntSSD at hba; omega)
  have HNB := hid (show (allL sb).length ≤ 1048576 by rw [allL_len]; unfold IntSSB szIntSSD at hbb; omega)
  rw [hA]
  have HR1 := hid hr1
  have HR2 := hid hr2
  obtain ⟨a, cap, rfl, -, -, -⟩ := ss_open ha
  obtain ⟨a2, cap2, rfl, -, -, -⟩ := ss_open hb
  clear ha hb hA hr1 hr2 hba hbb
  go_enter Try.func38, Try.ntmps38
  go_wp2_with fail
  refine (HOA.out _ HRA.out).mono ?_
  rintro e w2 ⟨rfl, b2⟩
  have HB2 := hid b2
  clear b2 HOA
  cases r1 with
  | false =>
    have Hx := hid (HNO.out (by rw [HR1.out]; rfl))
    clear HNO HEQ HR1 HR2 HOB HLA HLB
    go_wp2
    go_ret
    exact ⟨ret_bool Hx.out.symm, HB2.out⟩
  | true =>
  go_wp2_with fail
  refine (HOB.out _ (rdsL.below HRB.out HB2.out)).mono ?_
  rintro e w3 ⟨rfl, b3⟩
  have HB3 := hid (HB2.out.trans (b3.mono HB2.out.size))
  clear HB2 b3 HOB
  cases r2 with
  | false =>
    have Hx := hid (HNO.out (by rw [HR1.out, HR2.out]; rfl))
    clear HNO HEQ HR1 HR2 HLA HLB
    go_wp2
    go_ret
    exact ⟨ret_bool Hx.out.symm, HB3.out⟩
  | true =>
  have HE := hid (HEQ.out (by rw [HR1.out, HR2.out]; rfl))
  have hxl : (listC sa).length ≤ 1048576 := Nat.le_trans HlA.out HNA.out
  have hyl : (listC sb).length ≤ 1048576 := Nat.le_trans HlB.out HNB.out
  clear HNO HEQ HR1 HR2 HlA HlB HNA HNB
  generalize listC sa = xs at *
  generalize listC sb = ys at *
  go_wp2_with fail
  refine (HLA.out _ (rdsL.below HRA.out HB3.out)).mono ?_
  rintro e w4 ⟨u4, rfl, o4, b4⟩
  obtain ⟨p4, c4, rfl, -, -⟩ := owns_form o4
  have HF4 := hid (Flat.of_owns o4)
  have HB4 := hid (HB3.out.trans (b4.mono HB3.out.size))
  clear o4 b4 HB3 HLA
  go_wp2_with fail
  refine (HLB.out _ (rdsL.below HRB.out HB4.out)).mono ?_
  rintro e w5 ⟨u5, rfl, o5, b5⟩
  obtain ⟨p5, c5, rfl, -, -⟩ := owns_form o5
  have hX : Ints w5 (.slice p4 xs.length c4) xs := Flat.below HF4.out b5
  have hY : Ints w5 (.slice p5 ys.length c5) ys := Flat.of_owns o5
  have HB5 := hid (HB4.out.trans (b5.mono HB4.out.size))
  obtain ⟨_, _, hcx⟩ := ints_open hX
  obtain ⟨_, _, hcy⟩ := ints_open hY
  have HCX := hid hcx
  have HCY := hid hcy
  clear hX hY hcx hcy o5 b5 HB4 HF4 HLB
  by_cases hl : xs.length = ys.length
  · have hli : ((xs.length : Int) == (ys.length : Int)) = true := by rw [beq_iff_eq]; omega
    have HL := hid hl
    clear hl
    go_wp2
    go_loopw [7] (fun i wr => ∃ k : Nat, k ≤ xs.length ∧ i = .int .i64 k ∧ Hid (sameTo xs ys k) ∧ Below w5.heap.size w5 wr) (fun i _ => xs.length - (intOf i).toNat)
    case atStart => exact ⟨0, by omega, rfl, hid (fun j h => by omega), Below.refl _ _⟩
    case round =>
      obtain ⟨k, hk, rfl, HS, hB⟩ := hrel
      have HB := hid hB
      by_cases hlt : k < xs.length
      · have hlt2 : k < ys.length := by have := HL.out; omega
        obtain ⟨b8, o8, rfl, hb8, c8⟩ := HCX.out k hlt
        obtain ⟨b9, o9, rfl, hb9, c9⟩ := HCY.out k hlt2
        have q8 := (hB.cell (p := ⟨b8, o8 + k, none⟩) hb8).trans c8
        have q9 := (hB.cell (p := ⟨b9, o9 + k, none⟩) hb9).trans c9
        have HNX := hid (fun (h : xs[k] = ys[k]) => (show sameTo xs ys (k+1) from fun j hj h1 h2 => by
          by_cases e : j = k
          · subst e; exact h
          · exact HS.out j (by omega) h1 h2))
        have HNN := hid (fun (h : xs = ys) => (show xs[k] = ys[k] by subst h; rfl))
        generalize xs[k] = x at *
        generalize ys[k] = y at *
        clear c8 c9 HCX HCY hB HS
        by_cases hxy : x = y
        · have HY := hid (HNX.out hxy)
          have hne : (x != y) = false := by simp [hxy]
          clear hxy HNX HNN
          go_upto_region 7 with fail
          go_quiet (fail)
          go_wp2
          go_roundw
          case rel => exact ⟨k+1, by omega, by go_num, HY, below_drewN HB.out _⟩
          case measure => simp [intOf]; omega
        · have Hx := hid (show A = false by rw [HE.out]; exact decide_eq_false (fun h => hxy (HNN.out h)))
          have hne : (x != y) = true := by simp [hxy]
          clear hxy HNX HNN
          go_upto_region 7 with fail
          go_quiet (fail)
          go_wp2
          go_ret
          exact ⟨ret_bool Hx.out.symm, HB5.out.trans ((below_drewN HB.out _).mono HB5.out.size)⟩
      · obtain rfl : k = xs.length := by omega
        have Hx := hid (show A = true by
          rw [HE.out]
          exact decide_eq_true (List.ext_getElem HL.out fun j h1 h2 => HS.out j h1 h1 h2))
        clear HCX HCY HS hB
        go_wp2
        go_ret
        exact ⟨ret_bool Hx.out.symm, HB5.out.trans (HB.out.mono HB5.out.size)⟩
  · have hli : ((xs.length : Int) == (ys.length : Int)) = false := by rw [beq_eq_false_iff_ne]; omega
    have Hx := hid (show A = false by rw [HE.out]; exact decide_eq_false (fun h => hl (by rw [h])))
    clear hl HCX HCY
    go_wp2
    go_loopw [7] (fun i wr => i = .int .i64 0 ∧ wr = w5) (fun i _ => 0)
    case atStart => exact ⟨rfl, rfl⟩
    case round =>
      obtain ⟨rfl, rfl⟩ := hrel
      by_cases h0 : (0 : Int) < (xs.length : Int)
      · go_wp2
        go_ret
        exact ⟨ret_bool Hx.out.symm, HB5.out⟩
      · go_wp2
        go_ret
        exact ⟨ret_bool Hx.out.symm, HB5.out⟩
/-- The set that there is first: two literals. -/
theorem new_set (w : World) : ownL (Rg w.heap.size ((w.alloc (.cells #[] 3)).alloc (.cells #[.slice (some ⟨w.heap.size, 0, none⟩) 0 0] 22)).heap.size) ((w.alloc (.cells #[] 3)).alloc (.cells #[.slice (some ⟨w.heap.size, 0, none⟩) 0 0] 22)) (.slice (some ⟨w.heap.size + 1, 0, none⟩) 1 1) [(⟨[]⟩ : RowD)] := by
  obtain ⟨W1, hW1⟩ : ∃ X, w.alloc (.cells #[] 3) = X := ⟨_, rfl⟩
  have hs : W1.heap.size = w.heap.size + 1 := by rw [← hW1]; simp
  have o1 : ownL (A := encInt.toEnc) (Rg w.heap.size W1.heap.size) W1 (.slice (some ⟨w.heap.size, 0, none⟩) 0 0) [] := by rw [← hW1]; exact ownL_none (A := encInt.toEnc) w
  rw [hW1, ← hs]
  obtain ⟨W2, hW2⟩ : ∃ X, W1.alloc (.cells #[.slice (some ⟨w.heap.size, 0, none⟩) 0 0] 22) = X := ⟨_, rfl⟩
  have hs2 : W2.heap.size = W1.heap.size + 1 := by rw [← hW2]; simp
  have b12 : Below W1.heap.size W1 W2 := by rw [← hW2]; exact (Below.refl _ _).alloc (Nat.le_refl _) _
  have o2 : W2.ownsRow 0 22 1 (.slice (some ⟨W1.heap.size, 0, none⟩) 1 1) 1 [.slice (some ⟨w.heap.size, 0, none⟩) 0 0] := by
    rw [← hW2]; exact owns_litN W1 22 1 1 #[.slice (some ⟨w.heap.size, 0, none⟩) 0 0] 0 (Nat.zero_le _) rfl (by decide)
  rw [hW2]
  refine ⟨_, [[.slice (some ⟨w.heap.size, 0, none⟩) 0 0]], fun i k => i = 0 ∧ Rg w.heap.size W1.heap.size k, rfl, rfl, o2, fun k hk => ?_, ?_, ?_, ?_⟩
  · obtain rfl : W1.heap.size = k := Option.some.inj hk
    exact ⟨by omega, by omega⟩
  · rintro i k ⟨_, h⟩
    exact ⟨⟨h.1, by have := h.2; omega⟩, fun e => by obtain rfl : W1.heap.size = k := Option.some.inj e; have := h.2; omega⟩
  · rintro i j k hne ⟨h1, _⟩ ⟨h2, _⟩
    omega
  · intro i h1 h2
    have hi : i = 0 := by simp at h2; exact h2
    subst hi
    exact ⟨_, rfl, (o1.keep (keep_rg b12 (Nat.le_refl _))).mono fun k hk => ⟨rfl, hk⟩⟩
theorem spec_NewSet0 (w : World) : Calls Try.prog 22 #[] w fun e w' => ∃ u, e = .returned u ∧ ownL (Rg w.heap.size w'.heap.size) w' u [(⟨[]⟩ : RowD)] ∧ Below w.heap.size w w' := by
  have HN := hid (new_set w)
  have HB := hid (show Below w.heap.size w ((w.alloc (.cells #[] 3)).alloc (.cells #[.slice (some ⟨w.heap.size, 0, none⟩) 0 0] 22)) from ((Below.refl _ _).alloc (Nat.le_refl _) _).alloc (by simp) _)
  go_enter Try.func22, Try.ntmps22
  go_wp2
  go_ret
  exact ⟨_, rfl, HN.out, HB.out⟩
end Go.Proofs.Ytdgmbcmgjadoiaa
