/- Chapter 16's program: SetJoin. -/
import Derived.Test.YtdgmbcmgjadoiaaI16g
import Derived.Test.YtdgmbcmgjadoiaaS16f
namespace Go.Proofs.Ytdgmbcmgjadoiaa
set_option maxRecDepth 100000
open Go.RowKit Go.Proofs Go.Own
open Go Go.BigFrame
set_option linter.unusedVariables false
set_option linter.unusedSimpArgs false
set_option maxHeartbeats 16000000 in
theorem impl_SetJoin0 (sa sb : List RowD) (va vb : Value) (w : World) (ha : rdsL w va sa) (hb : rdsL w vb sb) (hba : IntSSB sa) (hbb : IntSSB sb) :
    Calls Try.prog 37 #[va, vb] w fun e w' => ∃ u, e = .returned (.tuple #[u, .int .i64 (joinC sa sb).2]) ∧ ownL (Rg w.heap.size w'.heap.size) w' u (joinC sa sb).1 ∧ Below w.heap.size w w' := by
  obtain ⟨A, hA⟩ : ∃ A, joinC sa sb = A := ⟨_, rfl⟩
  obtain ⟨r1, hr1⟩ : ∃ r, setOk sa = r := ⟨_, rfl⟩
  obtain ⟨r2, hr2⟩ : ∃ r, setOk sb = r := ⟨_, rfl⟩
  have HOA := hid (fun w (r : rdsL w va sa) => impl_SetOkIs sa r1 va w r hr1)
  have HOB := hid (fun w (r : rdsL w vb sb) => impl_SetOkIs sb r2 vb w r hr2)
  have HCO := hid (fun w (r : rdsL w va sa) => impl_copySet sa va w r hba)
  have HLI := hid (fun w (r : rdsL w vb sb) => impl_SetList0 sb vb w r hbb)
  have HRA := hid ha
  have HRB := hid hb
  rw [hA]
  have HBD := hid (fun h => hA.symm.trans (join_bad (a := sa) (b := sb) h))
  have HFU := hid (fun h h2 => hA.symm.trans (join_full (a := sa) (b := sb) h h2))
  have HDN := hid (fun h t h2 => hA.symm.trans (join_done (a := sa) (b := sb) (t := t) h h2))
  have HR1 := hid hr1
  have HR2 := hid hr2
  obtain ⟨a, cap, rfl, -, -, -⟩ := ss_open ha
  obtain ⟨a2, cap2, rfl, -, -, -⟩ := ss_open hb
  clear ha hb hA hr1 hr2 hba hbb
  go_enter Try.func37, Try.ntmps37
  go_wp2_with fail
  refine (HCO.out _ HRA.out).mono ?_
  rintro e w1 ⟨B, S, rfl, hL1, b1⟩
  have HL1 := hid hL1
  have HB1 := hid b1
  have hS1 := hid (show ∀ b, S b → b < w1.heap.size from fun b hb => by obtain ⟨_, _, _, _, h3, _⟩ := hL1; exact (h3 b hb).2.1)
  have hB1lt := HL1.out.lt
  clear hL1 b1
  go_wp2_with fail
  refine (HOA.out _ (rdsL.below HRA.out HB1.out)).mono ?_
  rintro e w2 ⟨rfl, b2⟩
  have HL2 := hid (HL1.out.chg b2)
  have HB2 := hid (HB1.out.trans (b2.mono HB1.out.size))
  have h12 := b2.size
  clear HL1 b2 HOA
  cases r1 with
  | false =>
    have Hx := hid (HBD.out (by rw [HR1.out]; rfl))
    obtain ⟨g, c, k2, o3⟩ := HL2.out.out
    have HO3 := hid o3
    clear HBD HFU HDN HR1 HR2 HOB HLI HCO o3
    go_wp2
    (refine bodyPost_ret (results_two rfl _ _) rfl ?_)
    exact ⟨_, by rw [Hx.out]; rfl, by rw [Hx.out]; exact HO3.out, HB2.out⟩
  | true =>
  go_wp2_with fail
  refine (HOB.out _ (rdsL.below HRB.out HB2.out)).mono ?_
  rintro e w3 ⟨rfl, b3⟩
  have HL3 := hid (HL2.out.chg b3)
  have HB3 := hid (HB2.out.trans (b3.mono HB2.out.size))
  have h23 := b3.size
  clear HL2 HB2 b3 HOB
  cases r2 with
  | false =>
    have Hx := hid (HBD.out (by rw [HR1.out, HR2.out]; rfl))
    obtain ⟨g, c, k2, o3⟩ := HL3.out.out
    have HO3 := hid o3
    clear HBD HFU HDN HR1 HR2 HLI HCO o3
    go_wp2
    (refine bodyPost_ret (results_two rfl _ _) rfl ?_)
    exact ⟨_, by rw [Hx.out]; rfl, by rw [Hx.out]; exact HO3.out, HB3.out⟩
  | true =>
  have HG := hid (show (setOk sa && setOk sb) = true by rw [HR1.out, HR2.out]; rfl)
  have HFU2 := hid (fun h => HFU.out HG.out h)
  have HDN2 := hid (fun t h => HDN.out HG.out t h)
  clear HBD HFU HDN HR1 HR2 HG
  generalize listC sb = L at *
  go_wp2_with fail
  refine (HLI.out _ (rdsL.below HRB.out HB3.out)).mono ?_
  rintro e w4 ⟨u4, rfl, o4, b4⟩
  obtain ⟨p4, c4, rfl, -, -⟩ := owns_form o4
  have HL4 := hid (HL3.out.chg b4)
  have HB4 := hid (HB3.out.trans (b4.mono HB3.out.size))
  have h34 := b4.size
  have HO4 := hid o4
  have hPL := hid (fun b (hb : (Value.slice p4 L.length c4).ownBlock = some b) => World.ownsRow.lt o4 b hb)
  have HT4 := hid (show ∀ b, S b → S b ∨ (w4.heap.size ≤ b ∧ b < w4.heap.size) from fun b hb => .inl hb)
  clear o4 b4 HL3 HB3 HLI
  go_wp2
  go_loopw [26] (fun i wr => ∃ (k : Nat) (t : List RowD) (T : Nat → Prop), k ≤ L.length ∧ i = .int .i64 k ∧ Hid (joinTo t (L.drop k) = joinTo sa L) ∧ Hid (LkS B w.heap.size 0 T wr t) ∧ Hid (∀ b, T b → S b ∨ (w4.heap.size ≤ b ∧ b < wr.heap.size)) ∧ Hid (wr.ownsRow w3.heap.size 3 1 (.slice p4 L.length c4) L.length (L.flatMap Go.Own.encI)) ∧ w4.heap.size ≤ wr.heap.size ∧ Below w.heap.size w wr) (fun i _ => L.length - (intOf i).toNat)
  case atStart => exact ⟨0, sa, S, by omega, rfl, hid (by rw [List.drop_zero]), HL4, HT4, HO4, Nat.le_refl _, HB4.out⟩
  case round =>
    clear HL4 HT4 HO4 HB4
    obtain ⟨k, t, T, hk, rfl, HJ, HL, HT, HO, hw4r, hB⟩ := hrel
    have HB := hid hB
    clear hB
    by_cases hlt : k < L.length
    · obtain ⟨_, _, hci⟩ := ints_open (show Ints wr (.slice p4 L.length c4) L from Flat.of_owns HO.out)
      obtain ⟨b9, o9, hp9, hb9, c9⟩ := hci k hlt
      subst hp9
      have HJ2 := hid (show joinTo t (L[k] :: L.drop (k+1)) = joinTo sa L by rw [← HJ.out, List.drop_eq_getElem_cons hlt])
      obtain ⟨x, hx⟩ : ∃ x, L[k] = x := ⟨_, rfl⟩
      rw [hx] at c9 HJ2
      have HAD := hid (impl_add B w.heap.size t x T wr HB.out.size HL.out)
      have HFULL := hid (fun h => joinTo_full (s := t) (x := x) (xs := L.drop (k+1)) h)
      have HNEXT := hid (fun h => joinTo_next (s := t) (x := x) (xs := L.drop (k+1)) h)
      generalize addC t x = AA at *
      obtain ⟨T2, cd⟩ := AA
      dsimp only at HAD HFULL HNEXT
      clear hci hx HJ
      go_wp2_with fail
      refine HAD.out.mono ?_
      rintro e w5 ⟨T', rfl, hL5, hT5, hC5⟩
      have HL5 := hid hL5
      have HB5 := hid (HB.out.trans (HL.out.low HB.out.size hC5))
      have hs5 := hC5.size
      have HT5 := hid (show ∀ b, T' b → S b ∨ (w4.heap.size ≤ b ∧ b < w5.heap.size) from fun b hb => by
        rcases hT5 b hb with h9 | h9
        · exact (HT.out b h9).imp id fun h => ⟨h.1, by omega⟩
        · exact .inr ⟨by omega, h9.2⟩)
      have HO5 := hid (owns_same HO.out (fun b hb => hC5.block b (World.ownsRow.lt HO.out b hb).2 (fun e => by
        have z := hPL.out b hb
        rcases e with e | e
        · rcases HT.out b e with h9 | h9
          · have := hS1.out b h9; omega
          · omega
        · omega)))
      clear hL5 hT5 hC5 HAD HL HT HO HB
      by_cases hc3 : cd = 3
      · have Hx := hid (HFU2.out (by rw [← HJ2.out]; exact HFULL.out hc3))
        clear HFULL HNEXT HDN2 HFU2 HJ2 HL5 HT5 HO5
        go_wp2_with fail
        refine (HCO.out _ (rdsL.below HRA.out HB5.out)).mono ?_
        rintro e w6 ⟨B6, S6, rfl, hL6, b6⟩
        obtain ⟨g, c, k2, o6⟩ := hL6.out
        have hs5w := HB5.out.size
        have HO6 := hid (o6.mono (fun b hb => (show Rg w.heap.size w6.heap.size b from ⟨by have := hb.1; omega, hb.2⟩)))
        have HB6 := hid (HB5.out.trans (b6.mono HB5.out.size))
        clear o6 b6 hL6
        go_wp2
        (refine bodyPost_ret (results_two rfl _ _) rfl ?_)
        exact ⟨_, by rw [Hx.out]; rfl, by rw [Hx.out]; exact HO6.out, HB6.out⟩
      · have HJ3 := hid (show joinTo T2 (L.drop (k+1)) = joinTo sa L by rw [← HJ2.out]; exact (HNEXT.out hc3).symm)
        have hw45 : w4.heap.size ≤ w5.heap.size := by omega
        clear HFULL HNEXT HDN2 HFU2 HJ2
        go_wp2
        go_roundw
        case rel => exact ⟨k+1, T2, T', by omega, by go_num, HJ3, HL5, HT5, HO5, hw45, HB5.out⟩
        case measure => simp [intOf]; omega
    · obtain rfl : k = L.length := by omega
      have Hx := hid (HDN2.out t (by rw [← HJ.out, List.drop_length]; rfl))
      obtain ⟨g, c, k2, o3⟩ := HL.out.out
      have HO3 := hid o3
      clear o3 HJ HDN2 HFU2 HL HT HO
      go_wp2
      (refine bodyPost_ret (results_two rfl _ _) rfl ?_)
      exact ⟨_, by rw [Hx.out]; rfl, by rw [Hx.out]; exact HO3.out, HB.out⟩
end Go.Proofs.Ytdgmbcmgjadoiaa
