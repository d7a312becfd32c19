/- Chapter 16's model: SetDrop. -/
import Derived.Test.YtdgmbcmgjadoiaaS16c
namespace Go.Proofs.Ytdgmbcmgjadoiaa
set_option maxRecDepth 100000
open Go.RowKit Go.Proofs Go.Own
open Go Go.BigFrame
set_option linter.unusedVariables false
set_option linter.unusedSimpArgs false
def flt (xs : List Int) (x : Int) : List Int := xs.filter fun y => !(y == x)
theorem flt_take (xs : List Int) (x : Int) (k : Nat) (h : k < xs.length) : flt (xs.take (k+1)) x = if xs[k] = x then flt (xs.take k) x else flt (xs.take k) x ++ [xs[k]] := by
  unfold flt
  rw [List.take_succ_eq_append_getElem h, List.filter_append]
  by_cases e : xs[k] = x
  · rw [if_pos e, List.filter_cons]; simp [e]
  · rw [if_neg e, List.filter_cons]; simp [e]
theorem flt_len (xs : List Int) (x : Int) (k : Nat) : (flt (xs.take k) x).length ≤ xs.length := by
  unfold flt
  exact Nat.le_trans (List.length_filter_le _ _) (by rw [List.length_take]; omega)
theorem drop_bad {s : List RowD} {x : Int} (h : (setOk s && isVal x) = false) : dropC s x = (s, 1) := by unfold dropC; rw [h]; rfl
theorem drop_none {s : List RowD} {x : Int} (h : (setOk s && isVal x) = true) (h2 : hasC s x = false) : dropC s x = (s, 4) := by unfold dropC; rw [h, h2]; rfl
theorem drop_done {s : List RowD} {x : Int} (h : (setOk s && isVal x) = true) (h2 : hasC s x = true) {p : Nat} (hp : p < s.length) (e : plc x s.length = p) {xs : List Int} (hxs : s[p].xs_ = xs) : dropC s x = (s.set p ⟨flt xs x⟩, 0) := by
  unfold dropC; rw [h, h2, if_pos rfl, if_pos rfl]
  subst e
  congr 1
  apply List.ext_getElem?
  intro j
  rw [List.getElem?_modify, List.getElem?_set]
  by_cases e : plc x s.length = j
  · subst e; subst hxs; simp [hp, flt]
  · simp [e]
theorem oneCell_1 (x : Int) : ∀ c ∈ [Value.int .i64 x], c.oneCell' = true := by intro c hc; simp at hc; subst hc; rfl
theorem set_set_same16 {α : Type} (l : List α) (i : Nat) (a b : α) : (l.set i a).set i b = l.set i b := by simp
set_option maxHeartbeats 16000000 in
theorem spec_SetDrop0 (s : List RowD) (x : Int) (v : Value) (w : World) (h : rdsL w v s) (hb : IntSSB s) :
    Calls Try.prog 30 #[v, .int .i64 x] w fun e w' => ∃ u, e = .returned (.tuple #[u, .int .i64 (dropC s x).2]) ∧ ownL (Rg w.heap.size w'.heap.size) w' u (dropC s x).1 ∧ Below w.heap.size w w' := by
  obtain ⟨j0, hj, hy0, hy1, hy2⟩ := info_parts infoInt0
  obtain ⟨A, hA⟩ : ∃ A, dropC s x = A := ⟨_, rfl⟩
  obtain ⟨r1, hr1⟩ : ∃ r, setOk s = r := ⟨_, rfl⟩
  obtain ⟨r2, hr2⟩ : ∃ r, isVal x = r := ⟨_, rfl⟩
  obtain ⟨r3, hr3⟩ : ∃ r, hasC s x = r := ⟨_, rfl⟩
  have HOK := hid (fun w (r : rdsL w v s) => spec_SetOkIs s r1 v w r hr1)
  have HHA := hid (fun w (r : rdsL w v s) => spec_SetHas0 s x v w r)
  have HCO := hid (fun w (r : rdsL w v s) => spec_l16Copy s v w r hb)
  have HV := hid (fun w => spec_l1ValueIs x r2 w hr2)
  have HR := hid h
  have hbt := hid (fun i hi => intSSB_at hb i hi)
  rw [hr3] at HHA
  rw [hA]
  have HA := hid hA
  have HR1 := hid hr1
  have HR2 := hid hr2
  have HR3 := hid hr3
  obtain ⟨a, cap, rfl, hl9, hm9, hc⟩ := ss_open h
  have HC := hid hc
  clear h hb hA hr1 hr2 hr3 hc
  go_enter Try.func30, Try.ntmps30
  go_wp2_with fail
  refine (HCO.out _ HR.out).mono ?_
  rintro e w1 ⟨u1, rfl, o1, b1⟩
  obtain ⟨ua, uc, rfl, -, -⟩ := ownL_len o1
  have HO1 := hid o1
  have HB1 := hid b1
  clear o1
  go_wp2_with fail
  refine (HOK.out _ (rdsL.below HR.out HB1.out)).mono ?_
  rintro e w2 ⟨rfl, b2⟩
  have HO2 := hid ((HO1.out.keep (keep_rg b2 (Nat.le_refl _))).mono (fun b hb => (show Rg w.heap.size w2.heap.size b from ⟨hb.1, by have := hb.2; have := b2.size; omega⟩)))
  have HB2 := hid (HB1.out.trans (b2.mono HB1.out.size))
  clear HO1 HB1 b1 b2 HOK HCO
  cases r1 with
  | false =>
    have Hx := hid (show A = (s, 1) from HA.out.symm.trans (drop_bad (by rw [HR1.out]; rfl)))
    clear HA HR1 HR2 HR3 HV HHA
    go_wp2
    (refine bodyPost_ret (results_two rfl _ _) rfl ?_)
    exact ⟨_, by rw [Hx.out]; rfl, by rw [Hx.out]; exact HO2.out, HB2.out⟩
  | true =>
  go_wp2_with fail
  refine (HV.out _).mono ?_
  rintro e w2' ⟨rfl, rfl⟩
  clear HV
  cases r2 with
  | false =>
    have Hx := hid (show A = (s, 1) from HA.out.symm.trans (drop_bad (by rw [HR1.out, HR2.out]; rfl)))
    clear HA HR1 HR2 HR3 HHA
    go_wp2
    (refine bodyPost_ret (results_two rfl _ _) rfl ?_)
    exact ⟨_, by rw [Hx.out]; rfl, by rw [Hx.out]; exact HO2.out, HB2.out⟩
  | true =>
  have HG := hid (show (setOk s && isVal x) = true by rw [HR1.out, HR2.out]; rfl)
  go_wp2_with fail
  refine (HHA.out _ (rdsL.below HR.out HB2.out)).mono ?_
  rintro e w3 ⟨rfl, b3⟩
  have HO3 := hid ((HO2.out.keep (keep_rg b3 (Nat.le_refl _))).mono (fun b hb => (show Rg w.heap.size w3.heap.size b from ⟨hb.1, by have := hb.2; have := b3.size; omega⟩)))
  have HB3 := hid (HB2.out.trans (b3.mono HB2.out.size))
  clear HO2 HB2 b3 HHA
  cases r3 with
  | false =>
    have Hx := hid (show A = (s, 4) from HA.out.symm.trans (drop_none HG.out HR3.out))
    clear HA HR1 HR2 HR3 HG
    go_wp2
    (refine bodyPost_ret (results_two rfl _ _) rfl ?_)
    exact ⟨_, by rw [Hx.out]; rfl, by rw [Hx.out]; exact HO3.out, HB3.out⟩
  | true =>
  have hpw := setOk_pos HR1.out
  have hpm : s.length ≤ 1048576 := by omega
  have hp := plc_lt x hpw.1
  have HPL := hid (fun w => spec_l16Place x s.length hpw.1 hpm w)
  obtain ⟨p, hpe⟩ : ∃ p, plc x s.length = p := ⟨_, rfl⟩
  rw [hpe] at HPL hp
  obtain ⟨bb, off, b2, c2, xs, hxs, rfl, hbs, c0, hI⟩ := HC.out p hp
  have hxl : xs.length ≤ 1048576 := by have z := hbt.out p hp; unfold IntSB at z; rw [hxs] at z; exact z
  have Hx := hid (show A = (s.set p ⟨flt xs x⟩, 0) from HA.out.symm.trans (drop_done HG.out HR3.out hp hpe hxs))
  obtain ⟨hl3, hm3, hci⟩ := ints_open hI
  have HCI := hid hci
  have C0 := hid c0
  have hp1 : (p : Int) < (s.length : Int) := by omega
  clear HA HR1 HR2 HR3 HG HC hpe hxs hci hI hbt c0
  go_wp2_with fail
  refine (HPL.out _).mono ?_
  rintro e w4 ⟨rfl, rfl⟩
  obtain ⟨g, c3, u, Ri, ys, hys, hv, hSg, cg, fg, oR, hRi, hst, hfin⟩ := rows_at HO3.out (fun b hb => hb.2) p hp
  obtain ⟨rfl, hc39⟩ : ua = some ⟨g, 0, none⟩ ∧ uc = c3 := by simp only [Value.slice.injEq] at hv; exact ⟨hv.1, hv.2.2⟩
  obtain rfl : uc = c3 := hc39
  obtain ⟨W5, hW5⟩ : ∃ X, w3.alloc (.cells #[] 3) = X := ⟨_, rfl⟩
  have b35 : Below w3.heap.size w3 W5 := by rw [← hW5]; exact (Below.refl _ _).alloc (Nat.le_refl _) _
  obtain ⟨⟨y5, k5⟩, f5⟩ := hst W5 (ChgS.of_below b35 _)
  have O9 := hfin W5 (.slice (some ⟨w3.heap.size, 0, none⟩) 0 0) ⟨[]⟩ (Rg w3.heap.size W5.heap.size) (ChgS.of_below b35 _) (by rw [← hW5]; exact ownL_none (A := encInt.toEnc) w3) (fun b hb => .inr hb.1)
  obtain ⟨W6, hW6⟩ : ∃ X, W5.setCell ⟨g, p, none⟩ (.slice (some ⟨w3.heap.size, 0, none⟩) 0 0) = X := ⟨_, rfl⟩
  have hs6 : W6.heap.size = W5.heap.size := by rw [← hW6]; simp [World.setCell]
  have HO6 : Hid (ownL (Rg w.heap.size W6.heap.size) W6 (.slice (some ⟨g, 0, none⟩) s.length uc) (s.set p ⟨flt (xs.take 0) x⟩)) := by
    rw [hW6] at O9
    exact hid (O9.mono fun b hb => by
      have h7 := b35.size
      have h8 := HB3.out.size
      rcases hb with h9 | h9
      · exact ⟨h9.1, by have := h9.2; omega⟩
      · exact ⟨by have := h9.1; omega, by have := h9.2; omega⟩)
  have HB6 : Hid (Below w.heap.size w W6) := by
    rw [← hW6]
    exact hid ((HB3.out.trans (b35.mono HB3.out.size)).setCell hSg.1 _)
  have hgw : w.heap.size ≤ g := hSg.1
  have HW6 := hid hW6
  clear hW6 O9 hfin hst HO3 HB3 b35 hv oR hys hRi hSg cg fg HPL
  go_wp2
  rw [HW6.out]
  clear HW6 hW5 k5 f5
  go_loopw [8] (fun i wr => ∃ q : Nat, q ≤ xs.length ∧ i = .int .i64 q ∧ Hid (ownL (Rg w.heap.size wr.heap.size) wr (.slice (some ⟨g, 0, none⟩) s.length uc) (s.set p ⟨flt (xs.take q) x⟩)) ∧ Below w.heap.size w wr) (fun i _ => xs.length - (intOf i).toNat)
  case atStart => exact ⟨0, by omega, rfl, HO6, HB6.out⟩
  case round =>
    clear HO6 HB6 hs6
    obtain ⟨q, hq, rfl, HO, hB⟩ := hrel
    have q0 := (hB.cell (p := ⟨bb, off + p, none⟩) hbs).trans C0.out
    by_cases hql : q < xs.length
    · obtain ⟨b9, o9, rfl, hb9, c9⟩ := HCI.out q hql
      have r0 := (hB.cell (p := ⟨b9, o9 + q, none⟩) hb9).trans c9
      have Htk := hid (flt_take xs x q hql)
      have HZL := hid (flt_len xs x q)
      obtain ⟨y, hy⟩ : ∃ y, xs[q] = y := ⟨_, rfl⟩
      rw [hy] at r0 Htk
      clear c9 HCI C0 hy
      by_cases hyx : y = x
      · have Hn := hid (show flt (xs.take (q+1)) x = flt (xs.take q) x by rw [Htk.out, if_pos hyx])
        have hne : (y != x) = false := by simp [hyx]
        clear hyx Htk
        go_wp2
        go_roundw
        case rel => exact ⟨q+1, by omega, by go_num, hid (by rw [Hn.out]; exact HO.out), hB⟩
        case measure => simp [intOf]; omega
      · have Hn := hid (show flt (xs.take (q+1)) x = flt (xs.take q) x ++ [y] by rw [Htk.out, if_neg hyx])
        have hne : (y != x) = true := by simp [hyx]
        have hpl : p < (s.set p ⟨flt (xs.take q) x⟩).length := by rw [List.length_set]; exact hp
        obtain ⟨g2, c3, u, Ri, ys, hys, hv, hSg, cg, fg, oR, hRi, hst, hfin⟩ := rows_at HO.out (fun b hb => hb.2) p hpl
        obtain ⟨hg9, hc39⟩ : (⟨g, 0, none⟩ : Addr) = ⟨g2, 0, none⟩ ∧ uc = c3 := by simp only [Value.slice.injEq, Option.some.injEq] at hv; exact ⟨hv.1, hv.2.2⟩
        obtain rfl : g = g2 := by simpa using hg9
        have hys2 : ys = flt (xs.take q) x := by rw [← hys]; simp
        have HFIN := hid hfin
        have HST := hid hst
        have hyl : ys.length ≤ 1048576 := by rw [hys2]; exact Nat.le_trans HZL.out hxl
        have HYS := hid hys2
        obtain ⟨oI, oB⟩ := ownInts.1 oR
        obtain ⟨na, nc, rfl, _, _⟩ := ownL_len oR
        have OI := hid oI
        have OBk := hid oB
        have hal : ∀ o, Below wr.heap.size wr (wr.drew.alloc o) := fun o => (Below.refl _ _).drew.alloc (by simp) o
        have hal2 : ∀ o, Below wr.heap.size wr (wr.alloc o) := fun o => (Below.refl _ _).alloc (Nat.le_refl _) o
        have hgl : g < wr.heap.size := hSg.2
        have cga : (wr.alloc (.cells #[.int .i64 y] 3)).cell? ⟨g, p, none⟩ = some (Value.slice na ys.length nc) := ((hal2 _).cell (p := ⟨g, p, none⟩) hgl).trans cg
        have hone2 := hid (oneCell_1 y)
        have HO' := HO
        have HB := hid hB
        clear hfin hst hv hg9 hc39 hys hys2 oI oB oR HO HO' Htk hyx hB
        go_upto_region 12 with fail
        go_region_law (refine step_append_at rfl (.tmp 56) (.tmp 64) 22 rfl 0 3 j0 (.int .i64 0) 1 8 Try.underlying22 hj hy0 hy1 hy2 rfl (by decide) _ ys.length _ rfl (by first | exact OI.out | exact World.ownsRow.alloc (w := wr.drew) OI.out _ | exact World.ownsRow.alloc OI.out _) _ 1 [.int .i64 y] rfl (Flat.of_owns (owns_litN wr.drew 3 1 1 _ 0 (Nat.zero_le _) rfl (by decide))) (by decide) hone2.out (by unfold maxLen; omega) (by omega) (Nat.zero_le _) ?_; intro v6 w6 o6 g6 p6; obtain ⟨pa, pm, pc, rfl⟩ := owns_form3 o6; have C6 := hid ((ChgS.of_below (hal _) Ri).trans (ChgS.of_grown g6 (fun b e => OBk.out b e))); obtain ⟨⟨y6, k6⟩, f6⟩ := HST.out w6 C6.out)
        all_goals
          have hs6 := C6.out.size
          have oT : ownL (fun b => Ri b ∨ (wr.heap.size ≤ b ∧ b < w6.heap.size)) w6 (.slice pa pm pc) (ys ++ [y]) := by
            refine ownInts.2 ⟨?_, fun b hb => ?_⟩
            · rw [List.length_append, List.flatMap_append]; exact o6
            · rcases p6 b hb with h9 | h9
              · exact .inl (OBk.out b h9)
              · exact .inr ⟨by rw [h9]; simp, (World.ownsRow.lt o6 b hb).2⟩
          have O9 := HFIN.out w6 (.slice pa pm pc) ⟨ys ++ [y]⟩ _ C6.out oT (fun b hb => hb.imp id fun h9 => h9.1)
          rw [set_set_same16] at O9
          obtain ⟨W9, hW9⟩ : ∃ X, w6.setCell ⟨g, p, none⟩ (.slice pa pm pc) = X := ⟨_, rfl⟩
          have hs9 : W9.heap.size = w6.heap.size := by rw [← hW9]; simp [World.setCell]
          have hsB := HB.out.size
          have HO9 : Hid (ownL (Rg w.heap.size W9.heap.size) W9 (.slice (some ⟨g, 0, none⟩) s.length uc) (s.set p ⟨flt (xs.take (q+1)) x⟩)) := by
            rw [hW9] at O9
            rw [Hn.out, ← HYS.out]
            have O8 : ownL _ W9 (.slice (some ⟨g, 0, none⟩) s.length uc) (s.set p ⟨ys ++ [y]⟩) := O9
            exact hid (O8.mono fun b hb => by
              rcases hb with h9 | h9 | h9
              · exact ⟨h9.1, by have := h9.2; omega⟩
              · have h8 := (hRi b h9).1; exact ⟨h8.1, by have := h8.2; omega⟩
              · exact ⟨by have := h9.1; omega, by have := h9.2; omega⟩)
          have HB9 : Hid (Below w.heap.size w W9) := by
            rw [← hW9]
            exact hid ((HB.out.trans (C6.out.below HB.out.size (fun b hb => (hRi b hb).1.1))).setCell hgw _)
          rw [hW9]
          clear hW9 O9 HFIN HST k6 f6 C6 oT o6 g6 p6
          go_wp2
          go_roundw
          case rel => exact ⟨q+1, by omega, by go_num, HO9, HB9.out⟩
          case measure => simp [intOf]; omega
    · obtain rfl : q = xs.length := by omega
      have HO9 : Hid (ownL (Rg w.heap.size wr.heap.size) wr (.slice (some ⟨g, 0, none⟩) s.length uc) (s.set p ⟨flt xs x⟩)) := by
        have z := HO.out
        rw [List.take_length] at z; exact hid z
      clear HO HCI C0
      go_wp2
      (refine bodyPost_ret (results_two rfl _ _) rfl ?_)
      exact ⟨_, by rw [Hx.out]; rfl, by rw [Hx.out]; exact HO9.out, hB⟩
end Go.Proofs.Ytdgmbcmgjadoiaa
