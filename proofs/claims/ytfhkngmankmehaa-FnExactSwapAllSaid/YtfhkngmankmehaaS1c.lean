/- Chapter 1's model functions: many words swapped at once. -/
import Derived.Test.YtfhkngmankmehaaF1b
import Derived.Test.YtfhkngmankmehaaS1
namespace Go.Proofs.Ytfhkngmankmehaa
open Go.RowKit Go.Proofs Go.Own

theorem quiet_eq {P : Program} {f : FuncId} {args : Array Value} {w : World} {n : Nat} {v : Value}
    (h : Calls P f args (w.drewN n) fun e w' => e = .returned v ∧ w.drewN n = w') : Calls P f args (w.drewN n) fun e w'' => e = .returned v ∧ ∃ m, w'' = w.drewN m :=
  h.mono fun _ _ ⟨he, hm⟩ => ⟨he, n, hm.symm⟩

theorem spec_l1Has (v : Value) (xs : List Int) (x : Int) (w : World) (h : Ints w v xs) :
    Calls Try.prog 43 #[v, .int .i64 x] w fun e w' => e = .returned (.bool (hasFrom xs x 0)) ∧ w = w' := by
  obtain ⟨ad, cap, rfl, hl, hm, hc⟩ := h.open
  have hlen : xs.length ≤ 9223372036854775807 := by omega
  go_enter Try.func43, Try.ntmps43
  go_wp2
  go_loop [5] (fun i => ∃ k : Nat, k ≤ xs.length ∧ i = .int .i64 k ∧ Same (hasFrom xs x 0) (hasFrom xs x k)) (fun i => xs.length - (intOf i).toNat)
  case atStart => exact ⟨0, by omega, rfl, .rfl⟩
  case round =>
    obtain ⟨k, hk, rfl, hall⟩ := hrel
    by_cases hlt : k < xs.length
    · obtain ⟨bb, off, rfl, hbs, hcell⟩ := hc k hlt
      have hst := hid (hasFrom_step xs x k hlt)
      clear hc
      go_wp2
      · have hf : (xs[k] == x) = true := by assumption
        go_ret
        exact ⟨ret_bool (by rw [hall.out, hst.out, hf]; rfl), rfl⟩
      · have hf : (xs[k] == x) = false := by assumption
        go_round
        case rel => exact ⟨k+1, by omega, by go_num, .mk (by rw [hall.out, hst.out, hf]; rfl)⟩
        case measure => simp [intOf]; omega
    · have hst := hid (hasFrom_end xs x k hlt)
      go_wp2
      go_ret
      exact ⟨ret_bool (by rw [hall.out, hst.out]), rfl⟩

/-- A slice cut at k from its beginning. -/
theorem Ints.cut {w : World} {v : Value} {xs : List Int} {b off cap : Nat} (h : Ints w v xs) (hv : v = .slice (some ⟨b, off, none⟩) xs.length cap) (k : Nat) (hk : k ≤ xs.length) : Ints w (.slice (some ⟨b, off, none⟩) k cap) (xs.take k) := by
  obtain ⟨_, a, c, e, h1, h2, _, h3⟩ := h
  rw [hv] at e
  obtain ⟨rfl, rfl⟩ : a = some ⟨b, off, none⟩ ∧ c = cap := by simp at e; exact ⟨e.1.symm, e.2.symm⟩
  have hl : (xs.take k).length = k := by simp; omega
  refine ⟨flatMap_len encI 1 (fun _ => rfl) _, _, _, by rw [hl], by omega, h2, (by intro e; cases e), ?_⟩
  by_cases h0 : k = 0
  · exact .inl (by omega)
  · rcases h3 with h3 | ⟨b', off', ha, hs, hc⟩
    · omega
    · simp only [Option.some.injEq, Addr.mk.injEq, and_true] at ha
      obtain ⟨rfl, rfl⟩ := ha
      refine .inr ⟨b, off, rfl, hs, fun j hj => ?_⟩
      have hj' : j < k := by rw [flatMap_len encI 1 (fun _ => rfl)] at hj; omega
      have hjx : j < (xs.flatMap encI).length := by rw [flatMap_len encI 1 (fun _ => rfl)]; omega
      rw [hc j hjx]
      congr 1
      simp only [encI_map, List.getElem_map, List.getElem_take]

theorem spec_SwapAll_own (v : Value) (m : List Int) (u1 : Value) (at_ : List Int) (u2 : Value) (old : List Int) (u3 : Value) (new : List Int) (w : World) (h : Ints w v m) (hx : m.length ≤ 1048576) (h1 : Ints w u1 at_) (hx1 : at_.length ≤ 1048576) (h2 : Ints w u2 old) (hx2 : old.length ≤ 1048576) (h3 : Ints w u3 new) (hx3 : new.length ≤ 1048576) :
    Calls Try.prog 24 #[v, u1, u2, u3] w fun e w' => ∃ v', e = .returned (.tuple #[v', .bool (swapF m at_ old new).2]) ∧ w'.ownsRow w.heap.size 3 1 v' m.length ((swapF m at_ old new).1.flatMap encI) ∧ Below w.heap.size w w' := by
  obtain ⟨ad, cap, rfl, hl, hm⟩ := Flat.form h
  obtain ⟨ad1, cap1, rfl, hl1, hm1⟩ := Flat.form h1
  obtain ⟨ad2, cap2, rfl, hl2, hm2⟩ := Flat.form h2
  obtain ⟨ad3, cap3, rfl, hl3, hm3⟩ := Flat.form h3
  go_enter Try.func24, Try.ntmps24
  go_wp2_with fail
  refine (spec_l1Copy _ m _ h hx).mono ?_
  rintro e w1 ⟨v1, rfl, o1, b1⟩
  have g0 := Ints.below h b1
  have g1 := Ints.below h1 b1
  have g2 := Ints.below h2 b1
  have g3 := Ints.below h3 b1
  by_cases hhead : (memOk m = true ∧ at_.length = old.length ∧ at_.length = new.length ∧ memOk old = true ∧ memOk new = true)
  case neg =>
    have hno : swapF m at_ old new = (m, false) := swapF_no _ _ _ _ (by
      cases hs : swapOk m at_ old new with
      | false => rfl
      | true =>
        unfold swapOk at hs
        simp only [Bool.and_eq_true, decide_eq_true_eq] at hs
        exact absurd ⟨hs.1.1.1.1.1.1, hs.1.1.1.1.1.2, hs.1.1.1.1.2, hs.1.1.1.2, hs.1.1.2⟩ hhead)
    have hcase : memOk m = false ∨ (memOk m = true ∧ ((at_.length : Int) != old.length) = true) ∨ (memOk m = true ∧ ((at_.length : Int) != old.length) = false ∧ ((at_.length : Int) != new.length) = true) ∨
        (memOk m = true ∧ ((at_.length : Int) != old.length) = false ∧ ((at_.length : Int) != new.length) = false ∧ memOk old = false) ∨
        (memOk m = true ∧ ((at_.length : Int) != old.length) = false ∧ ((at_.length : Int) != new.length) = false ∧ memOk old = true ∧ memOk new = false) := by
      by_cases e1 : at_.length = old.length <;> by_cases e2 : at_.length = new.length <;> cases e3 : memOk m <;> cases e4 : memOk old <;> cases e5 : memOk new <;> simp_all <;> omega
    clear hhead
    have Hno := hid hno
    clear hno
    rcases hcase with e1 | ⟨e1, e2⟩ | ⟨e1, e2, e3⟩ | ⟨e1, e2, e3, e4⟩ | ⟨e1, e2, e3, e4, e5⟩
    all_goals
      go_wp2_with (go_at_call 9; first | ((with_reducible refine (spec_MemoryOk0 _ m _ g0).mono ?_); rintro e w' ⟨rfl, rfl⟩) | ((with_reducible refine (spec_MemoryOk0 _ old _ g2).mono ?_); rintro e w' ⟨rfl, rfl⟩) | ((with_reducible refine (spec_MemoryOk0 _ new _ g3).mono ?_); rintro e w' ⟨rfl, rfl⟩))
      go_ret2
      rw [Hno.out]
      exact ⟨_, rfl, o1, b1⟩
  case pos =>
    obtain ⟨e1, e2, e3, e4, e5⟩ := hhead
    have d2 : ((at_.length : Int) != old.length) = false := by simp; omega
    have d3 : ((at_.length : Int) != new.length) = false := by simp; omega
    have He2 := hid e2
    have He3 := hid e3
    clear e2 e3
    go_wp2_with (go_at_call 9; first | ((with_reducible refine (spec_MemoryOk0 _ m _ g0).mono ?_); rintro e w' ⟨rfl, rfl⟩) | ((with_reducible refine (spec_MemoryOk0 _ old _ g2).mono ?_); rintro e w' ⟨rfl, rfl⟩) | ((with_reducible refine (spec_MemoryOk0 _ new _ g3).mono ?_); rintro e w' ⟨rfl, rfl⟩))
    obtain ⟨ad', cap', hv', _, _, hc1⟩ := Ints.open h1
    obtain ⟨rfl, rfl⟩ : ad1 = ad' ∧ cap1 = cap' := by simpa using hv'
    obtain ⟨ad'', cap'', hv'', _, _, hc2⟩ := Ints.open h2
    obtain ⟨rfl, rfl⟩ : ad2 = ad'' ∧ cap2 = cap'' := by simpa using hv''
    obtain ⟨ad3', cap3', hv3', _, _, hc3⟩ := Ints.open h3
    obtain ⟨rfl, rfl⟩ : ad3 = ad3' ∧ cap3 = cap3' := by simpa using hv3'
    obtain ⟨ad4', cap4', hv4', _, _, hc0⟩ := Ints.open h
    obtain ⟨rfl, rfl⟩ : ad = ad4' ∧ cap = cap4' := by simpa using hv4'
    clear hv' hv'' hv3' hv4' g0 g1 g2 g3
    go_loopw [11] (fun i wr => ∃ k : Nat, k ≤ at_.length ∧ i = .int .i64 k ∧ Hid (∀ j, j < k → placeOk m.length at_ j = true ∧ oldOk m at_ old j = true) ∧ wr.ownsRow w.heap.size 3 1 v1 m.length ((swapAt m at_ new k).flatMap encI) ∧ Below w.heap.size w wr) (fun i _ => at_.length - (intOf i).toNat)
    case atStart => exact ⟨0, by omega, rfl, fun j hj => by omega, o1, b1⟩
    case round =>
      clear o1 b1
      obtain ⟨k, hk, rfl, hgood, ho, hB⟩ := hrel
      by_cases hlt : k < at_.length
      case neg =>
        obtain rfl : k = at_.length := by omega
        have hok : swapOk m at_ old new = true := by
          unfold swapOk
          simp only [Bool.and_eq_true, decide_eq_true_eq, allUpto_iff]
          exact ⟨⟨⟨⟨⟨⟨e1, He2.out⟩, He3.out⟩, e4⟩, e5⟩, fun j hj => (hgood.out j hj).1⟩, fun j hj => (hgood.out j hj).2⟩
        have hF := hid (swapF_yes _ _ _ _ hok)
        clear hok
        go_wp2
        go_ret2
        rw [hF.out]
        exact ⟨_, rfl, ho, hB⟩
      obtain ⟨bb, off, rfl, hbs, q1⟩ := hc1 k hlt
      obtain ⟨bb2, off2, rfl, hbs2, q2⟩ := hc2 k (by have := He2.out; omega)
      obtain ⟨bb3, off3, rfl, hbs3, q3⟩ := hc3 k (by have := He3.out; omega)
      have hlo : k < old.length := by have := He2.out; omega
      have hln : k < new.length := by have := He3.out; omega
      rw [← hB.cell (p := ⟨bb, off + k, none⟩) hbs] at q1
      rw [← hB.cell (p := ⟨bb2, off2 + k, none⟩) hbs2] at q2
      rw [← hB.cell (p := ⟨bb3, off3 + k, none⟩) hbs3] at q3
      have hmr : Ints wr _ m := Ints.below h hB
      have hsub := Ints.cut (Ints.below h1 hB) rfl k hk
      have hp1 := hid (show at_.getD k 0 = at_[k] by simp [List.getD, hlt])
      have hp2 := hid (show old.getD k 0 = old[k] by simp [List.getD, hlo])
      have hp3 := hid (show new.getD k 0 = new[k] by simp [List.getD, hln])
      have hnoP : placeOk m.length at_ k = false → Hid (swapF m at_ old new = (m, false)) := fun h => swapF_no _ _ _ _ (by
        cases hs : swapOk m at_ old new with
        | false => rfl
        | true =>
          unfold swapOk at hs
          simp only [Bool.and_eq_true, allUpto_iff] at hs
          have := hs.1.2 k hlt
          rw [h] at this
          cases this)
      have hnoO : oldOk m at_ old k = false → Hid (swapF m at_ old new = (m, false)) := fun h => swapF_no _ _ _ _ (by
        cases hs : swapOk m at_ old new with
        | false => rfl
        | true =>
          unfold swapOk at hs
          simp only [Bool.and_eq_true, allUpto_iff] at hs
          have := hs.2 k hlt
          rw [h] at this
          cases this)
      have HnoP := hid hnoP
      have HnoO := hid hnoO
      have hc0' := hid hc0
      clear hc1 hc2 hc3 hc0 hnoP hnoO
      by_cases hA : inB at_[k] 0 (m.length - 1) = true
      case neg =>
        have hA : inB at_[k] 0 (m.length - 1) = false := by simpa using hA
        have Hno := HnoP.out (by unfold placeOk; rw [hp1.out, hA]; rfl)
        go_wp2_with fail
        go_quiet ((first | (go_at_call 37; exact quiet_eq (spec_l1In _ _ _ _)) | (go_at_call 43; exact quiet_eq (spec_l1Has _ (at_.take k) _ _ hsub))))
        go_wp2_with fail
        refine (spec_l1Copy _ m _ (Flat.drewN hmr _) hx).mono ?_
        rintro e w2 ⟨v2, rfl, o2, b2⟩
        have hB2 := (below_drewN hB nq).trans (b2.mono hB.size)
        go_wp2
        go_ret2
        rw [Hno.out]
        exact ⟨_, rfl, owns_mono o2 hB.size, hB2⟩
      obtain ⟨j, hjk, hj⟩ : ∃ j : Nat, at_[k] = j ∧ j < m.length := ⟨at_[k].toNat, by simp [inB] at hA; omega, by simp [inB] at hA; omega⟩
      rw [hjk] at q1 hA
      obtain ⟨b0, off0, rfl, hbs0, q0⟩ := hc0'.out j hj
      rw [← hB.cell (p := ⟨b0, off0 + j, none⟩) hbs0] at q0
      have Hjk := hid hjk
      clear hjk hc0'
      by_cases hH : hasFrom (at_.take k) j 0 = true
      case pos =>
        have Hno := HnoP.out (by unfold placeOk; rw [hp1.out, Hjk.out, hA, hH]; rfl)
        go_wp2_with fail
        go_quiet ((first | (go_at_call 37; exact quiet_eq (spec_l1In _ _ _ _)) | (go_at_call 43; exact quiet_eq (spec_l1Has _ (at_.take k) _ _ hsub))))
        go_wp2_with fail
        refine (spec_l1Copy _ m _ (Flat.drewN hmr _) hx).mono ?_
        rintro e w2 ⟨v2, rfl, o2, b2⟩
        have hB2 := (below_drewN hB nq).trans (b2.mono hB.size)
        go_wp2
        go_ret2
        rw [Hno.out]
        exact ⟨_, rfl, owns_mono o2 hB.size, hB2⟩
      have hH : hasFrom (at_.take k) j 0 = false := by simpa using hH
      by_cases hV : m[j] = old[k]
      case neg =>
        have hV' : (m[j] != old[k]) = true := by simpa using hV
        have Hno := HnoO.out (by unfold oldOk; rw [hp1.out, hp2.out, Hjk.out]; simp [List.getD, hj, hV])
        clear hV
        go_wp2_with fail
        go_quiet ((first | (go_at_call 37; exact quiet_eq (spec_l1In _ _ _ _)) | (go_at_call 43; exact quiet_eq (spec_l1Has _ (at_.take k) _ _ hsub))))
        go_wp2_with fail
        refine (spec_l1Copy _ m _ (Flat.drewN hmr _) hx).mono ?_
        rintro e w2 ⟨v2, rfl, o2, b2⟩
        have hB2 := (below_drewN hB nq).trans (b2.mono hB.size)
        go_wp2
        go_ret2
        rw [Hno.out]
        exact ⟨_, rfl, owns_mono o2 hB.size, hB2⟩
      have hV' : (m[j] != old[k]) = false := by simpa using hV
      have hgk : placeOk m.length at_ k = true ∧ oldOk m at_ old k = true := ⟨by unfold placeOk; rw [hp1.out, Hjk.out, hA, hH]; rfl, by unfold oldOk; rw [hp1.out, hp2.out, Hjk.out]; simp [List.getD, hj, hV]⟩
      have Hgk := hid hgk
      clear hgk hV
      obtain ⟨g, gcap, rfl, hgl, hgm, hgb, hgs, hgc, hgf⟩ := owns_at ho (by omega)
      have hgj := hgc j (by omega)
      rw [encI_get _ _ (by rw [swapAt_len]; exact hj)] at hgj
      have hgfj := hgf j
      have hst := World.ownsRow.stored ho j (.int .i64 new[k])
      have hendB := hB.setCell (p := ⟨g, j, none⟩) hgb (.int .i64 new[k])
      rw [encI_set] at hst
      have Hsw := hid (show swapAt m at_ new (k+1) = (swapAt m at_ new k).set j new[k] by rw [swapAt, hp1.out, hp3.out, Hjk.out, Int.toNat_natCast])
      have hst1 := hid hst.1
      clear hst hgc hgf
      generalize (swapAt m at_ new k)[j]'(by rw [swapAt_len]; exact hj) = x at hgj
      go_wp2_with fail
      go_quiet ((first | (go_at_call 37; exact quiet_eq (spec_l1In _ _ _ _)) | (go_at_call 43; exact quiet_eq (spec_l1Has _ (at_.take k) _ _ hsub))))
      go_wp2
      go_region
      all_goals (try go_wp2)
      go_roundw
      case rel => exact ⟨k+1, by omega, by go_num, fun i hi => by
        by_cases e : i = k
        · subst e; exact Hgk.out
        · exact hgood.out i (by omega), by rw [Hsw.out]; exact hst1.out, (below_drewN hendB (nq + 1))⟩
      case measure => simp [intOf]; omega

theorem spec_SwapAll (v : Value) (m : List Int) (u1 : Value) (at_ : List Int) (u2 : Value) (old : List Int) (u3 : Value) (new : List Int) (w : World) (h : Ints w v m) (hx : m.length ≤ 1048576) (h1 : Ints w u1 at_) (hx1 : at_.length ≤ 1048576) (h2 : Ints w u2 old) (hx2 : old.length ≤ 1048576) (h3 : Ints w u3 new) (hx3 : new.length ≤ 1048576) :
    Calls Try.prog 24 #[v, u1, u2, u3] w fun e w' => ∃ v', e = .returned (.tuple #[v', .bool (swapF m at_ old new).2]) ∧ Ints w' v' (swapF m at_ old new).1 ∧ Below w.heap.size w w' :=
  (spec_SwapAll_own v m u1 at_ u2 old u3 new w h hx h1 hx1 h2 hx2 h3 hx3).mono fun _ _ ⟨v', e, ho, hb⟩ => ⟨v', e, by unfold Ints; rw [swapF_len]; exact Flat.of_owns ho, hb⟩
end Go.Proofs.Ytfhkngmankmehaa
