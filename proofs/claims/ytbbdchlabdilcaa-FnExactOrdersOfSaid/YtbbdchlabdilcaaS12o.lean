/- Chapter 12's model: in how many orders. -/
import Derived.Test.YtbbdchlabdilcaaF12o
import Derived.Test.YtbbdchlabdilcaaS12f
import Derived.Test.YtbbdchlabdilcaaI12b
namespace Go.Proofs.Ytbbdchlabdilcaa
set_option maxRecDepth 100000
open Go.RowKit Go.Proofs Go.Own Go.Ord
open Go Go.BigFrame
set_option linter.unusedVariables false
set_option linter.unusedSimpArgs false
theorem infoBool12 : (Try.prog.info? 4).map (fun i => (i.zero, i.size, i.bytes)) = some (some (.bool false), 1, 1) := by kernel_rfl
theorem encB_set : ∀ (xs : List Bool) (j : Nat) (x : Bool), (xs.flatMap encB).set j (.bool x) = (xs.set j x).flatMap encB
  | [], _, _ => rfl
  | y :: ys, 0, x => rfl
  | y :: ys, j+1, x => by
    show (Value.bool y :: ys.flatMap encB).set (j+1) (.bool x) = _
    rw [List.set_cons_succ, encB_set ys j x]; rfl
theorem encB_get : ∀ (xs : List Bool) (j : Nat) (h : j < xs.length), (xs.flatMap encB)[j]? = some (.bool (xs.getD j false))
  | [], _, h => by simp at h
  | y :: ys, 0, _ => rfl
  | y :: ys, j+1, h => by
    show (Value.bool y :: ys.flatMap encB)[j+1]? = _
    rw [List.getElem?_cons_succ, encB_get ys j (by simpa using h)]; rfl
theorem flat_chgB {S : Nat → Prop} {w w' : World} {v : Value} {n sz : Nat} {cs : List Value} (h : Flat w v n sz cs) (C : ChgS S w w') (hS : ∀ b, v.ownBlock = some b → ¬ S b) : Flat w' v n sz cs := by
  obtain ⟨hl, a, cap, rfl, h1, h2, h0, h3⟩ := h
  refine ⟨hl, a, cap, rfl, h1, h2, h0, ?_⟩
  rcases h3 with h3 | ⟨b, off, rfl, hs, hc⟩
  · exact .inl h3
  · exact .inr ⟨b, off, rfl, Nat.lt_of_lt_of_le hs C.size, fun j hj => (cell_chg C hs (hS b rfl)).trans (hc j hj)⟩
theorem chg_low {S T : Nat → Prop} {w w' : World} (h : ChgS S w w') (hs : ∀ b, S b → b < w.heap.size → T b) : ChgS T w w' := ⟨h.os, h.tape, h.output, h.size, fun k hk hn => h.block k hk fun hS => hn (hs k hS hk)⟩
theorem cell_in {w : World} {b o : Nat} {v : Value} (h : w.cell? ⟨b, o, none⟩ = some v) : b < w.heap.size := by
  rcases Nat.lt_or_ge b w.heap.size with hl | hl
  · exact hl
  · simp [World.cell?, Array.getElem?_eq_none hl] at h
theorem termF_done {ds : List DescD} {n : Nat} {vs : List Int} {dn : List Bool} {i : Nat} (h : dn.getD i false = true) : termF canD dovD ds n vs dn i = 0 := by unfold termF; exact if_pos h
theorem termF_cant {ds : List DescD} {n : Nat} {vs : List Int} {dn : List Bool} {i : Nat} (hi : i < ds.length) (h : canL vs ds[i].entries_ = false) : termF canD dovD ds n vs dn i = 0 := by
  unfold termF
  split
  · rfl
  · rw [List.getElem?_eq_getElem hi]; exact if_neg (by show ¬ canL vs ds[i].entries_ = true; rw [h]; simp)
theorem termF_can {ds : List DescD} {n : Nat} {vs : List Int} {dn : List Bool} {i : Nat} (hd : dn.getD i false = false) (hi : i < ds.length) (h : canL vs ds[i].entries_ = true) : termF canD dovD ds n vs dn i = cntF canD dovD ds n (doL vs ds[i].entries_) (dn.set i true) := by
  unfold termF
  rw [if_neg (by rw [hd]; simp), List.getElem?_eq_getElem hi]
  exact if_pos h
set_option maxHeartbeats 16000000 in
theorem spec_l12Count0 (ds : List DescD) (nv m gd cd bd : Nat) (a1 : Option Addr) (cap1 : Nat) (wA : World) (hm : ds.length = m) (hm6 : m ≤ 6) (hnv : 1 ≤ nv ∧ nv ≤ 8) (hgA : wA.heap.size ≤ gd)
    (hob : ∀ k, (hk : k < ds.length) → ∀ i, (h : i < ds[k].entries_.length) → 0 ≤ ds[k].entries_[i].object_ ∧ ds[k].entries_[i].object_ < (nv : Int)) :
    ∀ (n : Nat) (vs : List Int) (v0 : Value) (dn : List Bool) (w : World), vs.length = nv → n ≤ 6 → dn.length = m → (liveL ds dn).length = n → Ints w v0 vs → (∀ b, v0.ownBlock = some b → ¬ b = gd) → Below wA.heap.size wA w → DescsAt gd wA w a1 ds → w.ownsRow bd 4 1 (.slice (some ⟨gd, 0, none⟩) m cd) m (dn.flatMap encB) →
    Calls Try.prog 28 #[v0, .slice a1 m cap1, .slice (some ⟨gd, 0, none⟩) m cd, .int .i64 (n : Int)] w fun e w' => e = .returned (.int .i64 ((cntF canD dovD ds n vs dn : Nat) : Int)) ∧ w'.ownsRow bd 4 1 (.slice (some ⟨gd, 0, none⟩) m cd) m (dn.flatMap encB) ∧ ChgS (fun b => b = gd) w w' := by
  intro n
  induction n with
  | zero =>
    intro vs v0 dn w hvs hn6 hdn hlv r0 hb0 hA hd hrow
    obtain ⟨a0, cap0, rfl, -, -⟩ := Flat.form r0
    have HR := hid hrow
    clear hrow hd r0 hvs hdn hlv
    go_enter Try.func28, Try.ntmps28
    go_wp2
    go_ret
    exact ⟨rfl, HR.out, ChgS.refl _ _⟩
  | succ n ih =>
    intro vs v0 dn w hvs hn6 hdn hlv r0 hb0 hA hd hrow
    have IH := hid ih
    have R0 := hid r0
    have HB0 := hid hb0
    have HD := hid hd
    have HROW := hid hrow
    have HVS := hid hvs
    have HDN := hid hdn
    have HLV := hid hlv
    have HA := hid hA
    have HOB := hid hob
    have HM := hid hm
    have hdl : ds.length ≤ 6 := by omega
    have Hle := hid (fun i (hi : i ≤ ds.length) => Nat.le_trans (sumF_le canD dovD ds n vs dn i hi) (Nat.le_trans (cntF_le (by rw [hm, hdn]) hlv) (facN_le6 hn6)))
    have Hfin := hid (sumF_all canD dovD ds n vs dn)
    have hgd := (World.ownsRow.lt hrow _ rfl).2
    have hn1 : ((n + 1 : Nat) : Int) - 1 = (n : Int) := by omega
    have hn0 : ¬ ((n + 1 : Nat) : Int) = 0 := by omega
    obtain ⟨a0, cap0, hv0, -, -⟩ := Flat.form r0
    rw [hvs] at hv0
    subst hv0
    clear ih r0 hb0 hd hrow hvs hdn hlv hob hm hA
    go_enter Try.func28, Try.ntmps28
    go_wp2
    go_loopw [10, 9] (fun i a wr => ∃ k : Nat, k ≤ m ∧ i = .int .i64 k ∧ a = .int .i64 ((sumF canD dovD ds n vs dn k : Nat) : Int) ∧ Hid (wr.ownsRow bd 4 1 (.slice (some ⟨gd, 0, none⟩) m cd) m (dn.flatMap encB)) ∧ Hid (ChgS (fun b => b = gd) w wr)) (fun i _ _ => m - (intOf i).toNat)
    case atStart => exact ⟨0, by omega, rfl, rfl, HROW, hid (ChgS.refl _ _)⟩
    case round =>
      clear HROW
      obtain ⟨k, hk, rfl, rfl, HO, HC⟩ := hrel
      have hsr := HC.out.size
      by_cases hlt : k < m
      · have hkd : k < ds.length := by have := HM.out; omega
        have e0 : wr.cell? ⟨gd, k, none⟩ = some (.bool (dn.getD k false)) := by rw [HO.out.cellAt k (by omega), encB_get dn k (by rw [HDN.out]; exact hlt)]
        have f0 : wr.frozen? ⟨gd, k, none⟩ = false := HO.out.frozenAt k
        have hk0 : (0 : Int) ≤ (k : Int) := by omega
        have hkm : (k : Int) < (m : Int) := by omega
        have Hs := hid (sumF_succ canD dovD ds n vs dn k)
        have Hb1 := hid (Hle.out (k+1) (by omega))
        have HAr := hid (below_chg HA.out HC.out HA.out.size (fun b hb => by omega))
        obtain ⟨b, off, u, rfl, c0, c1, c2, hr⟩ := HD.out wr HC.out k hkd
        obtain ⟨ub, uc, rfl, -, -, -⟩ := rdsL_open hr
        have HR := hid hr
        have HOBk := hid (HOB.out k hkd)
        have Hdone := hid (fun h => termF_done (ds := ds) (n := n) (vs := vs) (dn := dn) (i := k) h)
        have Hcant := hid (fun h => termF_cant (ds := ds) (n := n) (vs := vs) (dn := dn) (i := k) hkd h)
        have Hcan9 := hid (fun hd h => termF_can (ds := ds) (n := n) (vs := vs) (dn := dn) (i := k) hd hkd h)
        have Hlive := hid (fun h => live_set ds dn k hkd (by rw [HM.out, HDN.out]) h)
        have Hset := hid (fun (h : dn.getD k false = false) => show (dn.set k true).set k false = dn by
          rw [List.set_set]
          have z : dn[k]'(by rw [HDN.out]; exact hlt) = false := by rw [List.getD_eq_getElem?_getD, List.getElem?_eq_getElem (by rw [HDN.out]; exact hlt)] at h; exact h
          rw [← z, List.set_getElem_self])
        have HIr := hid (flat_chgB R0.out HC.out (fun b hb => HB0.out b hb))
        clear hr
        generalize ds[k].entries_ = es at *
        generalize ds[k].owner_ = ow at *
        generalize ds[k].status_ = st at *
        generalize dn.getD k false = D at *
        cases D with
        | true =>
          have Hn := hid (show sumF canD dovD ds n vs dn k = sumF canD dovD ds n vs dn (k+1) by rw [Hs.out, Hdone.out rfl]; rfl)
          clear Hs Hdone Hcant Hcan9 Hlive Hset
          go_wp2
          go_roundw
          case rel => exact ⟨k+1, by omega, by go_num, by rw [Hn.out], HO, HC⟩
          case measure => simp [intOf]; omega
        | false =>
        obtain ⟨B, hB9⟩ : ∃ B, Hid (canL vs es = B) := ⟨_, hid rfl⟩
        have Hcall := hid (spec_l12Can0 vs ow st es (.slice a0 nv cap0) _ wr HIr.out (rdsL.below HR.out HAr.out) (fun i hi => by rw [HVS.out]; exact HOBk.out i hi) (by rw [HVS.out]; omega))
        rw [hB9.out] at Hcall Hcant Hcan9
        go_wp2_with fail
        refine Hcall.out.mono ?_
        rintro e w5 ⟨rfl, b5⟩
        have hs5 := b5.size
        have HC5 := hid (HC.out.trans (ChgS.of_below b5 (fun b => b = gd)))
        have HO5 := hid (owns_below HO.out b5)
        have HI5 := hid (Flat.below HIr.out b5)
        have g0 := (b5.cell (p := ⟨b, off + k * 3, none⟩) (cell_in c0)).trans c0
        have g1 := (b5.cell (p := ⟨b, off + k * 3 + 1, none⟩) (cell_in c1)).trans c1
        have g2 := (b5.cell (p := ⟨b, off + k * 3 + 2, none⟩) (cell_in c2)).trans c2
        clear c0 c1 c2 e0 f0 Hcall HO HIr
        cases B with
        | false =>
          have Hn := hid (show sumF canD dovD ds n vs dn k = sumF canD dovD ds n vs dn (k+1) by rw [Hs.out, Hcant.out (by first | exact rfl | trivial)]; rfl)
          clear Hs Hdone Hcant Hcan9 Hlive Hset
          go_wp2
          go_roundw
          case rel => exact ⟨k+1, by omega, by go_num, by rw [Hn.out], HO5, HC5⟩
          case measure => simp [intOf]; omega
        | true =>
        have Hn := hid (show sumF canD dovD ds n vs dn (k+1) = sumF canD dovD ds n vs dn k + cntF canD dovD ds n (doL vs es) (dn.set k true) by rw [Hs.out, Hcan9.out (by first | exact rfl | trivial) (by first | exact rfl | trivial)])
        have Hl2 := hid (Hlive.out (by first | exact rfl | trivial))
        have Hset2 := hid (Hset.out (by first | exact rfl | trivial))
        clear Hs Hdone Hcant Hcan9 Hlive Hset
        go_wp2_with fail
        refine (spec_l1Copy _ vs _ HI5.out (by have := HVS.out; omega)).mono ?_
        rintro e w6 ⟨u6, rfl, o6, b6⟩
        rw [HVS.out] at o6
        have hs6 := b6.size
        obtain ⟨gx, cx, rfl, hcx1, hcx2, hgx1, hgx2, -, -⟩ := owns_at o6 (by omega)
        have O6 := hid o6
        have HC6 := hid (HC5.out.trans (ChgS.of_below b6 (fun b => b = gd)))
        have HO6 := hid (owns_below HO5.out b6)
        have HA6 := hid (below_chg HA.out HC6.out HA.out.size (fun b hb => by omega))
        have HAs := HA.out.size
        have j0 := (b6.cell (p := ⟨b, off + k * 3, none⟩) (cell_in g0)).trans g0
        have j1 := (b6.cell (p := ⟨b, off + k * 3 + 1, none⟩) (cell_in g1)).trans g1
        have j2 := (b6.cell (p := ⟨b, off + k * 3 + 2, none⟩) (cell_in g2)).trans g2
        have Hdo := hid (spec_l12Do0 vs ow st es nv HVS.out w5.heap.size gx cx _ wA w6 HA6.out (by omega) HR.out O6.out (fun i hi => HOBk.out i hi) (by omega))
        clear g0 g1 g2 o6 b6 b5 HO5 HC5 HI5
        go_wp2_with fail
        refine Hdo.out.mono ?_
        rintro e w7 ⟨rfl, o7, C7⟩
        have hs7 := C7.size
        have HO7 := hid (owns_same HO6.out fun b hb => C7.block b (World.ownsRow.lt HO6.out b hb).2 (by have e : gd = b := Option.some.inj hb; omega))
        have HC7 := hid (chg_low (T := fun b => b = gd) ((HC6.out.mono (T := fun b => b = gd ∨ b = gx) fun b h => .inl h).trans (C7.mono fun b h => .inr h)) (fun b hb hl => by omega))
        have e7 : w7.cell? ⟨gd, k, none⟩ = some (.bool (dn.getD k false)) := by rw [HO7.out.cellAt k (by omega), encB_get dn k (by rw [HDN.out]; exact hlt)]
        have f7 : w7.frozen? ⟨gd, k, none⟩ = false := HO7.out.frozenAt k
        generalize dn.getD k false = D9 at e7
        have O7 := hid o7
        clear o7 C7 Hdo j0 j1 j2 HO6 O6
        go_wp2_with fail
        have HO8 := hid (show (w7.setCell ⟨gd, k, none⟩ (.bool true)).ownsRow bd 4 1 (.slice (some ⟨gd, 0, none⟩) m cd) m ((dn.set k true).flatMap encB) by rw [← encB_set]; exact owns_put HO7.out k _)
        have HC8 := hid (HC7.out.set ⟨gd, k, none⟩ (.bool true) rfl)
        have HI8 := hid (show Ints (w7.setCell ⟨gd, k, none⟩ (.bool true)) (.slice (some ⟨gx, 0, none⟩) nv cx) (doL vs es) by
          show Flat _ _ (doL vs es).length 1 _
          rw [doL_len, HVS.out]
          exact Flat.of_owns (owns_same O7.out fun b hb => heap_setCell_other _ _ b _ (by have e : gx = b := Option.some.inj hb; show ¬ b = gd; omega)))
        have Hrec := hid (IH.out (doL vs es) (.slice (some ⟨gx, 0, none⟩) nv cx) (dn.set k true) (w7.setCell ⟨gd, k, none⟩ (.bool true)) (by rw [doL_len, HVS.out]) (by omega) (by rw [List.length_set]; exact HDN.out) (by have := Hl2.out; have := HLV.out; omega) HI8.out (fun b hb => by have e : gx = b := Option.some.inj hb; omega) (below_chg HA.out HC8.out HA.out.size (fun b hb => by omega)) (fun wr9 C k9 hk9 => HD.out wr9 (HC8.out.trans C) k9 hk9) HO8.out)
        obtain ⟨W8, hW8⟩ : ∃ X, w7.setCell ⟨gd, k, none⟩ (.bool true) = X := ⟨_, rfl⟩
        rw [hW8] at HO8 HC8 HI8 Hrec ⊢
        refine Hrec.out.mono ?_
        rintro e w9 ⟨rfl, o9, C9⟩
        have HC9 := hid (HC8.out.trans C9)
        have e9 : w9.cell? ⟨gd, k, none⟩ = some (.bool ((dn.set k true).getD k false)) := by rw [o9.cellAt k (by omega), encB_get _ k (by rw [List.length_set, HDN.out]; exact hlt)]
        have f9 : w9.frozen? ⟨gd, k, none⟩ = false := o9.frozenAt k
        generalize (dn.set k true).getD k false = D9 at e9
        have HO10 := hid (show (w9.setCell ⟨gd, k, none⟩ (.bool false)).ownsRow bd 4 1 (.slice (some ⟨gd, 0, none⟩) m cd) m (dn.flatMap encB) by
          have z := owns_put o9 k (.bool false)
          rw [encB_set, Hset2.out] at z; exact z)
        have HC10 := hid (HC9.out.set ⟨gd, k, none⟩ (.bool false) rfl)
        have hb720 := Hb1.out
        rw [Hn.out] at hb720
        generalize cntF canD dovD ds n (doL vs es) (dn.set k true) = c9 at *
        generalize sumF canD dovD ds n vs dn k = s9 at *
        have Hn9 := hid (show ((s9 : Nat) : Int) + (c9 : Int) = ((sumF canD dovD ds n vs dn (k+1) : Nat) : Int) by rw [Hn.out, Int.natCast_add])
        have hi9 : (s9 : Int) + (c9 : Int) ≤ 720 := by omega
        have hi8 : (0 : Int) ≤ (s9 : Int) + (c9 : Int) := by omega
        clear o9 C9 HO8 HC8 HI8 Hrec hW8 e7 f7 HO7 HC7 hb720 Hb1 Hn HC9
        go_wp2
        go_roundw
        case rel => exact ⟨k+1, by omega, by go_num, by rw [← Hn9.out], HO10, HC10⟩
        case measure => simp [intOf]; omega
      · obtain rfl : k = m := by omega
        have Hv := hid (show sumF canD dovD ds n vs dn k = cntF canD dovD ds (n+1) vs dn by rw [← HM.out]; exact Hfin.out)
        have hv := Hv.out
        rw [hv]
        clear hv Hv
        go_wp2
        go_ret
        exact ⟨rfl, HO.out, HC.out⟩
end Go.Proofs.Ytbbdchlabdilcaa
