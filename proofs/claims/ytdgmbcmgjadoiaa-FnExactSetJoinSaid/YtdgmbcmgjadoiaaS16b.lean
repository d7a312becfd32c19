/- Chapter 16's model: a value put, a set copied, a set doubled. -/
import Derived.Test.YtdgmbcmgjadoiaaS16
import Derived.Test.YtdgmbcmgjadoiaaCuts
import Derived.Test.YtdgmbcmgjadoiaaSl
import Derived.Test.YtdgmbcmgjadoiaaO16
namespace Go.Proofs.Ytdgmbcmgjadoiaa
set_option maxRecDepth 100000
open Go.RowKit Go.Proofs Go.Own
open Go Go.BigFrame
set_option linter.unusedVariables false
set_option linter.unusedSimpArgs false
theorem owns_cnt {w : World} {b e sz n m : Nat} {v : Value} {cs : List Value} (h : w.ownsRow b e sz v n cs) (hn : n = m) : w.ownsRow b e sz v m cs := hn ▸ h
theorem putL_enc (xs : List Int) (x : Int) : (putL xs x).flatMap encI = (xs.take (cntLt xs x)).flatMap encI ++ ([.int .i64 x] ++ (xs.drop (cntLt xs x)).flatMap encI) := by
  unfold putL; rw [List.flatMap_append, List.flatMap_cons]; rfl
set_option maxHeartbeats 8000000 in
theorem spec_l16Put (xs : List Int) (x : Int) (v : Value) (w : World) (h : Ints w v xs) (hx : xs.length ≤ 1048576) :
    Calls Try.prog 58 #[v, .int .i64 x] w fun e w' => ∃ u, e = .returned u ∧ w'.ownsRow w.heap.size 3 1 u (putL xs x).length ((putL xs x).flatMap encI) ∧ Below w.heap.size w w' := by
  obtain ⟨j0, hj, hy0, hy1, hy2⟩ := info_parts infoInt0
  have HI := hid h
  obtain ⟨a, cap, rfl, hl9, hm9, hc⟩ := h.open
  have HC := hid hc
  clear hc h
  have Henc := hid (putL_enc xs x)
  have Hlen := hid (putL_len xs x)
  have Hof := hid (fun k (hk : k ≤ xs.length) h1 h2 => cntLt_of (xs := xs) (x := x) (k := k) hk h1 h2)
  generalize putL xs x = Y at *
  generalize cntLt xs x = c at *
  go_enter Try.func58, Try.ntmps58
  go_wp2
  go_loopw [5] (fun i wr => ∃ k : Nat, k ≤ xs.length ∧ i = .int .i64 k ∧ Hid (∀ j (hj : j < xs.length), j < k → xs[j] < x) ∧ wr = w) (fun i _ => xs.length - (intOf i).toNat)
  case atStart => exact ⟨0, by omega, rfl, hid (fun j h h2 => by omega), rfl⟩
  case round =>
    obtain ⟨k, hk, rfl, HK, rfl⟩ := hrel
    by_cases hgo : ∃ h : k < xs.length, xs[k] < x
    · obtain ⟨hlt, hy⟩ := hgo
      obtain ⟨bb, off, rfl, hbs, c0⟩ := HC.out k hlt
      have HK2 := hid (fun j (h : j < xs.length) (h2 : j < k + 1) => (show xs[j] < x from by
        by_cases e : j = k
        · subst e; exact hy
        · exact HK.out j h (by omega)))
      generalize xs[k] = y at *
      clear HC HK Hof
      go_wp2
      go_roundw
      case rel => exact ⟨k+1, by omega, by go_num, HK2, by first | rfl | trivial⟩
      case measure => simp [intOf]; omega
    · have hkc : c = k := Hof.out k hk (fun i hi hik => HK.out i hi hik) (fun h => by by_cases hy : xs[k] < x; exact absurd ⟨h, hy⟩ hgo; first | exact hy | omega)
      subst hkc
      have hgo2 : c < xs.length → ∃ bb off y, a = some ⟨bb, off, none⟩ ∧ wr.cell? ⟨bb, off + c, none⟩ = some (.int .i64 y) ∧ ¬ y < x := fun hlt => by
        obtain ⟨bb, off, e, _, c0⟩ := HC.out c hlt
        exact ⟨bb, off, xs[c], e, c0, fun hy => hgo ⟨hlt, hy⟩⟩
      have HG := hid hgo2
      clear hgo2 hgo HC HK Hof
      obtain ⟨vc, hrc, hfc⟩ := slice_from Try.underlying22 hj hy1 HI.out c hk
      have hrc' : ∀ w', (Instr.slice 22 (.slice a xs.length cap) (some (.int .i64 (c : Int))) none none).run Try.prog w' = .ok vc w' := hrc
      have hfc' : Ints wr vc (xs.drop c) := by
        rw [← Nat.mul_one c, drop_flatMap encI 1 (fun _ => rfl)] at hfc
        rw [Nat.mul_one] at hfc
        unfold Ints
        rw [show (xs.drop c).length = xs.length - c by simp]
        exact hfc
      have HP := hid (ints_pre HI.out c hk)
      obtain ⟨W1, hW1⟩ : ∃ X, wr.alloc (.cells #[.int .i64 x] 3) = X := ⟨_, rfl⟩
      have hB1 : Below wr.heap.size wr W1 := by rw [← hW1]; exact (Below.refl _ _).alloc (Nat.le_refl _) _
      have o1 : W1.ownsRow wr.heap.size 3 1 (.slice (some ⟨wr.heap.size, 0, none⟩) 1 1) 1 [.int .i64 x] := by
        rw [← hW1]; exact owns_litN wr 3 1 1 #[.int .i64 x] wr.heap.size (Nat.le_refl _) rfl (by decide)
      have hd1 := Ints.below hfc' hB1
      have hone := oneCell_enc oneCell_I (xs.drop c)
      have hs1 : wr.heap.size ≤ W1.heap.size := hB1.size
      have hdl : (xs.drop c).length = xs.length - c := by simp
      have hc0 : (0 : Int) ≤ (c : Int) := by omega
      have hc1 : (c : Int) ≤ (xs.length : Int) := by omega
      clear hrc hfc hfc'
      rcases Nat.lt_or_ge c xs.length with hlt | hge
      · obtain ⟨bb, off, y, rfl, c0, hny⟩ := HG.out hlt
        go_upto_region 4 with fail
        (go_wp2_with (at_builtin; refine wpList_append_flat rfl _ _ 22 rfl wr.heap.size 3 j0 (.int .i64 0) 1 8 Try.underlying22 hj hy0 hy1 hy2 rfl (by decide) _ _ _ rfl o1 _ _ _ rfl hd1 hone (by unfold maxLen; omega) (by omega) hs1 ?_); intro v2 w2 o2 g2; obtain ⟨r2, m2, n2, rfl⟩ := owns_form3 o2; have B2 := hB1.trans (below_of_mark o1 g2 (Nat.le_refl _) hs1); have HB2 := hid B2; have HO2 := hid o2; have HPW := hid (Ints.below HP.out B2); clear o2 g2 hd1 o1 hB1 hs1 hW1 hrc' HG; obtain ⟨W3, hW3⟩ : ∃ X, w2.alloc (.cells #[] 3) = X := ⟨_, rfl⟩; have hB3 : Below w2.heap.size w2 W3 := (by rw [← hW3]; exact (Below.refl _ _).alloc (Nat.le_refl _) _); have HB3 := hid (HB2.out.trans (hB3.mono HB2.out.size)); have o3 : W3.ownsRow w2.heap.size 3 1 (.slice (some ⟨w2.heap.size, 0, none⟩) 0 0) 0 [] := (by rw [← hW3]; exact owns_litN w2 3 1 0 #[] w2.heap.size (Nat.le_refl _) rfl (Nat.zero_le _)); have HO2b := hid (owns_below HO2.out hB3); have hd3 := Ints.below HPW.out hB3; have hone3 := oneCell_enc oneCell_I (xs.take c); have hs3 : w2.heap.size ≤ W3.heap.size := hB3.size; have htl : (xs.take c).length = c := (by rw [List.length_take]; omega); have hd3' := hd3; unfold Ints at hd3'; rw [htl] at hd3'; go_wp2_with (at_builtin; refine wpList_append_flat rfl _ _ 22 rfl w2.heap.size 3 j0 (.int .i64 0) 1 8 Try.underlying22 hj hy0 hy1 hy2 rfl (by decide) _ _ _ rfl o3 _ _ _ rfl hd3' hone3 (by unfold maxLen; omega) (by omega) hs3 ?_); intro v4 w4 o4 g4; obtain ⟨r4, m4, n4, rfl⟩ := owns_form3 o4; have B4 := hB3.trans (below_of_mark o3 g4 (Nat.le_refl _) hs3); have HB4 := hid (HB2.out.trans (B4.mono HB2.out.size)); have HO4 := hid o4; have HO2c := hid (owns_below HO2.out B4); clear hd3 hd3' o3 hs3 hW3 g4 HO2b hB3; have hd5 := Flat.of_owns HO2c.out; have hone5 : ∀ c_1 ∈ Value.int .i64 x :: (xs.drop c).flatMap encI, c_1.oneCell' = true := (by intro q hq; rcases List.mem_cons.1 hq with rfl | hq; rfl; (exact hone q hq)); have hs4 : w2.heap.size ≤ w4.heap.size := B4.size; go_wp2_with (at_builtin; refine wpList_append_flat rfl _ _ 22 rfl w2.heap.size 3 j0 (.int .i64 0) 1 8 Try.underlying22 hj hy0 hy1 hy2 rfl (by decide) _ _ _ rfl HO4.out _ _ _ rfl hd5 hone5 (by unfold maxLen; omega) (by omega) hs4 ?_); intro v6 w6 o6 g6; obtain ⟨r6, m6, n6, rfl⟩ := owns_form3 o6; have HB6 := hid (HB4.out.trans ((below_of_mark HO4.out g6 (Nat.le_refl _) hs4).mono HB2.out.size)); have HO6 := hid o6; clear o6 g6 hd5 hone5 o4 B4; go_wp2; go_ret; exact ⟨_, rfl, (by rw [Henc.out, Hlen.out]; have z := owns_base HO6.out (fun b hb => Nat.le_trans HB2.out.size (World.ownsRow.lt HO6.out b hb).1); exact owns_cnt z (by omega)), HB6.out⟩)
      · go_upto_region 4 with fail
        (go_wp2_with (at_builtin; refine wpList_append_flat rfl _ _ 22 rfl wr.heap.size 3 j0 (.int .i64 0) 1 8 Try.underlying22 hj hy0 hy1 hy2 rfl (by decide) _ _ _ rfl o1 _ _ _ rfl hd1 hone (by unfold maxLen; omega) (by omega) hs1 ?_); intro v2 w2 o2 g2; obtain ⟨r2, m2, n2, rfl⟩ := owns_form3 o2; have B2 := hB1.trans (below_of_mark o1 g2 (Nat.le_refl _) hs1); have HB2 := hid B2; have HO2 := hid o2; have HPW := hid (Ints.below HP.out B2); clear o2 g2 hd1 o1 hB1 hs1 hW1 hrc' HG; obtain ⟨W3, hW3⟩ : ∃ X, w2.alloc (.cells #[] 3) = X := ⟨_, rfl⟩; have hB3 : Below w2.heap.size w2 W3 := (by rw [← hW3]; exact (Below.refl _ _).alloc (Nat.le_refl _) _); have HB3 := hid (HB2.out.trans (hB3.mono HB2.out.size)); have o3 : W3.ownsRow w2.heap.size 3 1 (.slice (some ⟨w2.heap.size, 0, none⟩) 0 0) 0 [] := (by rw [← hW3]; exact owns_litN w2 3 1 0 #[] w2.heap.size (Nat.le_refl _) rfl (Nat.zero_le _)); have HO2b := hid (owns_below HO2.out hB3); have hd3 := Ints.below HPW.out hB3; have hone3 := oneCell_enc oneCell_I (xs.take c); have hs3 : w2.heap.size ≤ W3.heap.size := hB3.size; have htl : (xs.take c).length = c := (by rw [List.length_take]; omega); have hd3' := hd3; unfold Ints at hd3'; rw [htl] at hd3'; go_wp2_with (at_builtin; refine wpList_append_flat rfl _ _ 22 rfl w2.heap.size 3 j0 (.int .i64 0) 1 8 Try.underlying22 hj hy0 hy1 hy2 rfl (by decide) _ _ _ rfl o3 _ _ _ rfl hd3' hone3 (by unfold maxLen; omega) (by omega) hs3 ?_); intro v4 w4 o4 g4; obtain ⟨r4, m4, n4, rfl⟩ := owns_form3 o4; have B4 := hB3.trans (below_of_mark o3 g4 (Nat.le_refl _) hs3); have HB4 := hid (HB2.out.trans (B4.mono HB2.out.size)); have HO4 := hid o4; have HO2c := hid (owns_below HO2.out B4); clear hd3 hd3' o3 hs3 hW3 g4 HO2b hB3; have hd5 := Flat.of_owns HO2c.out; have hone5 : ∀ c_1 ∈ Value.int .i64 x :: (xs.drop c).flatMap encI, c_1.oneCell' = true := (by intro q hq; rcases List.mem_cons.1 hq with rfl | hq; rfl; (exact hone q hq)); have hs4 : w2.heap.size ≤ w4.heap.size := B4.size; go_wp2_with (at_builtin; refine wpList_append_flat rfl _ _ 22 rfl w2.heap.size 3 j0 (.int .i64 0) 1 8 Try.underlying22 hj hy0 hy1 hy2 rfl (by decide) _ _ _ rfl HO4.out _ _ _ rfl hd5 hone5 (by unfold maxLen; omega) (by omega) hs4 ?_); intro v6 w6 o6 g6; obtain ⟨r6, m6, n6, rfl⟩ := owns_form3 o6; have HB6 := hid (HB4.out.trans ((below_of_mark HO4.out g6 (Nat.le_refl _) hs4).mono HB2.out.size)); have HO6 := hid o6; clear o6 g6 hd5 hone5 o4 B4; go_wp2; go_ret; exact ⟨_, rfl, (by rw [Henc.out, Hlen.out]; have z := owns_base HO6.out (fun b hb => Nat.le_trans HB2.out.size (World.ownsRow.lt HO6.out b hb).1); exact owns_cnt z (by omega)), HB6.out⟩)
set_option maxHeartbeats 8000000 in
theorem spec_l16Copy (s : List RowD) (v : Value) (w : World) (h : rdsL w v s) (hb : IntSSB s) :
    Calls Try.prog 56 #[v] w fun e w' => ∃ u, e = .returned u ∧ ownL (Rg w.heap.size w'.heap.size) w' u s ∧ Below w.heap.size w w' := by
  obtain ⟨i0, hi, hz0, hz1, hz2⟩ := info_parts infoRow
  have HBT := hid (fun i hi => intSSB_at hb i hi)
  have hsl : s.length ≤ 1048576 := by unfold IntSSB szIntSSD at hb; omega
  obtain ⟨a, cap, rfl, hl9, hm9, hc⟩ := ss_open h
  have HC := hid hc
  clear hc h hb
  obtain ⟨W1, hW1⟩ : ∃ X, w.alloc (.cells #[] 22) = X := ⟨_, rfl⟩
  have hB1 : Below w.heap.size w W1 := by rw [← hW1]; exact (Below.refl _ _).alloc (Nat.le_refl _) _
  have O1 : Hid (ownL (Rg w.heap.size W1.heap.size) W1 (.slice (some ⟨w.heap.size, 0, none⟩) 0 0) (s.take 0)) := by
    rw [← hW1]; exact hid (ownL_none (A := encRow) w)
  have HW1 := hid hW1
  clear hW1
  go_enter Try.func56, Try.ntmps56
  go_wp2
  rw [HW1.out]
  go_loopw [4, 3] (fun b u wr => ∃ (k : Nat) (ua : Option Addr) (uc : Nat), k ≤ s.length ∧ b = .int .i64 k ∧ u = .slice ua (s.take k).length uc ∧ Hid (ownL (Rg w.heap.size wr.heap.size) wr (.slice ua (s.take k).length uc) (s.take k)) ∧ Below w.heap.size w wr) (fun b _ _ => s.length - (intOf b).toNat)
  case atStart => exact ⟨0, _, _, by omega, rfl, rfl, O1, hB1⟩
  case round =>
    clear O1 hB1 HW1
    obtain ⟨k, ua, uc, hk, rfl, rfl, HO, hB⟩ := hrel
    by_cases hlt : k < s.length
    · obtain ⟨bb, off, b2, c2, xs, hxs, rfl, hbs, c0, hI⟩ := HC.out k hlt
      have q0 := (hB.cell (p := ⟨bb, off + k, none⟩) hbs).trans c0
      have hI2 := Ints.below hI hB
      have hxl : xs.length ≤ 1048576 := by have := HBT.out k hlt; unfold IntSB at this; rw [hxs] at this; exact this
      have Htk := hid (take_snocR s k hlt)
      have Hel := hid (show s[k] = ⟨xs⟩ by cases h9 : s[k]; rw [h9] at hxs; cases hxs; rfl)
      have hkl : (s.take k).length ≤ 1048576 := by rw [List.length_take]; omega
      generalize s.take k = Y at *
      clear HC c0 hI hxs
      go_wp2_with fail
      refine (spec_l1Copy _ xs _ hI2 hxl).mono ?_
      rintro e w2 ⟨u2, rfl, o2, b2⟩
      obtain ⟨r2, m2, n2, rfl⟩ := owns_form3 o2
      have HB := hid hB
      obtain ⟨css, hrow, hlit, hfin⟩ := append_row (x := (⟨xs⟩ : RowD)) (c := [.slice r2 m2 n2]) HO.out hB.size b2 ⟨_, rfl, ownInt_of o2⟩ (fun b hb => hb)
      have hB2 := HB.out.trans (b2.mono HB.out.size)
      obtain ⟨W3, hW3⟩ : ∃ X, w2.alloc (.cells #[.slice r2 m2 n2] 22) = X := ⟨_, rfl⟩
      have hW3' : w2.alloc (.cells [Value.slice r2 m2 n2].toArray encRow.ty) = W3 := hW3
      rw [hW3'] at hrow hlit hfin
      replace hrow : W3.ownsRow 0 22 1 (.slice ua Y.length uc) Y.length css.flatten := hrow
      replace hlit : Flat W3 (.slice (some ⟨w2.heap.size, 0, none⟩) 1 1) 1 1 [.slice r2 m2 n2] := hlit
      have HF := hid hfin
      have hs3 : w2.heap.size + 1 = W3.heap.size := by rw [← hW3]; simp
      have hone : ∀ c ∈ [Value.slice r2 m2 n2], c.oneCell' = true := by intro c hc; simp at hc; subst hc; rfl
      clear hfin hW3' o2 b2 hI2 q0 HO hB
      go_wp2_with (at_builtin; refine wpList_append_at rfl _ _ 34 rfl 0 22 i0 (.slice none 0 0) 1 24 Try.underlying34 hi hz0 hz1 hz2 rfl (by decide) _ _ _ rfl hrow _ 1 _ rfl hlit (by decide) hone (by unfold maxLen; omega) (by omega) (Nat.zero_le _) ?_)
      intro v8 w8 o8 g8 p8
      obtain ⟨ya, yc, rfl, O8, b8, s8⟩ := HF.out v8 w8 o8 g8 p8
      have HO8 := hid O8
      have HB8 := hid (show Below w.heap.size w w8 from HB.out.trans b8)
      clear O8 b8 o8 g8 p8 hrow hlit HF hW3
      go_wp2
      go_roundw
      case rel =>
        have e9 : Y ++ [(⟨xs⟩ : RowD)] = s.take (k+1) := by rw [← Htk.out, Hel.out]
        have e10 : Y.length + 1 = (s.take (k+1)).length := by rw [← e9]; simp
        exact ⟨k+1, ya, yc, by omega, by go_num, congrArg (fun n => Value.slice ya n yc) e10, hid (by rw [← e10, ← e9]; exact HO8.out), HB8.out⟩
      case measure => simp [intOf]; omega
    · obtain rfl : k = s.length := by omega
      have HO9 : Hid (ownL (Rg w.heap.size wr.heap.size) wr (.slice ua s.length uc) s) := by
        have z := HO.out
        rw [List.take_length] at z; exact hid z
      rw [List.take_length]
      clear HO
      go_wp2
      go_ret
      exact ⟨_, rfl, HO9.out, hB⟩
set_option maxHeartbeats 8000000 in
theorem spec_l16Double (s : List RowD) (v : Value) (w : World) (h : rdsL w v s) (hn : 0 < s.length) (hn8 : s.length ≤ 8) (hN : (allL s).length ≤ 1048576) :
    Calls Try.prog 57 #[v] w fun e w' => ∃ u, e = .returned u ∧ ownL (Rg w.heap.size w'.heap.size) w' u (dblS s) ∧ Below w.heap.size w w' := by
  obtain ⟨i0, hi, hz0, hz1, hz2⟩ := info_parts infoRow
  obtain ⟨a, cap, rfl, hl9, hm9, hc⟩ := ss_open h
  have HC := hid hc
  have HT := hid (fun k i (h1 : k < s.length) h2 => Nat.le_trans (allL_take_len s k i h1 h2) hN)
  have HTK := hid (fun k (h1 : k < s.length) => allL_take s k h1)
  have HD := hid (show dblS s = foldPut (emptyS (2 * s.length)) (allL (s.take s.length)) by rw [List.take_length]; rfl)
  clear hc h hN
  obtain ⟨m, hm⟩ : ∃ m, 2 * s.length = m := ⟨_, rfl⟩
  have hm2 : (2 : Int) * (s.length : Int) = (m : Int) := by omega
  have hmw : IntKind.i64.wrap (m : Int) = (m : Int) := by rw [IntKind.wrap_i64]; omega
  have hm0 : 0 < m := by omega
  have hm16 : m ≤ 1048576 := by omega
  rw [hm] at HD
  generalize dblS s = D at *
  go_enter Try.func57, Try.ntmps57
  go_wp2_with (at_make; refine wpList_make_full _ rfl _ _ 34 rfl (w.heap.size) 22 i0 (.slice none 0 0) 1 Try.underlying34 hi hz0 hz1 _ _ _ _ m rfl rfl rfl rfl (by rw [hz2]; omega) (by unfold maxLen; omega) (Nat.le_refl _) ?_)
  intro w1 hown hgrow
  have hB := (Below.refl w.heap.size w).grown hgrow (Nat.le_refl _) (by simp)
  have HO1 := hid (rows_zero (by have z := hown; rw [toList_madeCells_one] at z; exact z))
  clear hown hgrow
  go_wp2
  go_loopw [4] (fun b wr => ∃ (k : Nat) (X : List RowD), k ≤ s.length ∧ b = .int .i64 k ∧ X.length = m ∧ Hid (X = foldPut (emptyS m) (allL (s.take k))) ∧ Hid (ownL (Rg w.heap.size wr.heap.size) wr (.slice (some ⟨w.heap.size, 0, none⟩) m m) X) ∧ Below w.heap.size w wr) (fun b _ => s.length - (intOf b).toNat)
  case atStart => exact ⟨0, emptyS m, by omega, rfl, by simp [emptyS], hid rfl, HO1, hB⟩
  case round =>
    clear HO1 hB
    obtain ⟨k, X, hk, rfl, hX, HX, HO, hB⟩ := hrel
    by_cases hlt : k < s.length
    · obtain ⟨bb, off, b2, c2, xs, hxs, rfl, hbs, c0, hI⟩ := HC.out k hlt
      obtain ⟨hl3, hm3, hci⟩ := ints_open hI
      have q0 := (hB.cell (p := ⟨bb, off + k, none⟩) hbs).trans c0
      have HCI := hid hci
      have HT2 := hid (fun i h2 => HT.out k i hlt h2)
      have HTK2 := hid (HTK.out k hlt)
      rw [hxs] at HT2 HTK2
      obtain ⟨pre, hpre⟩ : ∃ p, allL (s.take k) = p := ⟨_, rfl⟩
      rw [hpre] at HT2 HTK2 HX
      clear HC HT HTK hci hI hxs hpre
      have HB := hid hB
      have C0 := hid c0
      clear c0
      go_wp2
      go_loopw [5] (fun i wx => ∃ (q : Nat) (Y : List RowD), q ≤ xs.length ∧ i = .int .i64 q ∧ Y.length = m ∧ Hid (Y = foldPut (emptyS m) (pre ++ xs.take q)) ∧ Hid (ownL (Rg w.heap.size wx.heap.size) wx (.slice (some ⟨w.heap.size, 0, none⟩) m m) Y) ∧ Below w.heap.size w wx) (fun i _ => xs.length - (intOf i).toNat)
      case atStart => exact ⟨0, X, by omega, rfl, hX, hid (by rw [List.take_zero, List.append_nil]; exact HX.out), HO, hB⟩
      case round =>
        clear HO HX hX hB q0
        obtain ⟨q, Y, hq, rfl, hY, HY, HO, hB⟩ := hrel
        have q0 := (hB.cell (p := ⟨bb, off + k, none⟩) hbs).trans C0.out
        by_cases hql : q < xs.length
        · obtain ⟨b9, o9, rfl, hb9, c9⟩ := HCI.out q hql
          have r0 := (hB.cell (p := ⟨b9, o9 + q, none⟩) hb9).trans c9
          have Htk := hid (take_snocR xs q hql)
          have Hlen := hid (HT2.out q (by omega))
          generalize xs[q] = x at *
          have hp := plc_lt x hm0
          have HPL := hid (fun w => spec_l16Place x m hm0 hm16 w)
          have Hbl := hid (fun p (h : p < Y.length) => (show Y[p].xs_.length ≤ 1048576 by
            have e := HY.out
            subst e
            exact Nat.le_trans (fold_bkt_le hm0 _ p h) Hlen.out))
          have HY2 := hid (show putAt Y x = foldPut (emptyS m) (pre ++ xs.take (q+1)) by
            rw [HY.out, ← foldPut_snoc, List.append_assoc, Htk.out])
          obtain ⟨p, hpe⟩ : ∃ p, plc x m = p := ⟨_, rfl⟩
          rw [hpe] at HPL hp
          have hpY : p < Y.length := by omega
          have HpY := hid (putAt_set Y x p hpY (by rw [hY]; exact hpe))
          obtain ⟨g, c3, u, Ri, ys, hys, hv, hSg, cg, fg, oR, hRi, hst, hfin⟩ := rows_at HO.out (fun b hb => hb.2) p hpY
          obtain ⟨hg9, hc39⟩ : (⟨w.heap.size, 0, none⟩ : Addr) = ⟨g, 0, none⟩ ∧ m = c3 := by simp only [Value.slice.injEq, Option.some.injEq] at hv; exact ⟨hv.1, hv.2.2⟩
          obtain rfl : g = w.heap.size := by simpa using hg9.symm
          obtain rfl : m = c3 := hc39
          obtain ⟨ua, uc, rfl, _, _⟩ := ownL_len oR
          have HRY := hid (rdsInts.1 oR.rds)
          have hYb : ys.length ≤ 1048576 := hys ▸ Hbl.out p hpY
          have HpY9 := hid (show putAt Y x = Y.set p ⟨putL ys x⟩ by rw [HpY.out]; simp only [hys])
          have HFIN := hid hfin
          have HST := hid hst
          have HB2 := hid hB
          have hp0 : (0 : Int) ≤ (p : Int) := by omega
          have hp1 : (p : Int) < (m : Int) := by omega
          clear HCI HTK2 Hlen HT2 c9 hfin hst hv hg9 oR HO Hbl Htk hpe HpY hys
          go_wp2_with (go_at_call 50; refine (HPL.out _).mono ?_; rintro e w' ⟨rfl, rfl⟩)
          go_region_with (go_at_call 58; refine (spec_l16Put ys x _ _ (by first | exact HRY.out | exact Ints.below HRY.out (Below.refl _ _).drew) hYb).mono ?_; rintro e w5 ⟨u5, rfl, o5, b5⟩; obtain ⟨r5, m5, n5, rfl⟩ := owns_form3 o5; have B5 := hid ((Below.refl wr.heap.size wr).drew.trans b5); have HO5 := hid (ownInt_of o5); obtain ⟨⟨y5, k5⟩, f5⟩ := HST.out w5 (ChgS.of_below B5.out _))
          all_goals
            have hs5 := B5.out.size
            have O9 := HFIN.out w5 (.slice r5 m5 n5) ⟨putL ys x⟩ _ (ChgS.of_below B5.out _) HO5.out (fun b hb => .inr (by have h9 := hb.1; first | exact h9 | (simp at h9; exact h9)))
            obtain ⟨W9, hW9⟩ : ∃ X, w5.setCell ⟨w.heap.size, p, none⟩ (.slice r5 m5 n5) = X := ⟨_, rfl⟩
            have hs9 : W9.heap.size = w5.heap.size := by rw [← hW9]; simp [World.setCell]
            have HO9 : Hid (ownL (Rg w.heap.size W9.heap.size) W9 (.slice (some ⟨w.heap.size, 0, none⟩) m m) (putAt Y x)) := by
              rw [hW9] at O9
              rw [HpY9.out]
              exact hid (O9.mono fun b hb => by
                rcases hb with h9 | h9
                · exact ⟨h9.1, by have := h9.2; omega⟩
                · exact ⟨by have h8 := h9.1; have := HB2.out.size; first | omega | (simp at h8; omega), by have := h9.2; omega⟩)
            have HB9 : Hid (Below w.heap.size w W9) := by
              rw [← hW9]
              exact hid ((HB2.out.trans (B5.out.mono HB2.out.size)).setCell (Nat.le_refl _) _)
            rw [hW9]
            clear hW9 O9 HO5 B5 HFIN HST b5 k5 f5
            go_wp2
            go_roundw
            case rel => exact ⟨q+1, _, by omega, by go_num, (putAt_len Y x).trans hY, hid (HY2.out.trans rfl), HO9, HB9.out⟩
            case measure => simp [intOf]; omega
        · obtain rfl : q = xs.length := by omega
          have HX9 := hid (show Y = foldPut (emptyS m) (allL (s.take (k+1))) by rw [HY.out, List.take_length, HTK2.out])
          clear HY HT2 HCI HTK2
          go_wp2
          go_roundw
          case rel => exact ⟨k+1, Y, by omega, by go_num, hY, HX9, HO, hB⟩
          case measure => simp [intOf]; omega
    · obtain rfl : k = s.length := by omega
      have HO9 : Hid (ownL (Rg w.heap.size wr.heap.size) wr (.slice (some ⟨w.heap.size, 0, none⟩) m m) D) := by
        have z := HO.out
        rw [HX.out, ← HD.out] at z; exact hid z
      clear HO HX HT HTK
      go_wp2
      go_ret
      exact ⟨_, rfl, HO9.out, hB⟩
end Go.Proofs.Ytdgmbcmgjadoiaa
