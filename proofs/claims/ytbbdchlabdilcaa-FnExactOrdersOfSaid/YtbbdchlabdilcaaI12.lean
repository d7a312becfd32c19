/- Chapter 12's program: a state, and a descriptor done on it. -/
import Derived.Test.YtbbdchlabdilcaaF12p
import Derived.Test.YtbbdchlabdilcaaM2
import Derived.Test.YtbbdchlabdilcaaAp2
import Derived.Test.YtbbdchlabdilcaaEnc5
import Derived.StillTailTactics
namespace Go.Proofs.Ytbbdchlabdilcaa
set_option maxRecDepth 100000
open Go.RowKit Go.Proofs Go.Own
open Go Go.BigFrame
set_option linter.unusedVariables false
set_option linter.unusedSimpArgs false
theorem impl_stateOf (xs : List Int) (v : Value) (w : World) (h : Ints w v xs) (hx : xs.length ≤ 1048576) :
    Calls Try.prog 24 #[v] w fun e w' => ∃ u, e = .returned u ∧ w'.ownsRow w.heap.size 3 1 u xs.length (xs.flatMap encI) ∧ Below w.heap.size w w' := by
  obtain ⟨i0, hi, hz0, hz1, hz2⟩ := info_parts infoInt
  have hone := hid (oneCell_enc oneCell_I xs)
  obtain ⟨ad, cap, rfl, hl, hm⟩ := Flat.form h
  go_enter Try.func24, Try.ntmps24
  go_wp2_with (at_builtin; refine wpList_append_two rfl _ _ 49 22 3 rfl w.heap.size 3 i0 (.int .i64 0) 1 8 Try.underlying49 Try.underlying22 hi hz0 hz1 hz2 rfl (by decide) _ _ _ rfl (World.ownsRow_nil w w.heap.size 3 1) _ _ _ rfl h hone.out (by unfold maxLen; omega) (by omega) (by simp) ?_)
  intro v' w1 ho hg
  have hB1 : Below w.heap.size w w1 := below_grown hg (Nat.le_refl _) (by intro k hk; simp [Value.ownBlock] at hk)
  go_wp2
  go_ret
  exact ⟨_, rfl, by simpa using ho, hB1⟩
set_option maxHeartbeats 8000000 in
theorem impl_do0 (vs : List Int) (ow st : Int) (es : List Entry) (n : Nat) (hn : vs.length = n) (base g cap : Nat) (v2 : Value) (wA w : World) (hA : Below wA.heap.size wA w) (hg : wA.heap.size ≤ g) (r2 : rdsL wA v2 es)
    (hrow : w.ownsRow base 3 1 (.slice (some ⟨g, 0, none⟩) n cap) n (vs.flatMap encI)) (hob : ∀ i, (h : i < es.length) → 0 ≤ es[i].object_ ∧ es[i].object_ < (n : Int)) (hvl : n ≤ 8) :
    Calls Try.prog 50 #[.slice (some ⟨g, 0, none⟩) n cap, .agg #[.int .i64 ow, .int .i64 st, v2]] w fun e w' => e = .returned (.tuple #[]) ∧ w'.ownsRow base 3 1 (.slice (some ⟨g, 0, none⟩) n cap) n ((doL vs es).flatMap encI) ∧ ChgS (fun b => b = g) w w' := by
  subst hn
  obtain ⟨a2, cap2, rfl, hl2, hm2, hc2⟩ := rdsL_open r2
  have HC2 := hid hc2
  have hgl : g < w.heap.size := (World.ownsRow.lt hrow _ rfl).2
  have hAs := hA.size
  obtain ⟨W1, hW1⟩ : ∃ X, w.alloc (.cells #[.int .i64 ow, .int .i64 st, Value.slice a2 es.length cap2] 45) = X := ⟨_, rfl⟩
  have hB1 : Below w.heap.size w W1 := by rw [← hW1]; exact (Below.refl _ _).alloc (Nat.le_refl _) _
  have bd : Box W1 w.heap.size [.int .i64 ow, .int .i64 st, Value.slice a2 es.length cap2] := by rw [← hW1]; exact Box.alloc _ _ _
  have HO := hid (owns_below hrow hB1)
  have HW1 := hid hW1
  have hel : es.length ≤ 9223372036854775807 := by omega
  have HA1 := hid (hA.trans (hB1.mono hAs))
  have hN1 := bd.1
  have BD := hid bd
  have k2 : W1.cell? ⟨w.heap.size, 2, none⟩ = some (Value.slice a2 es.length cap2) := bd.2 2 (by simp)
  have HOB := hid hob
  clear hc2 r2 hrow hW1 bd hob
  go_enter Try.func50, Try.ntmps50
  go_wp2_with fail
  rw [HW1.out]
  go_wp2
  clear k2
  go_loopw [9] (fun i wr => ∃ k : Nat, k ≤ es.length ∧ i = .int .i64 k ∧ Hid (wr.ownsRow base 3 1 (.slice (some ⟨g, 0, none⟩) vs.length cap) vs.length ((doTo vs es k).flatMap encI)) ∧ Hid (ChgS (fun b => b = g) W1 wr)) (fun i _ => es.length - (intOf i).toNat)
  case atStart => exact ⟨0, by omega, rfl, HO, hid (ChgS.refl _ _)⟩
  case round =>
    clear HO
    obtain ⟨k, hk, rfl, HO, HC⟩ := hrel
    by_cases hlt : k < es.length
    · obtain ⟨bb, off, cs, rfl, hbs, hel2, hcell⟩ := HC2.out k hlt
      have hel2 : cs = Entry.enc es[k] := hel2
      subst hel2
      have hsucc := hid (doTo_succ (vs := vs) hlt)
      have hobk := HOB.out k hlt
      obtain ⟨E, hE⟩ : ∃ E, es[k] = E := ⟨_, rfl⟩
      have c0 : wA.cell? ⟨bb, off + k * 5, none⟩ = some (.int .i64 es[k].object_) := hcell 0 (show 0 < 5 by omega)
      have c1 : wA.cell? ⟨bb, off + k * 5 + 1, none⟩ = some (.int .i64 es[k].version_) := hcell 1 (show 1 < 5 by omega)
      have c2 : wA.cell? ⟨bb, off + k * 5 + 2, none⟩ = some (.int .i64 es[k].old_) := hcell 2 (show 2 < 5 by omega)
      have c3 : wA.cell? ⟨bb, off + k * 5 + 3, none⟩ = some (.int .i64 es[k].new_) := hcell 3 (show 3 < 5 by omega)
      have c4 : wA.cell? ⟨bb, off + k * 5 + 4, none⟩ = some (.bool es[k].write_) := hcell 4 (show 4 < 5 by omega)
      have hBr := below_chg HA1.out HC.out HA1.out.size (fun b hb => by omega)
      have e0 := (hBr.cell (p := ⟨bb, off + k * 5, none⟩) hbs).trans c0
      have e1 := (hBr.cell (p := ⟨bb, off + k * 5 + 1, none⟩) hbs).trans c1
      have e2 := (hBr.cell (p := ⟨bb, off + k * 5 + 2, none⟩) hbs).trans c2
      have e3 := (hBr.cell (p := ⟨bb, off + k * 5 + 3, none⟩) hbs).trans c3
      have e4 := (hBr.cell (p := ⟨bb, off + k * 5 + 4, none⟩) hbs).trans c4
      rw [hE] at e0 e1 e2 e3 e4 hsucc hobk
      clear c0 c1 c2 c3 c4 hcell HC2 hE hBr
      obtain ⟨eo, ev, el, en, ew⟩ := E
      dsimp only at e0 e1 e2 e3 e4 hobk
      cases ew with
      | false =>
        have Hn := hid (show doTo vs es (k+1) = doTo vs es k by rw [hsucc.out]; rfl)
        have hBV : Below wr.heap.size wr (wr.alloc (.cells #[.int .i64 eo, .int .i64 ev, .int .i64 el, .int .i64 en, .bool false] 63)) := (Below.refl _ _).alloc (Nat.le_refl _) _
        have HOV := hid (owns_below HO.out hBV)
        have HCV := hid (HC.out.trans (ChgS.of_below hBV (fun b => b = g)))
        clear hsucc hobk hBV HO HC
        go_wp2
        go_roundw
        case rel => exact ⟨k+1, by omega, by go_num, hid (by rw [Hn.out]; exact HOV.out), HCV⟩
        case measure => simp [intOf]; omega
      | true =>
        obtain ⟨V, hV⟩ : ∃ X, wr.alloc (.cells #[.int .i64 eo, .int .i64 ev, .int .i64 el, .int .i64 en, .bool true] 63) = X := ⟨_, rfl⟩
        have hBV : Below wr.heap.size wr V := by rw [← hV]; exact (Below.refl _ _).alloc (Nat.le_refl _) _
        have bv : Box V wr.heap.size [.int .i64 eo, .int .i64 ev, .int .i64 el, .int .i64 en, .bool true] := by rw [← hV]; exact Box.alloc _ _ _
        have y0 : V.cell? ⟨wr.heap.size, 0, none⟩ = some (.int .i64 eo) := bv.2 0 (by simp)
        have y3 : V.cell? ⟨wr.heap.size, 3, none⟩ = some (.int .i64 en) := bv.2 3 (by simp)
        have y4 : V.cell? ⟨wr.heap.size, 4, none⟩ = some (.bool true) := bv.2 4 (by simp)
        have HOV := hid (owns_below HO.out hBV)
        have HCV := hid (HC.out.trans (ChgS.of_below hBV (fun b => b = g)))
        clear HO HC bv
        obtain ⟨o, rfl⟩ := Int.eq_ofNat_of_zero_le hobk.1
        have hol : o < vs.length := by omega
        have Hn := hid (show doTo vs es (k+1) = (doTo vs es k).set o en by rw [hsucc.out]; show (if true = true then _ else _) = _; rw [if_pos rfl, Int.toNat_natCast])
        have hdl : o < ((doTo vs es k).flatMap encI).length := by rw [flatMap_len encI 1 (fun _ => rfl), doTo_len]; omega
        have r0 : V.cell? ⟨g, o, none⟩ = some ((doTo vs es k).flatMap encI)[o] := by rw [HOV.out.cellAt o (by omega), List.getElem?_eq_getElem hdl]
        have r1 : V.frozen? ⟨g, o, none⟩ = false := HOV.out.frozenAt o
        have ho0 : (0 : Int) ≤ (o : Int) := by omega
        have hoi : (o : Int) < (vs.length : Int) := by omega
        obtain ⟨V2, hV2⟩ : ∃ X, V.setCell ⟨g, o, none⟩ (.int .i64 en) = X := ⟨_, rfl⟩
        have HO2 := hid (show V2.ownsRow base 3 1 (.slice (some ⟨g, 0, none⟩) vs.length cap) vs.length ((doTo vs es (k+1)).flatMap encI) by
          have z := owns_put HOV.out o (.int .i64 en)
          rw [encI_set, ← Hn.out, hV2] at z; exact z)
        have HC3 := hid (show ChgS (fun b => b = g) W1 V2 by rw [← hV2]; exact HCV.out.set _ _ rfl)
        have HV2 := hid hV2
        generalize ((doTo vs es k).flatMap encI)[o] = old at *
        clear hsucc hobk Hn HOV HCV hV2 hdl
        go_wp2
        try rw [HV2.out]
        go_roundw
        case rel => exact ⟨k+1, by omega, by go_num, HO2, HC3⟩
        case measure => simp [intOf]; omega
    · obtain rfl : k = es.length := by omega
      have HF := hid (show ChgS (fun b => b = g) w wr from (ChgS.of_below hB1 _).trans HC.out)
      go_wp2
      refine bodyPost_end (results_none rfl _ _ _) rfl ⟨rfl, HO.out, HF.out⟩
set_option maxHeartbeats 8000000 in
theorem impl_has0 (vs : List Int) (ow st : Int) (es : List Entry) (v0 v2 : Value) (w : World) (r0 : Ints w v0 vs) (r2 : rdsL w v2 es) (hob : ∀ i, (h : i < es.length) → 0 ≤ es[i].object_ ∧ es[i].object_ < (vs.length : Int)) (hvl : vs.length ≤ 8) :
    Calls Try.prog 49 #[v0, .agg #[.int .i64 ow, .int .i64 st, v2]] w fun e w' => e = .returned (.bool (canL vs es)) ∧ Below w.heap.size w w' := by
  obtain ⟨a0, cap0, rfl, hl0, hm0, hc0⟩ := r0.open
  obtain ⟨a2, cap2, rfl, hl2, hm2, hc2⟩ := rdsL_open r2
  have HC0 := hid hc0
  have HC2 := hid hc2
  obtain ⟨W1, hW1⟩ : ∃ X, w.alloc (.cells #[.int .i64 ow, .int .i64 st, Value.slice a2 es.length cap2] 45) = X := ⟨_, rfl⟩
  have hB1 : Below w.heap.size w W1 := by rw [← hW1]; exact (Below.refl _ _).alloc (Nat.le_refl _) _
  have bd : Box W1 w.heap.size [.int .i64 ow, .int .i64 st, Value.slice a2 es.length cap2] := by rw [← hW1]; exact Box.alloc _ _ _
  have HW1 := hid hW1
  have hel : es.length ≤ 9223372036854775807 := by omega
  have hN1 := bd.1
  have k2 : W1.cell? ⟨w.heap.size, 2, none⟩ = some (Value.slice a2 es.length cap2) := bd.2 2 (by simp)
  have HOB := hid hob
  have Hu := hid (show canL vs es = es.all (fun e => vs.getD e.object_.toNat 0 == e.old_) from rfl)
  generalize canL vs es = R at *
  clear hc0 hc2 r0 r2 hW1 bd hob
  go_enter Try.func49, Try.ntmps49
  go_wp2_with fail
  rw [HW1.out]
  go_wp2
  clear k2
  go_loopw [10] (fun i wr => ∃ k : Nat, k ≤ es.length ∧ i = .int .i64 k ∧ Same ((es.drop k).all (fun e => vs.getD e.object_.toNat 0 == e.old_)) (es.all (fun e => vs.getD e.object_.toNat 0 == e.old_)) ∧ Below W1.heap.size W1 wr) (fun i _ => es.length - (intOf i).toNat)
  case atStart => exact ⟨0, by omega, rfl, .rfl, Below.refl _ _⟩
  case round =>
    obtain ⟨k, hk, rfl, hS, hB⟩ := hrel
    have hBr := hB1.trans (hB.mono hB1.size)
    have HB := hid hBr
    by_cases hlt : k < es.length
    · obtain ⟨bb, off, cs, rfl, hbs, hel2, hcell⟩ := HC2.out k hlt
      have hel2 : cs = Entry.enc es[k] := hel2
      subst hel2
      have hst := hid (all_step (fun e : Entry => vs.getD e.object_.toNat 0 == e.old_) es k hlt)
      have hobk := HOB.out k hlt
      obtain ⟨E, hE⟩ : ∃ E, es[k] = E := ⟨_, rfl⟩
      have c0 : w.cell? ⟨bb, off + k * 5, none⟩ = some (.int .i64 es[k].object_) := hcell 0 (show 0 < 5 by omega)
      have c1 : w.cell? ⟨bb, off + k * 5 + 1, none⟩ = some (.int .i64 es[k].version_) := hcell 1 (show 1 < 5 by omega)
      have c2 : w.cell? ⟨bb, off + k * 5 + 2, none⟩ = some (.int .i64 es[k].old_) := hcell 2 (show 2 < 5 by omega)
      have c3 : w.cell? ⟨bb, off + k * 5 + 3, none⟩ = some (.int .i64 es[k].new_) := hcell 3 (show 3 < 5 by omega)
      have c4 : w.cell? ⟨bb, off + k * 5 + 4, none⟩ = some (.bool es[k].write_) := hcell 4 (show 4 < 5 by omega)
      have e0 := (hBr.cell (p := ⟨bb, off + k * 5, none⟩) hbs).trans c0
      have e1 := (hBr.cell (p := ⟨bb, off + k * 5 + 1, none⟩) hbs).trans c1
      have e2 := (hBr.cell (p := ⟨bb, off + k * 5 + 2, none⟩) hbs).trans c2
      have e3 := (hBr.cell (p := ⟨bb, off + k * 5 + 3, none⟩) hbs).trans c3
      have e4 := (hBr.cell (p := ⟨bb, off + k * 5 + 4, none⟩) hbs).trans c4
      rw [hE] at e0 e1 e2 e3 e4 hst hobk
      clear c0 c1 c2 c3 c4 hcell HC2 hE
      obtain ⟨eo, ev, el, en, ew⟩ := E
      dsimp only at e0 e1 e2 e3 e4 hobk hst
      obtain ⟨o, rfl⟩ := Int.eq_ofNat_of_zero_le hobk.1
      have hol : o < vs.length := by omega
      obtain ⟨b0, of0, rfl, hb0, d0⟩ := HC0.out o hol
      obtain ⟨V, hV⟩ : ∃ X, wr.alloc (.cells #[.int .i64 (o : Int), .int .i64 ev, .int .i64 el, .int .i64 en, .bool ew] 63) = X := ⟨_, rfl⟩
      have hBV : Below wr.heap.size wr V := by rw [← hV]; exact (Below.refl _ _).alloc (Nat.le_refl _) _
      have bv : Box V wr.heap.size [.int .i64 (o : Int), .int .i64 ev, .int .i64 el, .int .i64 en, .bool ew] := by rw [← hV]; exact Box.alloc _ _ _
      have y0 : V.cell? ⟨wr.heap.size, 0, none⟩ = some (.int .i64 (o : Int)) := bv.2 0 (by simp)
      have y2 : V.cell? ⟨wr.heap.size, 2, none⟩ = some (.int .i64 el) := bv.2 2 (by simp)
      have HBV := hid (hBr.trans (hBV.mono hBr.size))
      have HBV1 := hid (hB.trans (hBV.mono hB.size))
      have f0 := (HBV.out.cell (p := ⟨b0, of0 + o, none⟩) hb0).trans d0
      have ho0 : (0 : Int) ≤ (o : Int) := by omega
      have hoi : (o : Int) < (vs.length : Int) := by omega
      have hgd : vs.getD ((o : Int)).toNat 0 = vs[o] := by rw [Int.toNat_natCast]; simp [hol]
      rw [hgd] at hst
      have hu := hid (show R = (es.drop k).all (fun e => vs.getD e.object_.toNat 0 == e.old_) by rw [hS.out]; exact Hu.out)
      generalize vs[o] = x at *
      have HV := hid hV
      clear d0 HC0 hobk hgd bv
      by_cases hx : x = el
      · subst hx
        have Hn := hid (show Same ((es.drop (k+1)).all (fun e => vs.getD e.object_.toNat 0 == e.old_)) (es.all (fun e => vs.getD e.object_.toNat 0 == e.old_)) from .mk (by rw [← hS.out, hst.out]; simp))
        clear hst hu hS
        go_wp2
        go_region
        all_goals go_wp2
        all_goals go_roundw
        case rel => exact ⟨k+1, by omega, by go_num, Hn.out, HBV1.out.drew⟩
        case measure => simp [intOf]; omega
      · have Hn := hid (show (es.drop k).all (fun e => vs.getD e.object_.toNat 0 == e.old_) = false by rw [hst.out]; simp [hx])
        have hbn : (x != el) = true := by simpa using hx
        clear hst hS
        go_wp2
        go_region
        all_goals go_wp2
        all_goals go_ret
        all_goals exact ⟨ret_bool (by rw [hu.out, Hn.out]), HBV.out.drew⟩
    · obtain rfl : k = es.length := by omega
      have hu := hid (show R = true by rw [Hu.out, ← hS.out, List.drop_length]; rfl)
      go_wp2
      go_ret
      exact ⟨ret_bool hu.out.symm, HB.out⟩
def comL (vs : List Int) (es : List Entry) : List Int := if canL vs es = true then doL vs es else vs
theorem comL_len (vs : List Int) (es : List Entry) : (comL vs es).length = vs.length := by unfold comL; split; exact doL_len _ _; rfl
set_option maxHeartbeats 8000000 in
theorem impl_commit0 (vs : List Int) (ow st : Int) (es : List Entry) (n : Nat) (hn : vs.length = n) (base g cap : Nat) (v2 : Value) (wA w : World) (hA : Below wA.heap.size wA w) (hg : wA.heap.size ≤ g) (r2 : rdsL wA v2 es)
    (hrow : w.ownsRow base 3 1 (.slice (some ⟨g, 0, none⟩) n cap) n (vs.flatMap encI)) (hob : ∀ i, (h : i < es.length) → 0 ≤ es[i].object_ ∧ es[i].object_ < (n : Int)) (hvl : n ≤ 8) :
    Calls Try.prog 39 #[.slice (some ⟨g, 0, none⟩) n cap, .agg #[.int .i64 ow, .int .i64 st, v2]] w fun e w' => e = .returned (.bool (canL vs es)) ∧ w'.ownsRow base 3 1 (.slice (some ⟨g, 0, none⟩) n cap) n ((comL vs es).flatMap encI) ∧ ChgS (fun b => b = g) w w' := by
  have R2 := hid r2
  obtain ⟨a2, cap2, rfl, hl2, hm2, -⟩ := rdsL_open r2
  have hAs := hA.size
  obtain ⟨W1, hW1⟩ : ∃ X, w.alloc (.cells #[.int .i64 ow, .int .i64 st, Value.slice a2 es.length cap2] 45) = X := ⟨_, rfl⟩
  have hB1 : Below w.heap.size w W1 := by rw [← hW1]; exact (Below.refl _ _).alloc (Nat.le_refl _) _
  have bd : Box W1 w.heap.size [.int .i64 ow, .int .i64 st, Value.slice a2 es.length cap2] := by rw [← hW1]; exact Box.alloc _ _ _
  have HO := hid (owns_below hrow hB1)
  have HW1 := hid hW1
  have HA1 := hid (hA.trans (hB1.mono hAs))
  have k0 : W1.cell? ⟨w.heap.size, 0, none⟩ = some (.int .i64 ow) := bd.2 0 (by simp)
  have k1 : W1.cell? ⟨w.heap.size, 1, none⟩ = some (.int .i64 st) := bd.2 1 (by simp)
  have k2 : W1.cell? ⟨w.heap.size, 2, none⟩ = some (Value.slice a2 es.length cap2) := bd.2 2 (by simp)
  have BD := hid bd
  have Hu := hid (show comL vs es = if canL vs es = true then doL vs es else vs from rfl)
  have HOB := hid hob
  have HN := hid hn
  have Hh := hid (fun w r0 r2 => impl_has0 vs ow st es (.slice (some ⟨g, 0, none⟩) n cap) (Value.slice a2 es.length cap2) w r0 r2 (fun i h => by rw [hn]; exact hob i h) (by omega))
  have Hd := hid (fun base w hA h => impl_do0 vs ow st es n hn base g cap (Value.slice a2 es.length cap2) wA w hA hg r2 h hob hvl)
  generalize comL vs es = CL at *
  generalize canL vs es = C at *
  clear r2 hrow hW1 bd hob hn
  go_enter Try.func39, Try.ntmps39
  go_wp2_with fail
  rw [HW1.out]
  refine (Hh.out _ (by rw [← HN.out]; have z := HO.out; rw [← HN.out] at z; exact Flat.of_owns z) (rdsL.below R2.out HA1.out)).mono ?_
  rintro e w2 ⟨rfl, b2⟩
  have BD2 := BD.out.below b2
  have y0 : w2.cell? ⟨w.heap.size, 0, none⟩ = some (.int .i64 ow) := BD2.2 0 (by simp)
  have y1 : w2.cell? ⟨w.heap.size, 1, none⟩ = some (.int .i64 st) := BD2.2 1 (by simp)
  have y2 : w2.cell? ⟨w.heap.size, 2, none⟩ = some (Value.slice a2 es.length cap2) := BD2.2 2 (by simp)
  have HA2 := hid (HA1.out.trans (b2.mono HA1.out.size))
  have HO2 := hid (owns_below HO.out b2)
  have HF := hid (show ChgS (fun b => b = g) w w2 from (ChgS.of_below hB1 _).trans (ChgS.of_below b2 _))
  clear k0 k1 k2 BD2 HO Hh
  cases C with
  | false =>
    have Hc := hid (show CL = vs by rw [Hu.out]; simp)
    go_wp2
    go_ret
    exact ⟨rfl, by rw [Hc.out]; exact HO2.out, HF.out⟩
  | true =>
    have Hc := hid (show CL = doL vs es by rw [Hu.out]; simp)
    go_wp2_with fail
    refine (Hd.out _ _ HA2.out HO2.out).mono ?_
    rintro e w3 ⟨rfl, o3, c3⟩
    have HO3 := hid o3
    have HF3 := hid (HF.out.trans c3)
    clear o3 c3
    go_wp2
    go_ret
    exact ⟨rfl, by rw [Hc.out]; exact HO3.out, HF3.out⟩
end Go.Proofs.Ytbbdchlabdilcaa
