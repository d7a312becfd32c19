/- Chapter 12's model: a descriptor done on values. -/
import Derived.Test.YtbbdchlabdilcaaF12p
import Derived.Test.YtbbdchlabdilcaaM2
import Derived.Test.YtbbdchlabdilcaaEnc5
import Derived.StillTailTactics
namespace Go.Proofs.Ytbbdchlabdilcaa
set_option maxRecDepth 100000
open Go.RowKit Go.Proofs Go.Own
open Go Go.BigFrame
set_option linter.unusedVariables false
set_option linter.unusedSimpArgs false
set_option maxHeartbeats 8000000 in
theorem spec_l12Do0 (vs : List Int) (ow st : Int) (es : List Entry) (n : Nat) (hn : vs.length = n) (base g cap : Nat) (v2 : Value) (wA w : World) (hA : Below wA.heap.size wA w) (hg : wA.heap.size ≤ g) (r2 : rdsL wA v2 es)
    (hrow : w.ownsRow base 3 1 (.slice (some ⟨g, 0, none⟩) n cap) n (vs.flatMap encI)) (hob : ∀ i, (h : i < es.length) → 0 ≤ es[i].object_ ∧ es[i].object_ < (n : Int)) (hvl : n ≤ 8) :
    Calls Try.prog 21 #[.slice (some ⟨g, 0, none⟩) n cap, .agg #[.int .i64 ow, .int .i64 st, v2]] w fun e w' => e = .returned (.tuple #[]) ∧ w'.ownsRow base 3 1 (.slice (some ⟨g, 0, none⟩) n cap) n ((doL vs es).flatMap encI) ∧ ChgS (fun b => b = g) w w' := by
  subst hn
  obtain ⟨a2, cap2, rfl, hl2, hm2, hc2⟩ := rdsL_open r2
  have HC2 := hid hc2
  have hgl : g < w.heap.size := (World.ownsRow.lt hrow _ rfl).2
  have hAs := hA.size
  obtain ⟨W1, hW1⟩ : ∃ X, w.alloc (.cells #[.int .i64 ow, .int .i64 st, Value.slice a2 es.length cap2] 45) = X := ⟨_, rfl⟩
  have hB1 : Below w.heap.size w W1 := by rw [← hW1]; exact (Below.refl _ _).alloc (Nat.le_refl _) _
  have bd : Box W1 w.heap.size [.int .i64 ow, .int .i64 st, Value.slice a2 es.length cap2] := by rw [← hW1]; exact Box.alloc _ _ _
  have HO := hid (owns_below hrow hB1)
  have HW1 := hid hW1
  have hel : es.length ≤ 9223372036854775807 := by omega
  have HA1 := hid (hA.trans (hB1.mono hAs))
  have hN1 := bd.1
  have BD := hid bd
  have k2 : W1.cell? ⟨w.heap.size, 2, none⟩ = some (Value.slice a2 es.length cap2) := bd.2 2 (by simp)
  have HOB := hid hob
  clear hc2 r2 hrow hW1 bd hob
  go_enter Try.func21, Try.ntmps21
  go_wp2_with fail
  rw [HW1.out]
  go_wp2
  clear k2
  go_loopw [4] (fun i wr => ∃ k : Nat, k ≤ es.length ∧ i = .int .i64 k ∧ Hid (wr.ownsRow base 3 1 (.slice (some ⟨g, 0, none⟩) vs.length cap) vs.length ((doTo vs es k).flatMap encI)) ∧ Hid (ChgS (fun b => b = g) W1 wr)) (fun i _ => es.length - (intOf i).toNat)
  case atStart => exact ⟨0, by omega, rfl, HO, hid (ChgS.refl _ _)⟩
  case round =>
    clear HO
    obtain ⟨k, hk, rfl, HO, HC⟩ := hrel
    have q2 : wr.cell? ⟨w.heap.size, 2, none⟩ = some (Value.slice a2 es.length cap2) := (cell_chg HC.out hN1 (by omega)).trans (BD.out.2 2 (by simp))
    by_cases hlt : k < es.length
    · obtain ⟨bb, off, cs, rfl, hbs, hel2, hcell⟩ := HC2.out k hlt
      have hel2 : cs = Entry.enc es[k] := hel2
      subst hel2
      have hsucc := hid (doTo_succ (vs := vs) hlt)
      have hobk := HOB.out k hlt
      obtain ⟨E, hE⟩ : ∃ E, es[k] = E := ⟨_, rfl⟩
      have c0 : wA.cell? ⟨bb, off + k * 5, none⟩ = some (.int .i64 es[k].object_) := hcell 0 (show 0 < 5 by omega)
      have c3 : wA.cell? ⟨bb, off + k * 5 + 3, none⟩ = some (.int .i64 es[k].new_) := hcell 3 (show 3 < 5 by omega)
      have c4 : wA.cell? ⟨bb, off + k * 5 + 4, none⟩ = some (.bool es[k].write_) := hcell 4 (show 4 < 5 by omega)
      have hBr := below_chg HA1.out HC.out HA1.out.size (fun b hb => by omega)
      have e0 := (hBr.cell (p := ⟨bb, off + k * 5, none⟩) hbs).trans c0
      have e3 := (hBr.cell (p := ⟨bb, off + k * 5 + 3, none⟩) hbs).trans c3
      have e4 := (hBr.cell (p := ⟨bb, off + k * 5 + 4, none⟩) hbs).trans c4
      rw [hE] at e0 e3 e4 hsucc hobk
      clear c0 c3 c4 hcell HC2 hE hBr
      obtain ⟨eo, ev, el, en, ew⟩ := E
      dsimp only at e0 e3 e4 hobk
      cases ew with
      | false =>
        have Hn := hid (show doTo vs es (k+1) = doTo vs es k by rw [hsucc.out]; rfl)
        clear hsucc hobk
        go_wp2
        go_roundw
        case rel => exact ⟨k+1, by omega, by go_num, hid (by rw [Hn.out]; exact HO.out), HC⟩
        case measure => simp [intOf]; omega
      | true =>
        obtain ⟨o, rfl⟩ := Int.eq_ofNat_of_zero_le hobk.1
        have hol : o < vs.length := by omega
        have Hn := hid (show doTo vs es (k+1) = (doTo vs es k).set o en by rw [hsucc.out]; show (if true = true then _ else _) = _; rw [if_pos rfl, Int.toNat_natCast])
        have hdl : o < ((doTo vs es k).flatMap encI).length := by rw [flatMap_len encI 1 (fun _ => rfl), doTo_len]; omega
        have r0 : wr.cell? ⟨g, o, none⟩ = some ((doTo vs es k).flatMap encI)[o] := by rw [HO.out.cellAt o (by omega), List.getElem?_eq_getElem hdl]
        have r1 : wr.frozen? ⟨g, o, none⟩ = false := HO.out.frozenAt o
        have ho0 : (0 : Int) ≤ (o : Int) := by omega
        have hoi : (o : Int) < (vs.length : Int) := by omega
        obtain ⟨V2, hV2⟩ : ∃ X, wr.setCell ⟨g, o, none⟩ (.int .i64 en) = X := ⟨_, rfl⟩
        have HO2 := hid (show V2.ownsRow base 3 1 (.slice (some ⟨g, 0, none⟩) vs.length cap) vs.length ((doTo vs es (k+1)).flatMap encI) by
          have z := owns_put HO.out o (.int .i64 en)
          rw [encI_set, ← Hn.out, hV2] at z; exact z)
        have HC3 := hid (show ChgS (fun b => b = g) W1 V2 by rw [← hV2]; exact HC.out.set _ _ rfl)
        have HV2 := hid hV2
        generalize ((doTo vs es k).flatMap encI)[o] = old at *
        clear hsucc hobk Hn HO HC hV2 hdl
        go_wp2
        go_region
        all_goals go_wp2
        all_goals rw [HV2.out]
        all_goals go_roundw
        case rel => exact ⟨k+1, by omega, by go_num, hid (owns_below HO2.out (Below.refl _ _).drew), hid (HC3.out.trans (ChgS.of_below (Below.refl _ _).drew _))⟩
        case measure => simp [intOf]; omega
    · obtain rfl : k = es.length := by omega
      have HF := hid (show ChgS (fun b => b = g) w wr from (ChgS.of_below hB1 _).trans HC.out)
      go_wp2
      refine bodyPost_end (results_none rfl _ _ _) rfl ⟨rfl, HO.out, HF.out⟩
end Go.Proofs.Ytbbdchlabdilcaa
