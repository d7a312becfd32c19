/- Chapter 12's model: whether a descriptor can be done. -/
import Derived.Test.YtbbdchlabdilcaaF12p
import Derived.Test.YtbbdchlabdilcaaM2
import Derived.StillTailTactics
namespace Go.Proofs.Ytbbdchlabdilcaa
set_option maxRecDepth 100000
open Go.RowKit Go.Proofs Go.Own
open Go Go.BigFrame
set_option linter.unusedVariables false
set_option linter.unusedSimpArgs false
set_option maxHeartbeats 8000000 in
theorem spec_l12Can0 (vs : List Int) (ow st : Int) (es : List Entry) (v0 v2 : Value) (w : World) (r0 : Ints w v0 vs) (r2 : rdsL w v2 es) (hob : ∀ i, (h : i < es.length) → 0 ≤ es[i].object_ ∧ es[i].object_ < (vs.length : Int)) (hvl : vs.length ≤ 8) :
    Calls Try.prog 20 #[v0, .agg #[.int .i64 ow, .int .i64 st, v2]] w fun e w' => e = .returned (.bool (canL vs es)) ∧ Below w.heap.size w w' := by
  obtain ⟨a0, cap0, rfl, hl0, hm0, hc0⟩ := r0.open
  obtain ⟨a2, cap2, rfl, hl2, hm2, hc2⟩ := rdsL_open r2
  have HC0 := hid hc0
  have HC2 := hid hc2
  obtain ⟨W1, hW1⟩ : ∃ X, w.alloc (.cells #[.int .i64 ow, .int .i64 st, Value.slice a2 es.length cap2] 45) = X := ⟨_, rfl⟩
  have hB1 : Below w.heap.size w W1 := by rw [← hW1]; exact (Below.refl _ _).alloc (Nat.le_refl _) _
  have bd : Box W1 w.heap.size [.int .i64 ow, .int .i64 st, Value.slice a2 es.length cap2] := by rw [← hW1]; exact Box.alloc _ _ _
  have HW1 := hid hW1
  have hel : es.length ≤ 9223372036854775807 := by omega
  have hN1 := bd.1
  have BD := hid bd
  have k2 : W1.cell? ⟨w.heap.size, 2, none⟩ = some (Value.slice a2 es.length cap2) := bd.2 2 (by simp)
  have HOB := hid hob
  have Hu := hid (show canL vs es = es.all (fun e => vs.getD e.object_.toNat 0 == e.old_) from rfl)
  generalize canL vs es = R at *
  clear hc0 hc2 r0 r2 hW1 bd hob
  go_enter Try.func20, Try.ntmps20
  go_wp2_with fail
  rw [HW1.out]
  go_wp2
  clear k2
  go_loopw [5] (fun i wr => ∃ k : Nat, k ≤ es.length ∧ i = .int .i64 k ∧ Same ((es.drop k).all (fun e => vs.getD e.object_.toNat 0 == e.old_)) (es.all (fun e => vs.getD e.object_.toNat 0 == e.old_)) ∧ Below W1.heap.size W1 wr) (fun i _ => es.length - (intOf i).toNat)
  case atStart => exact ⟨0, by omega, rfl, .rfl, Below.refl _ _⟩
  case round =>
    obtain ⟨k, hk, rfl, hS, hB⟩ := hrel
    have q2 : wr.cell? ⟨w.heap.size, 2, none⟩ = some (Value.slice a2 es.length cap2) := (hB.cell (p := ⟨w.heap.size, 2, none⟩) hN1).trans (BD.out.2 2 (by simp))
    have hBr := hB1.trans (hB.mono hB1.size)
    have HB := hid hBr
    by_cases hlt : k < es.length
    · obtain ⟨bb, off, cs, rfl, hbs, hel2, hcell⟩ := HC2.out k hlt
      have hel2 : cs = Entry.enc es[k] := hel2
      subst hel2
      have hst := hid (all_step (fun e : Entry => vs.getD e.object_.toNat 0 == e.old_) es k hlt)
      have hobk := HOB.out k hlt
      obtain ⟨E, hE⟩ : ∃ E, es[k] = E := ⟨_, rfl⟩
      have c0 : w.cell? ⟨bb, off + k * 5, none⟩ = some (.int .i64 es[k].object_) := hcell 0 (show 0 < 5 by omega)
      have c2 : w.cell? ⟨bb, off + k * 5 + 2, none⟩ = some (.int .i64 es[k].old_) := hcell 2 (show 2 < 5 by omega)
      have e0 := (hBr.cell (p := ⟨bb, off + k * 5, none⟩) hbs).trans c0
      have e2 := (hBr.cell (p := ⟨bb, off + k * 5 + 2, none⟩) hbs).trans c2
      rw [hE] at e0 e2 hst hobk
      clear c0 c2 hcell HC2 hE
      obtain ⟨eo, ev, el, en, ew⟩ := E
      dsimp only at e0 e2 hobk hst
      obtain ⟨o, rfl⟩ := Int.eq_ofNat_of_zero_le hobk.1
      have hol : o < vs.length := by omega
      obtain ⟨b0, of0, rfl, hb0, d0⟩ := HC0.out o hol
      have f0 := (hBr.cell (p := ⟨b0, of0 + o, none⟩) hb0).trans d0
      have ho0 : (0 : Int) ≤ (o : Int) := by omega
      have hoi : (o : Int) < (vs.length : Int) := by omega
      have hgd : vs.getD ((o : Int)).toNat 0 = vs[o] := by rw [Int.toNat_natCast]; simp [hol]
      rw [hgd] at hst
      have hu := hid (show R = (es.drop k).all (fun e => vs.getD e.object_.toNat 0 == e.old_) by rw [hS.out]; exact Hu.out)
      generalize vs[o] = x at *
      clear d0 HC0 hobk hgd
      by_cases hx : x = el
      · subst hx
        have Hn := hid (show Same ((es.drop (k+1)).all (fun e => vs.getD e.object_.toNat 0 == e.old_)) (es.all (fun e => vs.getD e.object_.toNat 0 == e.old_)) from .mk (by rw [← hS.out, hst.out]; simp))
        clear hst hu hS
        go_wp2
        go_region
        all_goals go_wp2
        all_goals go_roundw
        case rel => exact ⟨k+1, by omega, by go_num, Hn.out, hB.drew⟩
        case measure => simp [intOf]; omega
      · have Hn := hid (show (es.drop k).all (fun e => vs.getD e.object_.toNat 0 == e.old_) = false by rw [hst.out]; simp [hx])
        have hbn : (x != el) = true := by simpa using hx
        clear hst hS
        go_wp2
        go_region
        all_goals go_wp2
        all_goals go_ret
        all_goals exact ⟨ret_bool (by rw [hu.out, Hn.out]), HB.out.drew⟩
    · obtain rfl : k = es.length := by omega
      have hu := hid (show R = true by rw [Hu.out, ← hS.out, List.drop_length]; rfl)
      go_wp2
      go_ret
      exact ⟨ret_bool hu.out.symm, HB.out⟩
end Go.Proofs.Ytbbdchlabdilcaa
