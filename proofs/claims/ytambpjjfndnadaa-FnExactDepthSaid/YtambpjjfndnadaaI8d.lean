/- Chapter 8's program: who lies in the way of a descriptor. -/
import Derived.Test.YtambpjjfndnadaaI7g
import Derived.Test.YtambpjjfndnadaaF8d
namespace Go.Proofs.Ytambpjjfndnadaa
set_option maxRecDepth 100000
open Go.RowKit Go.Proofs Go.Own
open Go Go.BigFrame
set_option linter.unusedVariables false
set_option linter.unusedSimpArgs false
set_option maxHeartbeats 8000000 in
theorem impl_inTheWayOf0 (hs : List Head) (ds : List DescD) (v0 v1 : Value) (k : Nat) (w : World) (hso : storeOk hs ds = true) (hk : k < ds.length) (h0 : rdsL w v0 hs) (h1 : rdsL w v1 ds) :
    Calls Try.prog 67 #[.agg #[v0, v1], .int .i64 (k : Int)] w fun e w' => e = .returned (.int .i64 (wayOf hs ds k)) ∧ Below w.heap.size w w' := by
  obtain ⟨a0, cap0, rfl, hl0, hm0, hc0⟩ := rdsL_open h0
  obtain ⟨a1, cap1, rfl, hl1, hm1, hc1⟩ := rdsL_open h1
  have HC := hid hc0
  obtain ⟨bb, off, cs, rfl, hbs, ⟨v2, rfl, h2⟩, hcell⟩ := hc1 k hk
  obtain ⟨ES, hES⟩ : ∃ ES, Hid (ds[k].entries_ = ES) := ⟨_, hid rfl⟩
  have hwo := hid (show wayOf hs ds k = wayAt hs k ES 0 by unfold wayOf; rw [entsAt_eq hk, hES.out])
  rw [hES.out] at h2
  obtain ⟨a2, cap2, rfl, hl2, hm2, hc2⟩ := (rdsEntrys.1 h2).open
  have HE := hid hc2
  have HO := hid (show ∀ j, (hj : j < ES.length) → ∃ o : Nat, ES[j].object_ = o ∧ o < hs.length from fun j hj => by
    have h9 := hES.out
    subst h9
    exact cur_obj hso hk hj)
  have HD := hid (show ∀ o, (ho : o < hs.length) → -1 ≤ hs[o].desc_ from fun o ho => (head_in hso ho).2.1)
  have hlenE : ES.length ≤ 9223372036854775807 := by omega
  have hlen0 : hs.length ≤ 9223372036854775807 := by omega
  have hlen1 : ds.length ≤ 9223372036854775807 := by omega
  obtain ⟨W1, hW1⟩ : ∃ X, w.alloc (.cells #[Value.slice a0 hs.length cap0, Value.slice (some ⟨bb, off, none⟩) ds.length cap1] 32) = X := ⟨_, rfl⟩
  have hB1 : Below w.heap.size w W1 := by rw [← hW1]; exact (Below.refl _ _).alloc (Nat.le_refl _) _
  have BP : Hid (BoxF W1 w.heap.size [Value.slice a0 hs.length cap0, Value.slice (some ⟨bb, off, none⟩) ds.length cap1]) := by rw [← hW1]; exact hid (BoxF.alloc w #[Value.slice a0 hs.length cap0, Value.slice (some ⟨bb, off, none⟩) ds.length cap1] 32)
  have k1 : W1.cell? ⟨w.heap.size, 1, none⟩ = some (Value.slice (some ⟨bb, off, none⟩) ds.length cap1) := BP.out.1.2 1 (by simp)
  have e2 : W1.cell? ⟨bb, off + k * 3 + 2, none⟩ = some (Value.slice a2 ES.length cap2) := (hB1.cell (p := ⟨bb, off + k * 3 + 2, none⟩) hbs).trans (show w.cell? ⟨bb, off + k * 3 + 2, none⟩ = some (Value.slice a2 ES.length cap2) from hcell 2 (show 2 < 3 by omega))
  have hki : (k : Int) < (ds.length : Int) := by omega
  have hk0 : (0 : Int) ≤ (k : Int) := by omega
  clear h0 h1 hc0 hc1 hc2 h2 hcell
  go_enter Try.func67, Try.ntmps67
  go_wp2
  go_loopw [15] (fun i wr => ∃ j : Nat, j ≤ ES.length ∧ i = .int .i64 j ∧ Same (wayAt hs k ES j) (wayAt hs k ES 0) ∧ Below w.heap.size w wr ∧ Hid (BoxF wr w.heap.size [Value.slice a0 hs.length cap0, Value.slice (some ⟨bb, off, none⟩) ds.length cap1])) (fun i _ => ES.length - (intOf i).toNat)
  case atStart => exact ⟨0, by omega, rfl, .rfl, hB1, BP⟩
  case round =>
    clear hW1 hB1 BP k1 e2
    clear W1
    obtain ⟨j, hj, rfl, hS, hB, BP⟩ := hrel
    by_cases hlt : j < ES.length
    · obtain ⟨o, ho, hol⟩ := HO.out j hlt
      obtain ⟨b2, off2, rfl, hb2, c0, c1, c2, c3, c4⟩ := HE.out j hlt
      obtain ⟨b3, off3, cs3, rfl, hb3, rfl, hcell3⟩ := HC.out o hol
      have d2 : wr.cell? ⟨b3, off3 + o * 3 + 2, none⟩ = some (.int .i64 hs[o].desc_) := (hB.cell (p := ⟨b3, off3 + o * 3 + 2, none⟩) hb3).trans (show w.cell? ⟨b3, off3 + o * 3 + 2, none⟩ = some (.int .i64 hs[o].desc_) from hcell3 2 (show 2 < 3 by omega))
      have e0 := (hB.cell (p := ⟨b2, off2 + j * 5, none⟩) hb2).trans c0
      have e1 := (hB.cell (p := ⟨b2, off2 + j * 5 + 1, none⟩) hb2).trans c1
      have e2 := (hB.cell (p := ⟨b2, off2 + j * 5 + 2, none⟩) hb2).trans c2
      have e3 := (hB.cell (p := ⟨b2, off2 + j * 5 + 3, none⟩) hb2).trans c3
      have e4 := (hB.cell (p := ⟨b2, off2 + j * 5 + 4, none⟩) hb2).trans c4
      have hDo := HD.out o hol
      obtain ⟨E, hE⟩ : ∃ E, Hid (ES[j] = E) := ⟨_, hid rfl⟩
      obtain ⟨H, hH⟩ : ∃ H, Hid (hs[o].desc_ = H) := ⟨_, hid rfl⟩
      have hA := hid (show (hAt hs ES[j].object_).desc_ = H by rw [ho, hAt_eq hol]; exact hH.out)
      have hWy := hid (show wayH hs k ES[j] = (decide (0 ≤ H) && !decide (H = (k : Int))) by unfold wayH; rw [hA.out])
      rw [hE.out] at e0 e1 e2 e3 e4 ho
      rw [hH.out] at d2 hDo
      rw [ho] at e0
      obtain ⟨V, hV⟩ : ∃ X, wr.alloc (.cells #[.int .i64 (o : Int), .int .i64 E.version_, .int .i64 E.old_, .int .i64 E.new_, .bool E.write_] 97) = X := ⟨_, rfl⟩
      have hBV : Below wr.heap.size wr V := by rw [← hV]; exact (Below.refl _ _).alloc (Nat.le_refl _) _
      have hBwV := hid (hB.trans (hBV.mono hB.size))
      have bV : BoxF V wr.heap.size [.int .i64 (o : Int), .int .i64 E.version_, .int .i64 E.old_, .int .i64 E.new_, .bool E.write_] := by rw [← hV]; exact BoxF.alloc wr #[.int .i64 (o : Int), .int .i64 E.version_, .int .i64 E.old_, .int .i64 E.new_, .bool E.write_] 97
      have y0 : V.cell? ⟨wr.heap.size, 0, none⟩ = some (.int .i64 (o : Int)) := bV.1.2 0 (by simp)
      have BPV := hid (BP.out.below hBV)
      have x0 : V.cell? ⟨w.heap.size, 0, none⟩ = some (Value.slice (some ⟨b3, off3, none⟩) hs.length cap0) := BPV.out.1.2 0 (by simp)
      have hwr := hB.size
      have d2V : V.cell? ⟨b3, off3 + o * 3 + 2, none⟩ = some (.int .i64 H) := (hBV.cell (p := ⟨b3, off3 + o * 3 + 2, none⟩) (by show b3 < wr.heap.size; omega)).trans d2
      have hoi : (o : Int) < (hs.length : Int) := by omega
      have ho0 : (0 : Int) ≤ (o : Int) := by omega
      have hji : (j : Int) < (ES.length : Int) := by omega
      have hj0 : (0 : Int) ≤ (j : Int) := by omega
      clear c0 c1 c2 c3 c4 hcell3 HC HE bV d2 hBV BP
      by_cases hq1 : H = -1
      · have hb1 : (H != -1) = false := by rw [hq1]; decide
        have hno := hid (wayAt_no (hs := hs) (d := (k : Int)) hlt (by rw [hWy.out, hq1]; rfl))
        clear hq1 hDo
        go_wp2
        go_roundw
        case rel => exact ⟨j+1, by omega, by go_num, Same.mk (by rw [← hno.out]; exact hS.out), hBwV.out, BPV⟩
        case measure => simp [intOf]; omega
      · have hb1 : (H != -1) = true := by simp [hq1]
        by_cases hq2 : H = (k : Int)
        · have hb2 : (H != (k : Int)) = false := by simp [hq2]
          have hno := hid (wayAt_no (hs := hs) (d := (k : Int)) hlt (by rw [hWy.out, decide_eq_true hq2]; simp))
          clear hq1 hq2 hDo
          go_wp2
          go_roundw
          case rel => exact ⟨j+1, by omega, by go_num, Same.mk (by rw [← hno.out]; exact hS.out), hBwV.out, BPV⟩
          case measure => simp [intOf]; omega
        · have hb2 : (H != (k : Int)) = true := by simp [hq2]
          have hyes := hid (wayAt_yes (hs := hs) (d := (k : Int)) hlt (by rw [hWy.out, decide_eq_false hq2, decide_eq_true (show 0 ≤ H by omega)]; rfl))
          clear hq1 hq2 hDo
          go_wp2
          go_ret
          exact ⟨ret_int (by rw [hwo.out, ← hS.out, hyes.out, hA.out]), hBwV.out⟩
    · obtain rfl : j = ES.length := by omega
      have hend := hid (wayAt_end (hs := hs) (d := (k : Int)) (es := ES) (k := ES.length) (by omega))
      go_wp2
      go_ret
      exact ⟨ret_int (by rw [hwo.out, ← hS.out, hend.out]), hB⟩
end Go.Proofs.Ytambpjjfndnadaa
