/- Chapter 7's program: Held. -/
import Derived.Test.YtpdgpblekbongaaI7c
import Derived.Test.YtpdgpblekbongaaN7o
namespace Go.Proofs.Ytpdgpblekbongaa
set_option maxRecDepth 100000
open Go.RowKit Go.Proofs Go.Own
set_option linter.unusedVariables false
set_option linter.unusedSimpArgs false
theorem headIn_desc {ds : List DescD} {i : Nat} {h : Head} (e : headIn ds i h = true) : -1 ≤ h.desc_ ∧ h.desc_ ≤ (ds.length : Int) - 1 := by
  unfold headIn at e
  simp only [Bool.and_eq_true] at e
  simpa [inB] using e.1.2
set_option maxHeartbeats 8000000 in
theorem impl_Held0 (hs : List Head) (ds : List DescD) (v0 v1 : Value) (w : World) (hx0 : hs.length ≤ 1048576) (h0 : rdsL w v0 hs) (h1 : rdsL w v1 ds) :
    Calls Try.prog 38 #[.agg #[v0, v1]] w fun e w' => ∃ u : Value, e = .returned u ∧ w'.ownsRow w.heap.size 3 1 u (heldC hs ds).length ((heldC hs ds).flatMap encI) ∧ Below w.heap.size w w' := by
  obtain ⟨j0, hj, hy0, hy1, hy2⟩ := info_parts infoInt
  have H0 := hid h0
  have H1 := hid h1
  obtain ⟨a0, cap0, rfl, hl0, hm0, hc0⟩ := rdsL_open h0
  obtain ⟨a1, cap1, rfl, hl1, hm1, -⟩ := rdsL_open h1
  clear h0 h1
  have hlen0 : hs.length ≤ 9223372036854775807 := by omega
  have HC := hid hc0
  clear hc0
  obtain ⟨W1, hW1⟩ : ∃ X, w.alloc (.cells #[Value.slice a0 hs.length cap0, Value.slice a1 ds.length cap1] 31) = X := ⟨_, rfl⟩
  have hB1 : Below w.heap.size w W1 := by rw [← hW1]; exact (Below.refl _ _).alloc (Nat.le_refl _) _
  have hN : W1.heap.size = w.heap.size + 1 := by rw [← hW1]; simp
  have bp : BoxF W1 w.heap.size [Value.slice a0 hs.length cap0, Value.slice a1 ds.length cap1] := by
    rw [← hW1]
    exact BoxF.alloc w #[Value.slice a0 hs.length cap0, Value.slice a1 ds.length cap1] 31
  have k0 : W1.cell? ⟨w.heap.size, 0, none⟩ = some (Value.slice a0 hs.length cap0) := bp.1.2 0 (by simp)
  have k1 : W1.cell? ⟨w.heap.size, 1, none⟩ = some (Value.slice a1 ds.length cap1) := bp.1.2 1 (by simp)
  have R0 := hid (rdsL.below H0.out hB1)
  have R1 := hid (rdsL.below H1.out hB1)
  have HW1 := hid hW1
  have BP1 := hid bp
  clear H0 H1 hW1 bp
  go_enter Try.func38, Try.ntmps38
  go_wp2_with fail
  rw [HW1.out]
  refine (impl_StoreOk0 hs ds _ _ _ R0.out R1.out).mono ?_
  rintro e w2 ⟨rfl, b2⟩
  have hB2 := hB1.trans (b2.mono hB1.size)
  have BP2 := hid (BP1.out.below b2)
  have hs2 : w.heap.size + 1 ≤ w2.heap.size := by have := b2.size; omega
  cases hs0 : storeOk hs ds with
  | false =>
    have Hn := hid (show heldC hs ds = [] by unfold heldC; rw [hs0]; rfl)
    go_wp2
    go_ret
    exact ⟨_, rfl, by rw [Hn.out]; exact World.ownsRow_nil _ _ _ _, hB2⟩
  | true =>
  have Hd := hid (fun i (hi : i < hs.length) => headIn_desc ((storeOk_all hs0).2.2.2 i hi))
  have Hh := hid (show heldC hs ds = heldTo hs hs.length by unfold heldC; rw [hs0]; rfl)
  have q0 : w2.cell? ⟨w.heap.size, 0, none⟩ = some (Value.slice a0 hs.length cap0) := BP2.out.1.2 0 (by simp)
  clear R0 R1 b2 BP1 k0 k1 HW1 hB1 hN
  clear W1
  go_wp2
  go_loopw [12, 3] (fun i u wr => ∃ (k : Nat) (ua : Option Addr) (um uc : Nat), k ≤ hs.length ∧ i = .int .i64 k ∧ u = Value.slice ua um uc ∧ Below w.heap.size w wr ∧ w.heap.size + 1 ≤ wr.heap.size ∧ Hid (wr.ownsRow (w.heap.size + 1) 3 1 (Value.slice ua um uc) (heldTo hs k).length ((heldTo hs k).flatMap encI))) (fun i _ _ => hs.length - (intOf i).toNat)
  case atStart => exact ⟨0, none, 0, 0, by omega, rfl, rfl, hB2, hs2, hid (World.ownsRow_nil _ _ _ _)⟩
  case round =>
    clear hB2 hs2 q0 BP2
    clear w2
    obtain ⟨k, ua, um, uc, hk, rfl, rfl, hB, hM, O1⟩ := hrel
    have hlen9 := heldTo_len hs k
    by_cases hlt : k < hs.length
    · obtain ⟨bb, off, cs, rfl, hbs, rfl, hcell⟩ := HC.out k hlt
      have c0 : w.cell? ⟨bb, off + k * 3, none⟩ = some (.int .i64 hs[k].value_) := hcell 0 (show 0 < 3 by omega)
      have c1 : w.cell? ⟨bb, off + k * 3 + 1, none⟩ = some (.int .i64 hs[k].version_) := hcell 1 (show 1 < 3 by omega)
      have c2 : w.cell? ⟨bb, off + k * 3 + 2, none⟩ = some (.int .i64 hs[k].desc_) := hcell 2 (show 2 < 3 by omega)
      have e0 := (hB.cell (p := ⟨bb, off + k * 3, none⟩) hbs).trans c0
      have e1 := (hB.cell (p := ⟨bb, off + k * 3 + 1, none⟩) hbs).trans c1
      have e2 := (hB.cell (p := ⟨bb, off + k * 3 + 2, none⟩) hbs).trans c2
      obtain ⟨hd1, -⟩ := Hd.out k hlt
      have HSy := hid (fun hd => heldTo_yes (hs := hs) hlt hd)
      have HSn := hid (fun hd => heldTo_no (hs := hs) hlt hd)
      clear c0 c1 c2 hcell HC
      generalize hs[k] = D at *
      by_cases hd : D.desc_ = -1
      · have HS := hid (HSn.out (by omega))
        have hBa := hB.alloc hB.size (.cells #[.int .i64 D.value_, .int .i64 D.version_, .int .i64 D.desc_] 44)
        have O2 := hid (World.ownsRow.alloc O1.out (.cells #[.int .i64 D.value_, .int .i64 D.version_, .int .i64 D.desc_] 44))
        have hd' : (D.desc_ != -1) = false := by simp [hd]
        have HD := hid hd
        clear O1 HSy HSn hd
        go_wp2
        go_roundw
        case rel => exact ⟨k+1, _, _, _, by omega, by go_num, rfl, hBa, by simp; omega, hid (by rw [HS.out]; exact O2.out)⟩
        case measure => simp [intOf]; omega
      · have HS := hid (HSy.out (by omega))
        have hd' : (D.desc_ != -1) = true := by simp [hd]
        have hBa := hB.alloc hB.size (.cells #[.int .i64 D.value_, .int .i64 D.version_, .int .i64 D.desc_] 44)
        have O2 := World.ownsRow.alloc O1.out (.cells #[.int .i64 D.value_, .int .i64 D.version_, .int .i64 D.desc_] 44)
        obtain ⟨w2, hw2⟩ : ∃ X, wr.alloc (.cells #[.int .i64 D.value_, .int .i64 D.version_, .int .i64 D.desc_] 44) = X := ⟨_, rfl⟩
        have hs2 : w2.heap.size = wr.heap.size + 1 := by rw [← hw2]; simp
        rw [hw2] at hBa O2
        obtain ⟨W3, hW3⟩ : ∃ X, w2.alloc (.cells #[.int .i64 (k : Int)] 3) = X := ⟨_, rfl⟩
        have b23 : Below w2.heap.size w2 W3 := by rw [← hW3]; exact (Below.refl _ _).alloc (Nat.le_refl _) _
        have hB3 := hBa.trans (b23.mono hBa.size)
        have hl3 : Flat W3 (.slice (some ⟨w2.heap.size, 0, none⟩) 1 1) 1 1 [.int .i64 (k : Int)] := by rw [← hW3]; exact Flat.of_owns (owns_litN w2 3 1 1 #[.int .i64 (k : Int)] 0 (Nat.zero_le _) rfl (by decide))
        have O3 := owns_below O2 b23
        have hone := oneCell_1 (k : Int)
        have hs3 := hB3.size
        have hs3' : w.heap.size + 1 ≤ W3.heap.size := by have := b23.size; omega
        have HD := hid hd
        rw [hs2] at hl3
        have HW2 := hid hw2
        have HW3 := hid hW3
        clear O1 HSy HSn hd hw2 hW3 b23 O2
        go_wp2_with (at_builtin; rw [HW2.out, HW3.out]; refine wpList_append_flat rfl _ _ 35 rfl (w.heap.size + 1) 3 j0 (.int .i64 0) 1 8 Try.underlying35 hj hy0 hy1 hy2 rfl (by decide) _ _ _ rfl O3 _ _ _ rfl hl3 hone (by unfold maxLen; omega) (by omega) (by omega) ?_)
        intro v4 w4 o4 g4
        obtain ⟨ya, ym, yc, rfl⟩ := owns_form3 o4
        have hB4 : Below w.heap.size w w4 := hB3.trans (below_grown g4 hB3.size fun b e => by have := (World.ownsRow.lt O3 b e).1; omega)
        have O4 := hid o4
        have hs4 : w.heap.size + 1 ≤ w4.heap.size := by have := g4.size; omega
        clear o4 g4 O3 hl3 hone
        go_wp2
        go_roundw
        case rel => exact ⟨k+1, _, _, _, by omega, by go_num, rfl, hB4, hs4, hid (by rw [HS.out, encI_snoc, List.length_append]; exact O4.out)⟩
        case measure => simp [intOf]; omega
    · obtain rfl : k = hs.length := by omega
      have hB9 := hB
      go_wp2
      go_ret
      exact ⟨_, rfl, by rw [Hh.out]; exact owns_mono O1.out (by omega), hB9⟩
end Go.Proofs.Ytpdgpblekbongaa
