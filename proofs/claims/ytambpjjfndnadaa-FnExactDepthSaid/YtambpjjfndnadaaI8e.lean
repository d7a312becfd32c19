/- Chapter 8's program: Depth. -/
import Derived.Test.YtambpjjfndnadaaI7
import Derived.Test.YtambpjjfndnadaaI7b
import Derived.Test.YtambpjjfndnadaaI8d
import Derived.Test.YtambpjjfndnadaaN8o
namespace Go.Proofs.Ytambpjjfndnadaa
set_option maxRecDepth 100000
open Go.RowKit Go.Proofs Go.Own
open Go Go.BigFrame
set_option linter.unusedVariables false
set_option linter.unusedSimpArgs false
/-- Which descriptors have been passed. -/
def passedOf (n : Nat) (way : List Int) : List Value := (List.range n).map fun (k : Nat) => Value.bool (decide ((k : Int) ∈ way))
theorem passedOf_len (n : Nat) (way : List Int) : (passedOf n way).length = n := by simp [passedOf]
theorem passedOf_get {n : Nat} (way : List Int) {k : Nat} (h : k < n) : (passedOf n way)[k]? = some (.bool (decide ((k : Int) ∈ way))) := by simp [passedOf, h]
theorem passedOf_nil (n : Nat) : passedOf n [] = List.replicate n (.bool false) := by
  apply List.ext_getElem?
  intro i
  by_cases h : i < n
  · rw [passedOf_get [] h]; simp [h]
  · rw [List.getElem?_eq_none (by rw [passedOf_len]; omega), List.getElem?_eq_none (by simp; omega)]
theorem passedOf_set {n : Nat} (way : List Int) {k : Nat} (h : k < n) : (passedOf n way).set k (.bool true) = passedOf n (way ++ [(k : Int)]) := by
  apply List.ext_getElem?
  intro i
  by_cases hi : i < n
  · rw [passedOf_get _ hi, List.getElem?_set]
    by_cases hk : k = i
    · subst hk; simp [passedOf_len, h]
    · rw [if_neg hk, passedOf_get _ hi]
      have : ¬ (i : Int) = (k : Int) := by omega
      simp [this]
  · rw [List.getElem?_eq_none (by rw [List.length_set, passedOf_len]; omega), List.getElem?_eq_none (by rw [passedOf_len]; omega)]
set_option maxHeartbeats 8000000 in
theorem impl_Depth0 (hs : List Head) (ds : List DescD) (v0 v1 : Value) (fr : Int) (w : World) (h0 : rdsL w v0 hs) (h1 : rdsL w v1 ds) :
    Calls Try.prog 38 #[.agg #[v0, v1], .int .i64 fr] w fun e w' => e = .returned (.int .i64 (depthC hs ds fr)) ∧ Below w.heap.size w w' := by
  obtain ⟨i0, hi, hz0, hz1, hz2⟩ := info_parts infoBool
  have H0 := hid h0
  have H1 := hid h1
  obtain ⟨a0, cap0, rfl, hl0, hm0, hc0⟩ := rdsL_open h0
  obtain ⟨a1, cap1, rfl, hl1, hm1, hc1⟩ := rdsL_open h1
  clear h0 h1 hc0 hc1
  have hlen0 : hs.length ≤ 9223372036854775807 := by omega
  have hlen1 : ds.length ≤ 9223372036854775807 := by omega
  obtain ⟨W1, hW1⟩ : ∃ X, w.alloc (.cells #[Value.slice a0 hs.length cap0, Value.slice a1 ds.length cap1] 32) = X := ⟨_, rfl⟩
  have hB1 : Below w.heap.size w W1 := by rw [← hW1]; exact (Below.refl _ _).alloc (Nat.le_refl _) _
  have bp : BoxF W1 w.heap.size [Value.slice a0 hs.length cap0, Value.slice a1 ds.length cap1] := by rw [← hW1]; exact BoxF.alloc w #[Value.slice a0 hs.length cap0, Value.slice a1 ds.length cap1] 32
  have k0 : W1.cell? ⟨w.heap.size, 0, none⟩ = some (Value.slice a0 hs.length cap0) := bp.1.2 0 (by simp)
  have k1 : W1.cell? ⟨w.heap.size, 1, none⟩ = some (Value.slice a1 ds.length cap1) := bp.1.2 1 (by simp)
  have R0 := hid (rdsL.below H0.out hB1)
  have R1 := hid (rdsL.below H1.out hB1)
  have hu := hid (show depthC hs ds fr = (if (storeOk hs ds && inB fr 0 ((ds.length : Int) - 1)) = true then ((depthGo hs ds 61 fr []).length : Int) else 0) from rfl)
  go_enter Try.func38, Try.ntmps38
  go_wp2_with fail
  try rw [hW1]
  clear hW1
  refine (impl_StoreOk0 hs ds _ _ _ R0.out R1.out).mono ?_
  rintro e w2 ⟨rfl, b2⟩
  have hB2 := hB1.trans (b2.mono hB1.size)
  have hs2 := b2.size
  have hN1 := bp.1.1
  have BP2 := hid (bp.below b2)
  have l0 : w2.cell? ⟨w.heap.size, 0, none⟩ = some (Value.slice a0 hs.length cap0) := BP2.out.1.2 0 (by simp)
  have l1 : w2.cell? ⟨w.heap.size, 1, none⟩ = some (Value.slice a1 ds.length cap1) := BP2.out.1.2 1 (by simp)
  clear bp k0 k1 R0 R1 b2
  cases hso : storeOk hs ds with
  | false =>
    have Hn := hid (show depthC hs ds fr = 0 by rw [hu.out, hso]; rfl)
    go_wp2
    go_ret
    exact ⟨ret_int Hn.out.symm, hB2⟩
  | true =>
  have HSO := hid hso
  have hiB : Hid (isIn ds.length fr = inB fr 0 ((ds.length : Int) - 1)) := hid (by unfold isIn inB; rw [Bool.eq_iff_iff]; simp; omega)
  go_wp2_with fail
  refine (impl_isDesc a0 hs.length cap0 a1 ds.length cap1 fr w2 hlen1).mono ?_
  rintro e w3 ⟨rfl, b3⟩
  have hB3 := hB2.trans (b3.mono hB2.size)
  have hs3 := b3.size
  have BP3 := hid (BP2.out.below b3)
  clear BP2 l0 l1 hB2
  cases hb : inB fr 0 ((ds.length : Int) - 1) with
  | false =>
    have Hn := hid (show depthC hs ds fr = 0 by rw [hu.out, hb, Bool.and_false]; rfl)
    rw [hiB.out, hb]
    go_wp2
    go_ret
    exact ⟨ret_int Hn.out.symm, hB3⟩
  | true =>
  rw [hiB.out, hb]
  obtain ⟨hd1, hd2⟩ : 0 ≤ fr ∧ fr ≤ (ds.length : Int) - 1 := by simpa [inB] using hb
  have hu2 := hid (show depthC hs ds fr = ((depthGo hs ds 61 fr []).length : Int) by rw [hu.out, hso, hb]; rfl)
  have HW0 := hid (WayAt.zero (hs := hs) (ds := ds) (d := fr) ⟨hd1, by omega⟩)
  have l1 : w3.cell? ⟨w.heap.size, 1, none⟩ = some (Value.slice a1 ds.length cap1) := BP3.out.1.2 1 (by simp)
  have h60 : ds.length ≤ 60 := (storeOk_all HSO.out).2.1
  have h1 : 1 ≤ ds.length := by omega
  clear hso hu hd1 hd2 hb hiB
  go_wp2_with (at_make; refine wpList_make_full _ rfl _ _ 58 rfl (w.heap.size + 1) 4 i0 (.bool false) 1 Try.underlying58 hi hz0 hz1 _ _ _ _ ds.length rfl rfl rfl rfl (by rw [hz2]; omega) (by unfold maxLen; omega) (by omega) ?_)
  rw [toList_madeCells_one, ← passedOf_nil]
  intro w4 o4 g4
  have hB4 : Below w.heap.size w w4 := hB3.grown g4 hB3.size (by simp)
  have BP4 := hid (BP3.out.grown g4 (by simp))
  have O4 := hid o4
  have hs4 : w3.heap.size ≤ w4.heap.size := g4.size
  have hN3 : w.heap.size + 1 ≤ w3.heap.size := by omega
  obtain ⟨G, hG⟩ : ∃ G, w3.heap.size = G := ⟨_, rfl⟩
  rw [hG] at O4 hN3 hs4 ⊢
  clear o4 g4 BP3 l1 hB3 hB1 hs2 hN1 hs3 b3 hG
  go_wp2
  go_loopw [7, 5] (fun i u wr => ∃ (d : Int) (way : List Int), i = .int .i64 d ∧ u = .int .i64 way.length ∧ Hid (WayAt hs ds fr d way) ∧ Below w.heap.size w wr ∧ Hid (BoxF wr w.heap.size [Value.slice a0 hs.length cap0, Value.slice a1 ds.length cap1]) ∧ Hid (wr.ownsRow (w.heap.size + 1) 4 1 (.slice (some ⟨G, 0, none⟩) ds.length ds.length) ds.length (passedOf ds.length way))) (fun _ u _ => 61 - (intOf u).toNat)
  case atStart => exact ⟨fr, [], rfl, rfl, HW0, hB4, BP4, O4⟩
  case round =>
    clear hB4 BP4 O4 HW0
    obtain ⟨d, way, rfl, rfl, HW, hB, BP, O1⟩ := hrel
    have hwl : way.length ≤ 60 := by have := HW.out.len; omega
    by_cases hd0 : 0 ≤ d
    · obtain ⟨k, rfl⟩ := Int.eq_ofNat_of_zero_le hd0
      have hk : k < ds.length := by have := HW.out.2.2.1; omega
      have hki : (k : Int) < (ds.length : Int) := by omega
      have c0 : wr.cell? ⟨G, k, none⟩ = some (.bool (decide ((k : Int) ∈ way))) := by rw [World.ownsRow.cellAt O1.out k (by omega)]; exact passedOf_get way hk
      have f0 : wr.frozen? ⟨G, k, none⟩ = false := World.ownsRow.frozenAt O1.out k
      have hne : ((k : Int) != -1) = true := by simp
      by_cases hmem : (k : Int) ∈ way
      · have Hn := hid (HW.out.done HSO.out (fun h => h.2 hmem))
        rw [decide_eq_true hmem] at c0
        clear hmem
        go_wp2
        go_ret
        exact ⟨ret_int (by rw [hu2.out, Hn.out]), hB⟩
      · have HWs := hid (HW.out.step HSO.out hd0 hmem)
        rw [decide_eq_false hmem] at c0
        obtain ⟨Y, hY⟩ : ∃ Y, wr.setCell ⟨G, k, none⟩ (.bool true) = Y := ⟨_, rfl⟩
        have hGb := World.ownsRow.lt O1.out G rfl
        have hBY : Below w.heap.size w Y := by rw [← hY]; exact hB.setCell (by show w.heap.size ≤ G; omega) _
        have BPY : BoxF Y w.heap.size [Value.slice a0 hs.length cap0, Value.slice a1 ds.length cap1] := by rw [← hY]; exact BP.out.other _ _ (by show ¬ G = w.heap.size; omega)
        have OY : Hid (Y.ownsRow (w.heap.size + 1) 4 1 (.slice (some ⟨G, 0, none⟩) ds.length ds.length) ds.length (passedOf ds.length (way ++ [(k : Int)]))) := hid (by rw [← hY, ← passedOf_set way hk]; exact owns_put O1.out k _)
        have y0 : Y.cell? ⟨w.heap.size, 0, none⟩ = some (Value.slice a0 hs.length cap0) := BPY.1.2 0 (by simp)
        have y1 : Y.cell? ⟨w.heap.size, 1, none⟩ = some (Value.slice a1 ds.length cap1) := BPY.1.2 1 (by simp)
        have HBP := hid BPY
        have T0 := hid (rdsL.below H0.out hBY)
        have T1 := hid (rdsL.below H1.out hBY)
        have hlen5 := hid (show (way ++ [(k : Int)]).length = way.length + 1 by simp)
        have hk00 : (0 : Int) ≤ (k : Int) := by omega
        clear hmem BP O1 BPY hGb hd0
        go_wp2_with fail
        try rw [hY]
        clear hY c0 f0
        refine (impl_inTheWayOf0 hs ds _ _ k _ HSO.out hk T0.out T1.out).mono ?_
        rintro e w6 ⟨rfl, b6⟩
        have hB6 := hid (hBY.trans (b6.mono hBY.size))
        have BP6 := hid (HBP.out.below b6)
        have O6 := hid (owns_below OY.out b6)
        clear b6 y0 y1
        go_wp2
        go_roundw
        case rel => exact ⟨_, way ++ [(k : Int)], rfl, by rw [hlen5.out]; go_num, HWs, hB6.out, BP6, O6⟩
        case measure => simp [intOf]; omega
    · have Hn := hid (HW.out.done HSO.out (fun h => hd0 h.1))
      have hm1 : d = -1 := by have := HW.out.2.2.1; omega
      subst hm1
      go_wp2
      go_ret
      exact ⟨ret_int (by rw [hu2.out, Hn.out]), hB⟩
end Go.Proofs.Ytambpjjfndnadaa
