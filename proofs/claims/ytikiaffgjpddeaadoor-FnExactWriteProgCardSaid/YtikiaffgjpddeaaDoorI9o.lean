/- Chapter 9's program: an instruction read of a line. -/
import Derived.Test.YtikiaffgjpddeaaDoorI9x
import Derived.Test.YtikiaffgjpddeaaDoorI9p
import Derived.Laws.CopyOwn
import Derived.Deep.Cut
import Derived.Deep.CutRange
import Derived.Deep.RegionLaw
namespace Go.Proofs.YtikiaffgjpddeaaDoor
set_option maxRecDepth 100000
open Go.RowKit Go.Proofs Go.Own
open Go Go.BigFrame Go.Shelf
set_option linter.unusedVariables false
set_option linter.unusedSimpArgs false
theorem splice_words (P : List (List UInt8)) : splice [tS [], tS [], tS []] 0 ((P.map tS).take 3) = [tS (P.getD 0 []), tS (P.getD 1 []), tS (P.getD 2 [])] := by
  match P with
  | [] => rfl
  | [a] => rfl
  | [a, b] => rfl
  | a :: b :: c :: r => rfl
set_option maxHeartbeats 8000000 in
theorem impl_instrOf (l : List UInt8) (n : Int) (w : World) (hl : l.length ≤ 900) (hn : n ≤ 1000000000) (hv : Env w) :
    Calls Tryd.prog 26 #[.string (BA l), .int .i64 n] w fun e w' => ∃ (i : Instr) (b : Bool), e = .returned (.tuple #[.agg #[.int .i64 i.op_, .int .i64 i.a_, .int .i64 i.b_], .bool b]) ∧ Hid (readI l n = if b = true then some i else none) ∧ Below w.heap.size w w' := by
  obtain ⟨X1, hX⟩ : ∃ X, (w.alloc (.cells #[.int .i64 0, .int .i64 0, .int .i64 0] 37)).alloc (.cells #[.string ⟨#[]⟩, .string ⟨#[]⟩, .string ⟨#[]⟩] 64) = X := ⟨_, rfl⟩
  have hX1 : X1.heap[w.heap.size + 1]? = some (.cells #[.string ⟨#[]⟩, .string ⟨#[]⟩, .string ⟨#[]⟩] 64 (0, 0)) := by
    rw [← hX]
    have h9 := heap_alloc_new (w.alloc (.cells #[.int .i64 0, .int .i64 0, .int .i64 0] 37)) (.cells #[.string ⟨#[]⟩, .string ⟨#[]⟩, .string ⟨#[]⟩] 64)
    simpa using h9
  have hz1 : X1.heap.size = w.heap.size + 2 := by rw [← hX]; simp
  have bx0 : BoxF X1 w.heap.size [.int .i64 0, .int .i64 0, .int .i64 0] := by
    rw [← hX]
    have h9 := BoxF.alloc w #[.int .i64 0, .int .i64 0, .int .i64 0] 37
    exact h9.below ((Below.refl _ _).alloc (Nat.le_refl _) _)
  have hB1 : Below w.heap.size w X1 := by rw [← hX]; exact ((Below.refl _ _).alloc (Nat.le_refl _) _).alloc (by simp) _
  have hwp : 0 < (wordsL l).length := by unfold wordsL; simp
  have HX := hid hX
  clear hX
  go_enter Tryd.func26, Tryd.ntmps26
  go_upto_region 2 with fail
  rw [HX.out]
  go_cut [5] from 8 to 11 (fun b5 wx => b5 = .bool false ∧ BoxF wx (w.heap.size + 1) [tS ((wordsL l).getD 0 []), tS ((wordsL l).getD 1 []), tS ((wordsL l).getD 2 [])] ∧ Below (w.heap.size + 1) X1 wx)
  case first =>
    go_region_law (first | (go_simp; go_at_call 25; refine (impl_parted (BA l) 32 (by decide) _ (by rw [BA_size]; omega)).mono ?_; rintro e w3 ⟨v3, rfl, o3, b3⟩; rw [BA_data] at o3; have o3' : w3.ownsRow _ 9 1 v3 (wordsL l).length ((wordsL l).map tS) := o3; obtain ⟨g3, cap3, rfl, hn3, hm3, hb3, hs3, hc3, hf3⟩ := owns_at o3' hwp; have hg3 := (b3.block (w.heap.size + 1) (by simp; omega)).trans (show _ = _ from hX1); have B3 : Below (w.heap.size + 1) X1 w3 := Below.trans (by repeat (first | exact Below.refl _ _ | refine Below.drew ?_)) (b3.mono (by simp; omega))) | (refine step_copy_splice rfl _ _ 41 41 rfl 9 Tryd.underlying41 (by kernel_rfl) _ _ _ _ _ _ rfl rfl (w.heap.size + 1) 0 [tS [], tS [], tS []] 64 hg3 (((wordsL l).map tS).take 3) (by rw [List.length_take, List.length_map]; exact Nat.min_comm _ _) (fun _ => ⟨rfl, _, rfl, fun j v hj => by rw [show (⟨g3, 0, none⟩ : Addr).add j = ⟨g3, j, none⟩ by simp [Addr.add]; try omega]; rw [List.getElem?_take] at hj; split at hj; (rw [hc3 j (by rcases Nat.lt_or_ge j ((wordsL l).map tS).length with h | h; (simpa using h); (rw [List.getElem?_eq_none h] at hj; cases hj))]; exact hj); cases hj⟩) (by simp; omega) (fun v hv => oneCell_S _ v (List.mem_of_mem_take hv)) (w.heap.size + 1) X1 (by repeat (first | exact B3 | refine Below.drew ?_)) (Nat.le_refl _) ?_; intro w4 hg4 B4))
    go_wp2_with fail
    go_meet
    have h9 := BoxF.ofHeap hg4.out
    rw [List.toList_toArray, splice_words] at h9
    exact ⟨rfl, h9, B4⟩
  case rest =>
    obtain ⟨rfl, bx, BQ⟩ := hcut
    have hm9 : ∀ j, ((wordsL l).getD j []).length ≤ 900 := fun j => by
      rcases Nat.lt_or_ge j (wordsL l).length with h | h
      · have := wordsL_mem l _ (List.getElem_mem h)
        simp only [List.getD, List.getElem?_eq_getElem h, Option.getD_some]
        omega
      · simp only [List.getD, List.getElem?_eq_none h, Option.getD_none]
        simp
    have m1 := hm9 1
    have m2 := hm9 2
    obtain ⟨p0, hp0⟩ : ∃ p, (wordsL l).getD 0 [] = p := ⟨_, rfl⟩
    obtain ⟨p1, hp1⟩ : ∃ p, (wordsL l).getD 1 [] = p := ⟨_, rfl⟩
    obtain ⟨p2, hp2⟩ : ∃ p, (wordsL l).getD 2 [] = p := ⟨_, rfl⟩
    rw [hp1] at m1
    rw [hp2] at m2
    rw [hp0, hp1, hp2] at bx
    have hRd := hid (readI_of (n := n) (l := l) (k := idxL namesL p0 0) (a := atoiV p1) (b := atoiV p2) hn (by rw [hp0]; exact idx_ok p0) (by rw [hp1]; exact atoi_num p1) (by rw [hp2]; exact atoi_num p2))
    obtain ⟨r, hr⟩ : ∃ r, idxL namesL p0 0 = r := ⟨_, rfl⟩
    obtain ⟨a, ha⟩ : ∃ a, atoiV p1 = a := ⟨_, rfl⟩
    obtain ⟨b, hb⟩ : ∃ b, atoiV p2 = b := ⟨_, rfl⟩
    rw [hr, ha, hb] at hRd
    clear hm9 hp0 hp1 hp2 hwp
    have q0 : wc.cell? ⟨w.heap.size + 1, 0, none⟩ = some (.string (BA p0)) := bx.1.2 0 (by simp)
    have q1 : wc.cell? ⟨w.heap.size + 1, 1, none⟩ = some (.string (BA p1)) := bx.1.2 1 (by simp)
    have q2 : wc.cell? ⟨w.heap.size + 1, 2, none⟩ = some (.string (BA p2)) := bx.1.2 2 (by simp)
    have hN1 : w.heap.size + 1 < wc.heap.size := bx.1.1
    go_wp2_with fail
    refine (impl_opOf p0 _).mono ?_
    rintro e w5 ⟨rfl, b5⟩
    rw [hr]
    have q1' := (b5.cell (p := ⟨w.heap.size + 1, 1, none⟩) hN1).trans q1
    have q2' := (b5.cell (p := ⟨w.heap.size + 1, 2, none⟩) hN1).trans q2
    have B5 := BQ.trans (b5.mono (Nat.le_of_lt hN1))
    have hN5 := Nat.lt_of_lt_of_le hN1 b5.size
    obtain ⟨V, hV⟩ : ∃ X, w5.alloc (.cells #[.int .i64 r, .int .i64 0, .int .i64 0] 37) = X := ⟨_, rfl⟩
    have bxV : BoxF V w5.heap.size [.int .i64 r, .int .i64 0, .int .i64 0] := by rw [← hV]; exact BoxF.alloc _ _ _
    have bV : Below w5.heap.size w5 V := by rw [← hV]; exact (Below.refl _ _).alloc (Nat.le_refl _) _
    have q1V := (bV.cell (p := ⟨w.heap.size + 1, 1, none⟩) hN5).trans q1'
    have q2V := (bV.cell (p := ⟨w.heap.size + 1, 2, none⟩) hN5).trans q2'
    have BV := B5.trans (bV.mono (Nat.le_of_lt hN5))
    have hNV := Nat.lt_of_lt_of_le hN5 bV.size
    have q1A : (w5.alloc (.cells #[.int .i64 r, .int .i64 0, .int .i64 0] 37)).cell? ⟨w.heap.size + 1, 1, none⟩ = some (.string (BA p1)) := by rw [hV]; exact q1V
    have HV := hid hV
    clear hV q0 q1 q2 q1' q2' bx b5 q1V
    go_wp2_with fail
    rw [HV.out]
    have hEV : Env V := env_below hv (hB1.trans (BV.mono (by omega)))
    refine (atoiC (BA p1) (by rw [BA_size]; omega) _ hEV).mono ?_
    rintro e w6 ⟨er, rfl, b6⟩
    rw [BA_data, ha]
    have bx6 := bxV.below b6
    have q26 := (b6.cell (p := ⟨w.heap.size + 1, 2, none⟩) hNV).trans q2V
    have B6 := BV.trans (b6.mono (Nat.le_of_lt hNV))
    have hN6 := Nat.lt_of_lt_of_le hNV b6.size
    have c6 : w6.cell? ⟨w5.heap.size, 1, none⟩ = some (.int .i64 0) := bx6.1.2 1 (by simp)
    have f6 := bx6.2 1 (by simp)
    have bx7 := bx6.set 1 (by simp) (.int .i64 a)
    have q27 : (w6.setCell ⟨w5.heap.size, 1, none⟩ (.int .i64 a)).cell? ⟨w.heap.size + 1, 2, none⟩ = some (.string (BA p2)) := by rw [World.cell?_setCell_other _ _ _ _ (by intro e'; have h9 := congrArg Addr.block e'; simp at h9; omega)]; exact q26
    have B7 : Below (w.heap.size + 1) X1 (w6.setCell ⟨w5.heap.size, 1, none⟩ (.int .i64 a)) := B6.setCell (p := ⟨w5.heap.size, 1, none⟩) (Nat.le_of_lt hN5) _
    have HB7 := hid B7
    have hE7 : Env (w6.setCell ⟨w5.heap.size, 1, none⟩ (.int .i64 a)) := env_below hv (hB1.trans (B7.mono (by omega)))
    have HE7 := hid hE7
    clear bxV bx6 q26 B7 hE7 q1A q2V b6 hEV
    go_wp2_with fail
    refine (atoiC (BA p2) (by rw [BA_size]; omega) _ HE7.out).mono ?_
    rintro e w8 ⟨er2, rfl, b8⟩
    rw [BA_data, hb]
    have bx8 := bx7.below b8
    have B8 := HB7.out.trans (b8.mono (by simp; omega))
    have c8 : w8.cell? ⟨w5.heap.size, 2, none⟩ = some (.int .i64 0) := bx8.1.2 2 (by simp)
    have f8 := bx8.2 2 (by simp)
    have bx9 := bx8.set 2 (by simp) (.int .i64 b)
    have B9 : Below (w.heap.size + 1) X1 (w8.setCell ⟨w5.heap.size, 2, none⟩ (.int .i64 b)) := B8.setCell (p := ⟨w5.heap.size, 2, none⟩) (Nat.le_of_lt hN5) _
    have kk0 : (w8.setCell ⟨w5.heap.size, 2, none⟩ (.int .i64 b)).cell? ⟨w5.heap.size, 0, none⟩ = some (.int .i64 r) := bx9.1.2 0 (by simp)
    have kk1 : (w8.setCell ⟨w5.heap.size, 2, none⟩ (.int .i64 b)).cell? ⟨w5.heap.size, 1, none⟩ = some (.int .i64 a) := bx9.1.2 1 (by simp)
    have kk2 : (w8.setCell ⟨w5.heap.size, 2, none⟩ (.int .i64 b)).cell? ⟨w5.heap.size, 2, none⟩ = some (.int .i64 b) := bx9.1.2 2 (by simp)
    obtain ⟨X9, hX9⟩ : ∃ X, w8.setCell ⟨w5.heap.size, 2, none⟩ (.int .i64 b) = X := ⟨_, rfl⟩
    rw [hX9] at bx9 B9
    have k0 : X9.cell? ⟨w5.heap.size, 0, none⟩ = some (.int .i64 r) := bx9.1.2 0 (by simp)
    have k1 : X9.cell? ⟨w5.heap.size, 1, none⟩ = some (.int .i64 a) := bx9.1.2 1 (by simp)
    have k2 : X9.cell? ⟨w5.heap.size, 2, none⟩ = some (.int .i64 b) := bx9.1.2 2 (by simp)
    have hlt9 : w5.heap.size < X9.heap.size := bx9.1.1
    have HX9 := hid hX9
    clear hX9 bx7 bx8 bx9 q27 b8 HB7 B8 hr ha hb
    go_wp2_with fail
    rw [HX9.out]
    clear c6 f6 c8 f8 kk0 kk1 kk2
    cases hI : instrOk ⟨r, a, b⟩ n with
    | false =>
      have Hno := hid (show readI l n = none by rw [hRd.out, if_neg (by rw [hI]; exact fun h => Bool.noConfusion h.1)])
      refine (impl_instrOkIs ⟨r, a, b⟩ n _ _ hI).mono ?_
      rintro e w10 ⟨rfl, b10⟩
      have B10 := B9.trans (b10.mono (Nat.le_trans (Nat.le_of_lt hN5) (Nat.le_of_lt hlt9)))
      have r0 : w10.cell? ⟨w.heap.size, 0, none⟩ = some (.int .i64 0) := (B10.cell (p := ⟨w.heap.size, 0, none⟩) (Nat.lt_succ_self _)).trans (bx0.1.2 0 (by simp)); have r1 : w10.cell? ⟨w.heap.size, 1, none⟩ = some (.int .i64 0) := (B10.cell (p := ⟨w.heap.size, 1, none⟩) (Nat.lt_succ_self _)).trans (bx0.1.2 1 (by simp)); have r2 : w10.cell? ⟨w.heap.size, 2, none⟩ = some (.int .i64 0) := (B10.cell (p := ⟨w.heap.size, 2, none⟩) (Nat.lt_succ_self _)).trans (bx0.1.2 2 (by simp)); have z0 := (B10.frozen (p := ⟨w.heap.size, 0, none⟩) (Nat.lt_succ_self _)).trans (bx0.2 0 (by simp)); have z1 := (B10.frozen (p := ⟨w.heap.size, 1, none⟩) (Nat.lt_succ_self _)).trans (bx0.2 1 (by simp)); have z2 := (B10.frozen (p := ⟨w.heap.size, 2, none⟩) (Nat.lt_succ_self _)).trans (bx0.2 2 (by simp)); have HBw := hid (hB1.trans (B10.mono (Nat.le_succ _)))
      go_wp2
      exact bodyPost_ret (v := .tuple #[.agg #[.int .i64 0, .int .i64 0, .int .i64 0], .bool false]) (by simp [results, Tryd.results26, go_sem, *]) rfl ⟨⟨0, 0, 0⟩, false, rfl, Hno, by repeat (first | exact HBw.out | refine Below.setCell ?_ (by simp; try omega) _)⟩
    | true =>
      refine (impl_instrOkIs ⟨r, a, b⟩ n _ _ hI).mono ?_
      rintro e w9 ⟨rfl, b9⟩
      have B9' := B9.trans (b9.mono (Nat.le_trans (Nat.le_of_lt hN5) (Nat.le_of_lt hlt9)))
      have j0 := (b9.cell (p := ⟨w5.heap.size, 0, none⟩) hlt9).trans k0
      have j1 := (b9.cell (p := ⟨w5.heap.size, 1, none⟩) hlt9).trans k1
      have j2 := (b9.cell (p := ⟨w5.heap.size, 2, none⟩) hlt9).trans k2
      have hlt10 := Nat.lt_of_lt_of_le hlt9 b9.size
      obtain ⟨L1, hL⟩ : ∃ X, BA (lineL ⟨r, a, b⟩) = X := ⟨_, rfl⟩
      have hEv : Env w9 := env_below hv (hB1.trans (B9'.mono (by omega)))
      clear k0 k1 k2 b9
      go_wp2_with fail
      refine (impl_instrTextIs ⟨r, a, b⟩ n _ _ hI hn hL hEv.1).mono ?_
      rintro e w10 ⟨rfl, b10⟩
      have B10 := B9'.trans (b10.mono (Nat.le_trans (Nat.le_of_lt hN5) (Nat.le_of_lt hlt10)))
      have i0 := (b10.cell (p := ⟨w5.heap.size, 0, none⟩) hlt10).trans j0
      have i1 := (b10.cell (p := ⟨w5.heap.size, 1, none⟩) hlt10).trans j1
      have i2 := (b10.cell (p := ⟨w5.heap.size, 2, none⟩) hlt10).trans j2
      obtain ⟨Y1, hY⟩ : ∃ X, BA l = X := ⟨_, rfl⟩
      have hcmp := eqS (lineL ⟨r, a, b⟩) l
      rw [hL, hY] at hcmp
      rw [hY]
      clear hY j0 j1 j2 b10
      have r0 : w10.cell? ⟨w.heap.size, 0, none⟩ = some (.int .i64 0) := (B10.cell (p := ⟨w.heap.size, 0, none⟩) (Nat.lt_succ_self _)).trans (bx0.1.2 0 (by simp)); have r1 : w10.cell? ⟨w.heap.size, 1, none⟩ = some (.int .i64 0) := (B10.cell (p := ⟨w.heap.size, 1, none⟩) (Nat.lt_succ_self _)).trans (bx0.1.2 1 (by simp)); have r2 : w10.cell? ⟨w.heap.size, 2, none⟩ = some (.int .i64 0) := (B10.cell (p := ⟨w.heap.size, 2, none⟩) (Nat.lt_succ_self _)).trans (bx0.1.2 2 (by simp)); have z0 := (B10.frozen (p := ⟨w.heap.size, 0, none⟩) (Nat.lt_succ_self _)).trans (bx0.2 0 (by simp)); have z1 := (B10.frozen (p := ⟨w.heap.size, 1, none⟩) (Nat.lt_succ_self _)).trans (bx0.2 1 (by simp)); have z2 := (B10.frozen (p := ⟨w.heap.size, 2, none⟩) (Nat.lt_succ_self _)).trans (bx0.2 2 (by simp)); have HBw := hid (hB1.trans (B10.mono (Nat.le_succ _)))
      by_cases hll : lineL ⟨r, a, b⟩ = l
      · have Hy := hid (show readI l n = some ⟨r, a, b⟩ by rw [hRd.out, if_pos ⟨hI, hll⟩])
        have hcn : (L1.toList != Y1.toList) = false := by rw [bne, hcmp, decide_eq_true hll]; rfl
        rw [decide_eq_true hll] at hcmp
        clear hll
        go_wp2
        exact bodyPost_ret (v := .tuple #[.agg #[.int .i64 r, .int .i64 a, .int .i64 b], .bool true]) (by simp [results, Tryd.results26, go_sem, *]) rfl ⟨⟨r, a, b⟩, true, rfl, Hy, by repeat (first | exact HBw.out | refine Below.setCell ?_ (by simp; try omega) _)⟩
      · have Hno := hid (show readI l n = none by rw [hRd.out, if_neg (fun h => hll h.2)])
        have hcn : (L1.toList != Y1.toList) = true := by rw [bne, hcmp, decide_eq_false hll]; rfl
        rw [decide_eq_false hll] at hcmp
        clear hll
        go_wp2
        exact bodyPost_ret (v := .tuple #[.agg #[.int .i64 0, .int .i64 0, .int .i64 0], .bool false]) (by simp [results, Tryd.results26, go_sem, *]) rfl ⟨⟨0, 0, 0⟩, false, rfl, Hno, by repeat (first | exact HBw.out | refine Below.setCell ?_ (by simp; try omega) _)⟩
end Go.Proofs.YtikiaffgjpddeaaDoor
