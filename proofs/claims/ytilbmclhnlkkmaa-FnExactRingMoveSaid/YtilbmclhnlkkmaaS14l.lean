/- Chapter 14's model: RingList. -/
import Derived.Test.YtilbmclhnlkkmaaS14p
namespace Go.Proofs.Ytilbmclhnlkkmaa
set_option maxRecDepth 100000
open Go.RowKit Go.Proofs Go.Own
open Go Go.BigFrame
set_option linter.unusedVariables false
set_option linter.unusedSimpArgs false
theorem wpList_load_boxg {P : Program} {ops : Array Oper} {rest : List Oper} {op : Oper} {a : Act} {w : World} {Q : Exit → Act → World → Prop} (hgd : Region.wanted op (yielded ops a.tmps) = true) (ty : TypeId) (x : Operand) (ho : op.op = .load ty x)
    (b : Nat) (cs : List Value) (hb : Box w b cs) (hx : a.eval x = .pointer (some ⟨b, 0, none⟩)) (d : TypeDesc) (hu : P.underlying ty = some d) (hd : d.isRow = true) (hi : (P.info? ty).map (·.size) = some cs.length)
    (h : wpList P ops Q rest (a.put op.dst (.agg cs.toArray)) w) : wpList P ops Q (op :: rest) a w := by
  refine wpList_step fun K hK => ?_
  rw [if_pos hgd]
  unfold Oper.wp execOp
  simp only [ho, hx, Instr.loadAt, Instr.sureAddr, Sem.run_bind, Sem.run_pure, Result.andThen_ok, run_loadVar_mid w b 0 ty cs d hb.range hu hd hi]
  exact hK _ _ h
theorem infoIntR : (Try.prog.info? 3).map (fun i => (i.zero, i.size, i.bytes)) = some (some (.int .i64 0), 1, 8) := by kernel_rfl
theorem oneR (x : Int) : ∀ c ∈ [Value.int .i64 x], c.oneCell' = true := by intro c hc; simp at hc; subst hc; rfl
theorem encI_snocR (xs : List Int) (k : Int) : (xs ++ [k]).flatMap encI = xs.flatMap encI ++ [.int .i64 k] := by simp [encI]
theorem listTo_len (r : RingD) (n : Nat) : (listTo r n).length = n := by simp [listTo]
set_option maxHeartbeats 8000000 in
theorem spec_RingList0 (r : RingD) (hL : r.cells_.length = 8) (w : World) :
    Calls Try.prog 17 #[.agg r.enc.toArray] w fun e w' => ∃ u : Value, e = .returned u ∧ w'.ownsRow w.heap.size 3 1 u (listC14 r).length ((listC14 r).flatMap encI) ∧ Below w.heap.size w w' := by
  obtain ⟨j0, hj, hy0, hy1, hy2⟩ := info_parts infoIntR
  have hl := ring_len hL
  have hl2 : r.enc.toArray.size = 10 := by rw [List.size_toArray, hl]
  have HE := hid (show r.enc = [] ++ r.cells_.flatMap encI ++ [.int .i64 r.from_, .int .i64 r.many_] from rfl)
  have HL := hid hL
  have HE8 := hid (show r.enc[8]? = some (.int .i64 r.from_) by rw [HE.out, List.nil_append, List.getElem?_append_right (by rw [ints_len]; omega), ints_len, hL]; rfl)
  have HE9 := hid (show r.enc[9]? = some (.int .i64 r.many_) by rw [HE.out, List.nil_append, List.getElem?_append_right (by rw [ints_len]; omega), ints_len, hL]; rfl)
  have HOK0 := hid (fun (W : World) => spec_RingOk0 r hL W)
  generalize hce : r.enc = ce at *
  obtain ⟨W1, hW1⟩ : ∃ X, (w.alloc (.cells ce.toArray 26)).alloc (.cells #[] 3) = X := ⟨_, rfl⟩
  have HB1 := hid (show Below w.heap.size w W1 by rw [← hW1]; exact ((Below.refl _ _).alloc (Nat.le_refl _) _).alloc (by simp) _)
  have B1 := hid (show BoxF W1 w.heap.size ce by rw [← hW1]; exact (BoxF.alloc w ce.toArray 26).below ((Below.refl _ _).alloc (Nat.le_refl _) _))
  have O1 : Hid (W1.ownsRow (w.heap.size + 1) 3 1 (.slice (some ⟨w.heap.size + 1, 0, none⟩) 0 0) 0 []) := by
    rw [← hW1]
    have h1 := owns_litN (w.alloc (.cells ce.toArray 26)) 3 1 0 #[] (w.heap.size + 1) (by simp) rfl (Nat.zero_le _)
    rw [show (w.alloc (.cells ce.toArray 26)).heap.size = w.heap.size + 1 by simp] at h1
    exact hid h1
  have HN1 := hid (show w.heap.size + 1 ≤ W1.heap.size by rw [← hW1]; simp)
  have HW1 := hid hW1
  clear hL hce hW1
  cases hok : ringOk r with
  | false =>
    have Hr := hid (show listC14 r = [] by simp [listC14, hok])
    go_enter Try.func17, Try.ntmps17
    go_wp2
    rw [HW1.out]
    go_loopw [3, 4] (fun u i wr => u = .slice (some ⟨w.heap.size + 1, 0, none⟩) 0 0 ∧ i = .int .i64 0 ∧ wr = W1) (fun _ i _ => 0)
    case atStart => exact ⟨rfl, rfl, rfl⟩
    case round =>
      obtain ⟨rfl, rfl, hwr⟩ := hrel
      subst hwr
      have k9 : wr.cell? ⟨w.heap.size, 9, none⟩ = some (.int .i64 r.many_) := (B1.out.1.2 9 (by omega)).trans HE9.out
      by_cases h0 : 0 < r.many_
      · have HOK := hid (HOK0.out wr)
        go_wp2_with (first | (go_at_call 9; refine HOK.out.mono ?_; rintro e w2 ⟨rfl, b2⟩; rw [hok]; have HB2 := hid (HB1.out.trans (b2.mono HB1.out.size)); have O2 := hid (owns_below O1.out b2); clear b2) | (refine wpList_load_boxg rfl 26 _ rfl w.heap.size ce (by exact B1.out.1) rfl _ Try.underlying26 rfl (by rw [hl]; kernel_rfl) ?_))
        go_ret
        exact ⟨_, rfl, by rw [Hr.out]; exact owns_mono O2.out (by omega), HB2.out⟩
      · go_wp2
        go_ret
        exact ⟨_, rfl, by rw [Hr.out]; exact owns_mono O1.out (by omega), HB1.out⟩
  | true =>
    have hfm := (ringOk_iff r).1 hok
    obtain ⟨F, hF⟩ : ∃ F : Nat, r.from_ = (F : Int) := ⟨r.from_.toNat, by omega⟩
    obtain ⟨M, hM⟩ : ∃ M : Nat, r.many_ = (M : Int) := ⟨r.many_.toNat, by omega⟩
    have hFb : F ≤ 7 := by omega
    have hMb : M ≤ 8 := by omega
    have Hr := hid (show listC14 r = listTo r M by unfold listC14; rw [if_pos hok, hM, Int.toNat_natCast])
    have HT := hid (fun n => listTo_succ r n)
    have HTL := hid (listTo_len r)
    rw [hF] at HE HE8
    rw [hM] at HE HE9
    have HF := hid hF
    have HM := hid hM
    clear hfm
    rw [hF] at HT
    clear hF hM
    go_enter Try.func17, Try.ntmps17
    go_wp2
    rw [HW1.out]
    go_loopw [3, 4] (fun u i wr => ∃ (k : Nat) (ua : Option Addr) (um uc : Nat), k ≤ M ∧ u = .slice ua um uc ∧ i = .int .i64 k ∧ Hid (Below w.heap.size w wr) ∧ Hid (BoxF wr w.heap.size ce) ∧ Hid (w.heap.size + 1 ≤ wr.heap.size) ∧ Hid (wr.ownsRow (w.heap.size + 1) 3 1 (.slice ua um uc) k ((listTo r k).flatMap encI))) (fun _ i _ => M - (intOf i).toNat)
    case atStart => exact ⟨0, _, _, _, by omega, rfl, rfl, HB1, B1, HN1, O1⟩
    case round =>
      obtain ⟨k, ua, um, uc, hk, rfl, rfl, HB, BX, HN, HO⟩ := hrel
      have k9 : wr.cell? ⟨w.heap.size, 9, none⟩ = some (.int .i64 M) := (BX.out.1.2 9 (by omega)).trans HE9.out
      clear HB1 B1 HN1 O1
      by_cases hlt : k < M
      · have hkM : (k : Int) < (M : Int) := by omega
        have HOK := hid (HOK0.out wr)
        have hrem := idx8_rem F k
        have hil := idx8_lt (F : Int) k
        have HIL := hid (show idx8 (F : Int) k < r.cells_.length by rw [HL.out]; exact hil)
        have hi0 : (0 : Int) ≤ ((idx8 (F : Int) k : Nat) : Int) := by omega
        have hi8 : ((idx8 (F : Int) k : Nat) : Int) < 8 := by omega
        obtain ⟨x, hx⟩ : ∃ x, rAt r.cells_ (idx8 (F : Int) k) = x := ⟨_, rfl⟩
        have HT2 := hid (HT.out k)
        rw [hx] at HT2
        have HX := hid (show r.cells_[idx8 (F : Int) k]'HIL.out = x by rw [← hx]; exact (rAt_eq HIL.out).symm)
        have HRK := hid (fun (W : World) (hW : BoxF W w.heap.size ce) => show W.cell? ⟨w.heap.size, idx8 (F : Int) k, none⟩ = some (.int .i64 x) by
          have z := int_at (A := []) (by rw [← HE.out]; exact hW) (idx8 (F : Int) k) HIL.out
          rw [HX.out] at z; simpa using z)
        obtain ⟨ix, hix⟩ : ∃ i, idx8 (F : Int) k = i := ⟨_, rfl⟩
        rw [hix] at hrem hil hi0 hi8 HRK
        clear hix hx HX HIL
        go_wp2_with (first | (go_at_call 9; refine HOK.out.mono ?_; rintro e w2 ⟨rfl, b2⟩; rw [hok]; have HB2 := hid (HB.out.trans (b2.mono HB.out.size)); have O2 := owns_below HO.out b2; have BX2 := hid (BX.out.below b2); have hs2 := hid (show w.heap.size + 1 ≤ w2.heap.size by have := b2.size; have := HN.out; omega); have k28 : w2.cell? ⟨w.heap.size, 8, none⟩ = some (.int .i64 F) := (BX2.out.1.2 8 (by omega)).trans HE8.out; have kx := HRK.out _ BX2.out; clear b2) | (refine wpList_load_boxg rfl 26 _ rfl w.heap.size ce (by exact BX.out.1) rfl _ Try.underlying26 rfl (by rw [hl]; kernel_rfl) ?_) | (at_builtin; refine wpList_append_flat rfl _ _ 35 rfl (w.heap.size + 1) 3 j0 (.int .i64 0) 1 8 Try.underlying35 hj hy0 hy1 hy2 rfl (by decide) _ _ _ rfl (owns_below O2 ((Below.refl _ _).alloc (Nat.le_refl _) _)) _ 1 _ rfl (Flat.of_owns (owns_litN w2 3 1 1 #[.int .i64 x] 0 (Nat.zero_le _) rfl (by decide))) (oneR x) (by unfold maxLen; omega) (by omega) (by have := hs2.out; simp; omega) ?_))
        intro v4 w4 o4 g4
        obtain ⟨ya, ym, yc, rfl⟩ := owns_form3 o4
        have hba : Below w2.heap.size w2 (w2.alloc (.cells #[.int .i64 x] 3)) := (Below.refl _ _).alloc (Nat.le_refl _) _
        have hO := owns_below O2 hba
        have HB4 := hid ((HB2.out.trans (hba.mono HB2.out.size)).grown g4 (by have := HB2.out.size; simp; omega) (fun b e => by have := (World.ownsRow.lt hO b e).1; omega))
        have BX4 := hid ((BX2.out.below hba).grown g4 (fun e => by have := (World.ownsRow.lt hO _ e).1; omega))
        have HN4 := hid (show w.heap.size + 1 ≤ w4.heap.size by have := g4.size; have := hs2.out; simp at *; omega)
        have O4 := hid o4
        clear o4 g4 hba hO O2 k28 kx k9
        go_wp2
        go_roundw
        case rel => exact ⟨k+1, _, _, _, by omega, rfl, by go_num, HB4, BX4, HN4, hid (by rw [HT2.out, encI_snocR]; exact O4.out)⟩
        case measure => simp [intOf]; omega
      · obtain rfl : k = M := by omega
        go_wp2
        go_ret
        exact ⟨_, rfl, by rw [Hr.out, HTL.out]; exact owns_mono HO.out (by omega), HB.out⟩
end Go.Proofs.Ytilbmclhnlkkmaa
