/- Chapter 14's program: RingList. -/
import Derived.Test.YtilbmclhnlkkmaaI14p
import Derived.Handy
namespace Go.Proofs.Ytilbmclhnlkkmaa
set_option maxRecDepth 100000
open Go.RowKit Go.Proofs Go.Own
open Go Go.BigFrame
set_option linter.unusedVariables false
set_option linter.unusedSimpArgs false
theorem ofIntsO {w : World} {base e n g c : Nat} {xs : List Int} (h : w.ownsRow base e 1 (.slice (some ⟨g, 0, none⟩) n c) n (xs.flatMap encI)) (k : Nat) (hk : k < xs.length) (hn : xs.length = n) : w.cell? ⟨g, k, none⟩ = some (.int .i64 (xs[k]'hk)) ∧ w.frozen? ⟨g, k, none⟩ = false := by
  subst hn
  obtain ⟨g', c', hv, _, _, _, hg, hc, hf⟩ := owns_at h (by omega)
  simp only [Value.slice.injEq, Option.some.injEq, Addr.mk.injEq, and_true, true_and] at hv
  obtain ⟨rfl, rfl⟩ := hv
  refine ⟨?_, hf _⟩
  rw [hc _ (by omega), encI_get xs k hk]
theorem madeI (q : Nat) : (madeCells #[Value.int .i64 0] (q * 1)).toList = (List.replicate q (0 : Int)).flatMap encI := by
  rw [toList_madeCells_one, Nat.mul_one, encI_map, List.map_replicate]
/-- What is reached of the list behind k rounds. -/
def mixR (r : RingD) (M k : Nat) : List Int := listTo r k ++ List.replicate (M - k) 0
theorem mixR_len (r : RingD) (M k : Nat) (h : k ≤ M) : (mixR r M k).length = M := by unfold mixR; rw [List.length_append, listTo_len, List.length_replicate]; omega
theorem mixR_set (r : RingD) (M k : Nat) (h : k < M) : (mixR r M k).set k (rAt r.cells_ (idx8 r.from_ k)) = mixR r M (k+1) := by
  unfold mixR
  rw [List.set_append_right _ _ (by rw [listTo_len]; exact Nat.le_refl _), listTo_len, Nat.sub_self, show M - k = (M - (k+1)) + 1 by omega, List.replicate_succ, List.set_cons_zero, listTo_succ, List.append_assoc]
  rfl
theorem mixR_end (r : RingD) (M : Nat) : mixR r M M = listTo r M := by unfold mixR; rw [Nat.sub_self]; simp
set_option maxHeartbeats 8000000 in
theorem impl_RingList0 (r : RingD) (hL : r.cells_.length = 8) (w : World) :
    Calls Try.prog 18 #[.agg r.enc.toArray] w fun e w' => ∃ u : Value, e = .returned u ∧ w'.ownsRow w.heap.size 3 1 u (listC14 r).length ((listC14 r).flatMap encI) ∧ Below w.heap.size w w' := by
  obtain ⟨j0, hj, hy0, hy1, hy2⟩ := info_parts infoIntR
  have hl := ring_len hL
  have hl2 : r.enc.toArray.size = 10 := by rw [List.size_toArray, hl]
  have HE := hid (show r.enc = [] ++ r.cells_.flatMap encI ++ [.int .i64 r.from_, .int .i64 r.many_] from rfl)
  have HL := hid hL
  have HE8 := hid (show r.enc[8]? = some (.int .i64 r.from_) by rw [HE.out, List.nil_append, List.getElem?_append_right (by rw [ints_len]; omega), ints_len, hL]; rfl)
  have HE9 := hid (show r.enc[9]? = some (.int .i64 r.many_) by rw [HE.out, List.nil_append, List.getElem?_append_right (by rw [ints_len]; omega), ints_len, hL]; rfl)
  have HOK0 := hid (fun (W : World) => impl_RingOk0 r hL W)
  generalize hce : r.enc = ce at *
  obtain ⟨W1, hW1⟩ : ∃ X, w.alloc (.cells ce.toArray 26) = X := ⟨_, rfl⟩
  have HB1 := hid (show Below w.heap.size w W1 by rw [← hW1]; exact (Below.refl _ _).alloc (Nat.le_refl _) _)
  have B1 := hid (show BoxF W1 w.heap.size ce by rw [← hW1]; exact BoxF.alloc w ce.toArray 26)
  have HN1 := hid (show w.heap.size + 1 = W1.heap.size by rw [← hW1]; simp)
  have HOK := hid (HOK0.out W1)
  clear hL hce
  cases hok : ringOk r with
  | false =>
    have Hr := hid (show listC14 r = [] by simp [listC14, hok])
    go_enter Try.func18, Try.ntmps18
    go_wp2_with (first | (go_at_call 11; refine HOK.out.mono ?_; rintro e w2 ⟨rfl, b2⟩; rw [hok]; have HB2 := hid (HB1.out.trans (b2.mono HB1.out.size)); clear b2) | (refine wpList_load_box rfl 26 _ rfl w.heap.size ce (by exact B1.out.1) rfl _ Try.underlying26 rfl (by rw [hl]; kernel_rfl) ?_))
    go_ret
    exact ⟨_, rfl, by rw [Hr.out]; exact World.ownsRow_nil _ _ _ _, HB2.out⟩
  | true =>
    have hfm := (ringOk_iff r).1 hok
    obtain ⟨F, hF⟩ : ∃ F : Nat, r.from_ = (F : Int) := ⟨r.from_.toNat, by omega⟩
    obtain ⟨M, hM⟩ : ∃ M : Nat, r.many_ = (M : Int) := ⟨r.many_.toNat, by omega⟩
    have hFb : F ≤ 7 := by omega
    have hMb : M ≤ 8 := by omega
    have Hr := hid (show listC14 r = listTo r M by unfold listC14; rw [if_pos hok, hM, Int.toNat_natCast])
    rw [hF] at HE HE8
    rw [hM] at HE HE9
    have HF := hid hF
    have hM0 : (0 : Int) ≤ (M : Int) := by omega
    clear hfm hF hM
    obtain ⟨C0, hC0⟩ : ∃ C, Hid (madeCells #[Value.int .i64 0] (M * 1) = C) := ⟨_, hid rfl⟩
    have hms : ∀ w, (Instr.makeSlice 35 (.int .i64 (M : Int)) (.int .i64 (M : Int))).run Try.prog w = .ok (.slice (some ⟨w.heap.size, 0, none⟩) M M) (w.alloc (.cells C0 3)) := fun w => by
      have h := run_makeSlice (P := Try.prog) w 35 3 j0 _ Try.underlying35 hj hy0 .i64 .i64 M M (by omega) (Int.le_refl _) (by rw [hy1]; omega) (by rw [hy2]; omega) (by omega)
      rw [hy1, Int.toNat_natCast] at h
      rw [← hC0.out]; exact h
    have hlen : ∀ w (a : Option Addr) (c : Nat), (Builtin.len_ #[35] 3 #[Value.slice a M c]).run Try.prog w = .ok (Value.int .i64 M) w := fun w a c => by
      simp [Builtin.len_, go_sem, Try.underlying35]
    have HC0 := hid (show C0.size = M * 1 ∧ C0.toList = (List.replicate M (0 : Int)).flatMap encI by rw [← hC0.out]; exact ⟨size_madeCells _ _, madeI M⟩)
    clear hC0
    go_enter Try.func18, Try.ntmps18
    go_wp2_with (first | (go_at_call 11; refine HOK.out.mono ?_; rintro e w2 ⟨rfl, b2⟩; rw [hok]; have HB2 := hid (HB1.out.trans (b2.mono HB1.out.size)); have BX2 := hid (B1.out.below b2); have k9 : w2.cell? ⟨w.heap.size, 9, none⟩ = some (.int .i64 M) := (BX2.out.1.2 9 (by omega)).trans HE9.out; have HN2 := hid (show w.heap.size + 1 ≤ w2.heap.size by have := b2.size; have := HN1.out; omega); clear b2) | (refine wpList_load_box rfl 26 _ rfl w.heap.size ce (by exact B1.out.1) rfl _ Try.underlying26 rfl (by rw [hl]; kernel_rfl) ?_))
    have hba : Below w2.heap.size w2 (w2.alloc (.cells C0 3)) := (Below.refl _ _).alloc (Nat.le_refl _) _
    have HB3 := hid (HB2.out.trans (hba.mono HB2.out.size))
    have BX3 := hid (BX2.out.below hba)
    have HO3 := hid (show (w2.alloc (.cells C0 3)).ownsRow (w.heap.size + 1) 3 1 (.slice (some ⟨w2.heap.size, 0, none⟩) M M) M ((mixR r M 0).flatMap encI) by
      have z := owns_ofHeap (heap_alloc_new w2 (.cells C0 3)) HN2.out (sz := 1) HC0.out.1 (by unfold maxLen; omega)
      rw [HC0.out.2] at z
      simpa [mixR, listTo] using z)
    generalize w2.alloc (.cells C0 3) = w3 at *
    have HN3 := hid HN2.out
    generalize w2.heap.size = g at *
    clear hba BX2 HB2 k9 B1 HB1 HOK HOK0 hW1 hms hlen HN1
    go_loopw [13] (fun i wr => ∃ k : Nat, k ≤ M ∧ i = .int .i64 k ∧ Hid (Below w.heap.size w wr) ∧ Hid (BoxF wr w.heap.size ce) ∧ Hid (wr.ownsRow (w.heap.size + 1) 3 1 (.slice (some ⟨g, 0, none⟩) M M) M ((mixR r M k).flatMap encI))) (fun i _ => M - (intOf i).toNat)
    case atStart => exact ⟨0, by omega, rfl, HB3, BX3, HO3⟩
    case round =>
      obtain ⟨k, hk, rfl, HB, BX, HO⟩ := hrel
      clear HB3 BX3 HO3
      by_cases hlt : k < M
      · have hkM : (k : Int) < (M : Int) := by omega
        have hk0 : (0 : Int) ≤ (k : Int) := by omega
        have k8 : wr.cell? ⟨w.heap.size, 8, none⟩ = some (.int .i64 F) := (BX.out.1.2 8 (by omega)).trans HE8.out
        have hil := idx8_lt (F : Int) k
        have hi0 : (0 : Int) ≤ ((idx8 (F : Int) k : Nat) : Int) := by omega
        have hi8 : ((idx8 (F : Int) k : Nat) : Int) < 8 := by omega
        have HIL := hid (show idx8 (F : Int) k < r.cells_.length by rw [HL.out]; exact hil)
        have kx : wr.cell? ⟨w.heap.size, idx8 (F : Int) k, none⟩ = some (.int .i64 (rAt r.cells_ (idx8 (F : Int) k))) := by
          have z := int_at (A := []) (by rw [← HE.out]; exact BX.out) (idx8 (F : Int) k) HIL.out
          rw [← rAt_eq HIL.out] at z; simpa using z
        have HC := hid (fun (w : World) => impl_behind F k hFb (by omega) w)
        have HS := hid (mixR_set r M k hlt)
        rw [HF.out] at HS
        have hml := mixR_len r M k hk
        obtain ⟨yv, y0, y1⟩ : ∃ y : Int, wr.cell? ⟨g, k, none⟩ = some (.int .i64 y) ∧ wr.frozen? ⟨g, k, none⟩ = false := by
          obtain ⟨y0, y1⟩ := ofIntsO HO.out k (by rw [hml]; exact hlt) hml
          exact ⟨_, y0, y1⟩
        have HLG := hid (owns_lt HO.out)
        obtain ⟨x, hx⟩ : ∃ x, rAt r.cells_ (idx8 (F : Int) k) = x := ⟨_, rfl⟩
        rw [hx] at kx HS
        obtain ⟨ix, hix⟩ : ∃ i, idx8 (F : Int) k = i := ⟨_, rfl⟩
        rw [hix] at kx hil hi0 hi8 HC
        clear hix hx HIL hml
        go_wp2_with (go_at_call 29; refine (HC.out _).mono ?_; rintro e w' ⟨rfl, rfl⟩)
        have HO5 := hid (owns_put HO.out k (.int .i64 x))
        rw [ints_set, HS.out] at HO5
        have HB5 := hid (HB.out.setCell (show w.heap.size ≤ (⟨g, k, none⟩ : Addr).block by have := HLG.out; show w.heap.size ≤ g; omega) (.int .i64 x))
        have BX5 := hid (BX.out.other ⟨g, k, none⟩ (.int .i64 x) (by have := HLG.out; show g ≠ w.heap.size; omega))
        go_roundw
        case rel => exact ⟨k+1, by omega, by go_num, HB5, BX5, HO5⟩
        case measure => simp [intOf]; omega
      · obtain rfl : k = M := by omega
        have HO5 := hid HO.out
        rw [mixR_end] at HO5
        clear HO
        go_wp2
        go_ret
        exact ⟨_, rfl, by rw [Hr.out, listTo_len]; exact owns_mono HO5.out (by omega), HB.out⟩
end Go.Proofs.Ytilbmclhnlkkmaa
