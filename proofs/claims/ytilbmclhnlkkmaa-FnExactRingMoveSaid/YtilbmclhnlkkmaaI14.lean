/- Chapter 14's program: where a place lies, put, take. -/
import Derived.Test.YtilbmclhnlkkmaaS14t
import Derived.Test.YtilbmclhnlkkmaaOv3
import Derived.StillTailTactics
import Derived.BigQuiet
namespace Go.Proofs.Ytilbmclhnlkkmaa
set_option maxRecDepth 100000
open Go.RowKit Go.Proofs Go.Own
open Go Go.BigFrame
set_option linter.unusedVariables false
set_option linter.unusedSimpArgs false
theorem impl_isValueIs (x : Int) (r : Bool) (w : World) (e : isVal x = r) :
    Calls Try.prog 30 #[.int .i64 x] w fun e w' => e = .returned (.bool r) ∧ w = w' := by
  subst e
  unfold isVal
  by_cases h1 : -1000000000 ≤ x
  · by_cases h2 : x ≤ 1000000000
    · go_enter Try.func30, Try.ntmps30
      go_wp2
      go_ret
      simp [inB, h1, h2]
    · go_enter Try.func30, Try.ntmps30
      go_wp2
      go_ret
      simp [inB, h1, h2]
  · go_enter Try.func30, Try.ntmps30
    go_wp2
    go_ret
    simp [inB]
    omega
theorem idx8_lo (F i : Nat) (h : F + i ≤ 7) : idx8 (F : Int) i = F + i := by unfold idx8; omega
theorem idx8_hi (F i : Nat) (h : ¬ F + i ≤ 7) (h2 : F + i < 16) : idx8 (F : Int) i = F + i - 8 := by unfold idx8; omega
theorem impl_behind (F i : Nat) (hF : F ≤ 7) (hi : i ≤ 8) (w : World) :
    Calls Try.prog 29 #[.int .i64 (F : Int), .int .i64 (i : Int)] w fun e w' => e = .returned (.int .i64 ((idx8 (F : Int) i : Nat) : Int)) ∧ w = w' := by
  by_cases h : F + i ≤ 7
  · rw [idx8_lo F i h]
    have h2 : ¬ (7 : Int) < (F : Int) + (i : Int) := by omega
    have h3 := hid (show ((F + i : Nat) : Int) = (F : Int) + (i : Int) by omega)
    go_enter Try.func29, Try.ntmps29
    go_wp2
    go_ret
    exact ⟨rfl, rfl⟩
  · rw [idx8_hi F i h (by omega)]
    have h2 : (7 : Int) < (F : Int) + (i : Int) := by omega
    have h3 := hid (show ((F + i - 8 : Nat) : Int) = (F : Int) + (i : Int) - 8 by omega)
    go_enter Try.func29, Try.ntmps29
    go_wp2
    go_ret
    rw [h3.out]
    exact ⟨rfl, rfl⟩
/-- Into a ring's box, whose owner may write it, a value is put. -/
theorem impl_put0 (q : RingD) (hL : q.cells_.length = 8) (F M : Nat) (hF : q.from_ = F) (hM : q.many_ = M) (hFb : F ≤ 7) (hMb : M ≤ 7) (v : Int) (b : Nat) (w : World) (hB : BoxF w b q.enc) :
    Calls Try.prog 31 #[.pointer (some ⟨b, 0, none⟩), .int .i64 v] w fun e w' => e = .returned (.tuple #[]) ∧ BoxF w' b (putR q v).enc ∧ ChgS (fun k => k = b) w w' := by
  obtain ⟨L, f, m⟩ := q
  dsimp only at hL hF hM
  subst hF hM
  have hl := ring_len (r := ⟨L, F, M⟩) hL
  have HE := hid (show RingD.enc ⟨L, F, M⟩ = [] ++ L.flatMap encI ++ [.int .i64 F, .int .i64 M] from rfl)
  have HL := hid hL
  have h8 : (RingD.enc ⟨L, F, M⟩)[8]? = some (.int .i64 F) := by rw [HE.out, List.nil_append, List.getElem?_append_right (by rw [ints_len]; omega), ints_len, hL]; rfl
  have h9 : (RingD.enc ⟨L, F, M⟩)[9]? = some (.int .i64 M) := by rw [HE.out, List.nil_append, List.getElem?_append_right (by rw [ints_len]; omega), ints_len, hL]; rfl
  have k8 : w.cell? ⟨b, 8, none⟩ = some (.int .i64 F) := (hB.1.2 8 (by omega)).trans h8
  have k9 : w.cell? ⟨b, 9, none⟩ = some (.int .i64 M) := (hB.1.2 9 (by omega)).trans h9
  have hil := idx8_lt (F : Int) M
  have HIL := hid (show idx8 (F : Int) M < L.length by rw [hL]; exact hil)
  have hi0 : (0 : Int) ≤ ((idx8 (F : Int) M : Nat) : Int) := by omega
  have hi8 : ((idx8 (F : Int) M : Nat) : Int) < 8 := by omega
  have HS1 := hid (ring_set (f := F) (m := M) (idx8 F M) HIL.out v)
  have HP := hid (show (putR ⟨L, F, M⟩ v).enc = [] ++ (L.set (idx8 (F : Int) M) v).flatMap encI ++ [.int .i64 F, .int .i64 ((M : Int) + 1)] by unfold putR RingD.enc; simp)
  have HC := hid (fun (w : World) => impl_behind F M (by omega) (by omega) w)
  obtain ⟨ix, hix⟩ : ∃ i, idx8 (F : Int) M = i := ⟨_, rfl⟩
  rw [hix] at hil HIL hi0 hi8 HS1 HP HC
  generalize hce : RingD.enc ⟨L, F, M⟩ = ce at *
  have B1 := hid hB
  clear hix h8 h9 hB hL
  go_enter Try.func31, Try.ntmps31
  go_wp2
  go_still_tail 14, (by kernel_rfl)
  still_call ((HC.out _).mono fun e w' h => ⟨h.1, h.2.symm⟩)
  repeat still_step
  refine wpStill_nil ?_
  change wpList _ _ _ _ _ w.drew
  have B2 := hid (show BoxF w.drew b ce from B1.out)
  have HG0 := hid (show ChgS (fun k => k = b) w w.drew from ⟨rfl, rfl, rfl, Nat.le_refl _, fun _ _ _ => rfl⟩)
  generalize w.drew = w1 at *
  go_wp2_with (refine wpList_store_cell rfl 3 _ _ rfl b ix ce (.int .i64 v) B2.out rfl rfl (by omega) (by kernel_rfl) rfl rfl ?_)
  intro w5 o5 C5
  have B5 := hid (show BoxF w5 b ([] ++ (L.set ix v).flatMap encI ++ [.int .i64 F, .int .i64 M]) by rw [← HS1.out, ← HE.out]; exact o5)
  have HG5 := hid (HG0.out.trans C5)
  have hl5 := ring3_len (L := L.set ix v) (f := F) (m := M) (by rw [List.length_set]; exact HL.out)
  have HS2 := hid (ring_set_many (L := L.set ix v) (f := F) (m := M) (by rw [List.length_set]; exact HL.out) ((M : Int) + 1))
  have h59 : ([] ++ (L.set ix v).flatMap encI ++ [.int .i64 F, .int .i64 M] : List Value)[9]? = some (.int .i64 M) := by
    rw [List.nil_append, List.getElem?_append_right (by rw [ints_len, List.length_set, HL.out]; omega), ints_len, List.length_set, HL.out]; rfl
  obtain ⟨c5, hc5⟩ : ∃ Y : List Value, [] ++ (L.set ix v).flatMap encI ++ [.int .i64 F, .int .i64 M] = Y := ⟨_, rfl⟩
  rw [hc5] at B5 hl5 HS2 h59
  have k59 : w5.cell? ⟨b, 9, none⟩ = some (.int .i64 M) := (B5.out.1.2 9 (by omega)).trans h59
  clear o5 C5 hc5 h59 k8 k9
  go_wp2_with (refine wpList_store_cell rfl 3 _ _ rfl b 9 c5 (.int .i64 ((M : Int) + 1)) B5.out rfl rfl (by omega) (by kernel_rfl) rfl rfl ?_)
  intro w6 o6 C6
  have HG6 := hid (HG5.out.trans C6)
  have A6 := hid (show BoxF w6 b (putR ⟨L, F, M⟩ v).enc by rw [HP.out]; rw [HS2.out] at o6; exact o6)
  clear o6 C6
  go_wp2
  refine bodyPost_end (results_none rfl _ _ _) rfl ⟨rfl, A6.out, HG6.out⟩
/-- From a ring's box the oldest value is taken. -/
theorem impl_take0 (q : RingD) (hL : q.cells_.length = 8) (F M : Nat) (hF : q.from_ = F) (hM : q.many_ = M) (hFb : F ≤ 7) (hMb : 1 ≤ M ∧ M ≤ 8) (b : Nat) (w : World) (hB : BoxF w b q.enc) :
    Calls Try.prog 33 #[.pointer (some ⟨b, 0, none⟩)] w fun e w' => e = .returned (.int .i64 (rAt q.cells_ (idx8 q.from_ 0))) ∧ BoxF w' b (takeR q).enc ∧ ChgS (fun k => k = b) w w' := by
  obtain ⟨L, f, m⟩ := q
  dsimp only at hL hF hM
  subst hF hM
  dsimp only
  have hl := ring_len (r := ⟨L, F, M⟩) hL
  have HE := hid (show RingD.enc ⟨L, F, M⟩ = [] ++ L.flatMap encI ++ [.int .i64 F, .int .i64 M] from rfl)
  have HL := hid hL
  have h8 : (RingD.enc ⟨L, F, M⟩)[8]? = some (.int .i64 F) := by rw [HE.out, List.nil_append, List.getElem?_append_right (by rw [ints_len]; omega), ints_len, hL]; rfl
  have h9 : (RingD.enc ⟨L, F, M⟩)[9]? = some (.int .i64 M) := by rw [HE.out, List.nil_append, List.getElem?_append_right (by rw [ints_len]; omega), ints_len, hL]; rfl
  have k8 : w.cell? ⟨b, 8, none⟩ = some (.int .i64 F) := (hB.1.2 8 (by omega)).trans h8
  have hi0' : idx8 (F : Int) 0 = F := by unfold idx8; omega
  have HIL := hid (show F < L.length by rw [hL]; omega)
  rw [hi0']
  obtain ⟨x, hx⟩ : ∃ x, rAt L F = x := ⟨_, rfl⟩
  rw [hx]
  have kx : w.cell? ⟨b, F, none⟩ = some (.int .i64 x) := by
    have z := int_at (A := []) (by rw [← HE.out]; exact hB) F HIL.out
    rw [← rAt_eq HIL.out, hx] at z; simpa using z
  obtain ⟨nf, hnf⟩ : ∃ n : Nat, idx8 (F : Int) 1 = n := ⟨_, rfl⟩
  have hnf2 : ((F : Int) + 1) % 8 = (nf : Int) := by rw [← hnf]; unfold idx8; omega
  have HP := hid (show (takeR ⟨L, F, M⟩).enc = [] ++ (L.set F 0).flatMap encI ++ [.int .i64 nf, .int .i64 ((M : Int) - 1)] by unfold takeR RingD.enc; simp [hi0', hnf2])
  have HC := hid (fun (w : World) => impl_behind F 1 (by omega) (by omega) w)
  rw [hnf, show ((1 : Nat) : Int) = 1 from rfl] at HC
  have hi0 : (0 : Int) ≤ (F : Int) := by omega
  have hi8 : (F : Int) < 8 := by omega
  have HS1 := hid (ring_set (f := F) (m := M) F HIL.out 0)
  generalize hce : RingD.enc ⟨L, F, M⟩ = ce at *
  have B1 := hid hB
  clear hnf hnf2 hx hi0' h8 h9 hB hL hce
  go_enter Try.func33, Try.ntmps33
  go_wp2
  go_quiet (fail)
  obtain ⟨w1, hw1⟩ : ∃ X, w.drewN nq = X := ⟨_, rfl⟩
  have HG0 := hid (show ChgS (fun k => k = b) w w1 from hw1 ▸ ⟨rfl, rfl, rfl, Nat.le_refl _, fun _ _ _ => rfl⟩)
  have B2 := hid (show BoxF w1 b ce from hw1 ▸ B1.out)
  have k8b : w1.cell? ⟨b, 8, none⟩ = some (.int .i64 F) := hw1 ▸ k8
  rw [hw1]
  clear hw1 k8 kx B1
  go_wp2
  go_still_tail 8, (by kernel_rfl)
  change wpList _ _ _ _ _ w1.drew
  have B3 := hid (show BoxF w1.drew b ce from B2.out)
  have HG3 := hid (HG0.out.trans (show ChgS (fun k => k = b) w1 w1.drew from ⟨rfl, rfl, rfl, Nat.le_refl _, fun _ _ _ => rfl⟩))
  clear k8b HG0 B2
  generalize w1.drew = w3 at *
  go_wp2_with (refine wpList_store_cell rfl 3 _ _ rfl b F ce (.int .i64 0) B3.out rfl rfl (by omega) (by kernel_rfl) rfl rfl ?_)
  intro w5 o5 C5
  have B5 := hid (show BoxF w5 b ([] ++ (L.set F 0).flatMap encI ++ [.int .i64 F, .int .i64 M]) by rw [← HS1.out, ← HE.out]; exact o5)
  have HG5 := hid (HG3.out.trans C5)
  have hLs : (L.set F 0).length = 8 := by rw [List.length_set]; exact HL.out
  have hl5 := ring3_len (L := L.set F 0) (f := F) (m := M) hLs
  have hl6 := ring3_len (L := L.set F 0) (f := nf) (m := M) hLs
  have HS2 := hid (ring_set_from (L := L.set F 0) (f := F) (m := M) hLs nf)
  have HS3 := hid (ring_set_many (L := L.set F 0) (f := nf) (m := M) hLs ((M : Int) - 1))
  have h58 : ([] ++ (L.set F 0).flatMap encI ++ [.int .i64 F, .int .i64 M] : List Value)[8]? = some (.int .i64 F) := by
    rw [List.nil_append, List.getElem?_append_right (by rw [ints_len, hLs]; omega), ints_len, hLs]; rfl
  have h69 : ([] ++ (L.set F 0).flatMap encI ++ [.int .i64 nf, .int .i64 M] : List Value)[9]? = some (.int .i64 M) := by
    rw [List.nil_append, List.getElem?_append_right (by rw [ints_len, hLs]; omega), ints_len, hLs]; rfl
  obtain ⟨c5, hc5⟩ : ∃ Y : List Value, [] ++ (L.set F 0).flatMap encI ++ [.int .i64 F, .int .i64 M] = Y := ⟨_, rfl⟩
  obtain ⟨c6, hc6⟩ : ∃ Y : List Value, [] ++ (L.set F 0).flatMap encI ++ [.int .i64 nf, .int .i64 M] = Y := ⟨_, rfl⟩
  rw [hc5] at B5 hl5 HS2 h58
  rw [hc6] at hl6 HS2 HS3 h69
  have k58 : w5.cell? ⟨b, 8, none⟩ = some (.int .i64 F) := (B5.out.1.2 8 (by omega)).trans h58
  clear o5 C5 hc5 hc6 h58
  go_wp2_with (first | (go_at_call 29; refine (HC.out _).mono ?_; rintro e w' ⟨rfl, rfl⟩) | (refine wpList_store_cell rfl 3 _ _ rfl b 8 c5 (.int .i64 nf) B5.out rfl rfl (by omega) (by kernel_rfl) rfl rfl ?_))
  intro w6 o6 C6
  have B6 := hid (show BoxF w6 b c6 by rw [HS2.out] at o6; exact o6)
  have HG6 := hid (HG5.out.trans C6)
  have k69 : w6.cell? ⟨b, 9, none⟩ = some (.int .i64 M) := (B6.out.1.2 9 (by omega)).trans h69
  clear o6 C6 h69 k58 B5 HG5 HS2
  go_wp2_with (refine wpList_store_cell rfl 3 _ _ rfl b 9 c6 (.int .i64 ((M : Int) - 1)) B6.out rfl rfl (by omega) (by kernel_rfl) rfl rfl ?_)
  intro w7 o7 C7
  have HG7 := hid (HG6.out.trans C7)
  have A7 := hid (show BoxF w7 b (takeR ⟨L, F, M⟩).enc by rw [HP.out]; rw [HS3.out] at o7; exact o7)
  clear o7 C7
  go_wp2
  go_ret
  exact ⟨rfl, A7.out, HG7.out⟩
end Go.Proofs.Ytilbmclhnlkkmaa
