/- Chapter 5's program: Fair. -/
import Derived.Test.YtjcoakgdhiiiaaaS5d
import Derived.Test.YtjcoakgdhiiiaaaI5
import Derived.Lib.Slices
namespace Go.Proofs.Ytjcoakgdhiiiaaa
set_option maxRecDepth 100000
open Go.RowKit Go.Proofs Go.Own
set_option linter.unusedVariables false
set_option linter.unusedSimpArgs false
theorem impl_allThreads (v : Value) (xs : List Int) (w : World) (h : Ints w v xs) :
    Calls Try.prog 34 #[v] w fun e w' => e = .returned (.bool (allIn xs 0 3 0)) ∧ w = w' := by
  obtain ⟨ad, cap, rfl, hl, hm, hc⟩ := h.open
  clear h
  have hlen : xs.length ≤ 9223372036854775807 := by omega
  go_enter Try.func34, Try.ntmps34
  go_wp2
  go_loop [7] (fun i => ∃ k : Nat, k ≤ xs.length ∧ i = .int .i64 k ∧ Same (allIn xs 0 3 0) (allIn xs 0 3 k)) (fun i => xs.length - (intOf i).toNat)
  case atStart => exact ⟨0, by omega, rfl, .rfl⟩
  case round =>
    obtain ⟨k, hk, rfl, hall⟩ := hrel
    by_cases hlt : k < xs.length
    · obtain ⟨bb, off, rfl, hbs, hcell⟩ := hc k hlt
      have hst := hid (allIn_step xs 0 3 k hlt)
      clear hc
      go_wp2_with (go_at_call 43; refine (impl_isThread _ _).mono ?_; rintro e w' ⟨rfl, rfl⟩)
      · have hf : (!inB xs[k] 0 3) = true := by assumption
        go_ret
        exact ⟨ret_bool (by rw [hall.out, hst.out]; simp at hf; simp [hf]), rfl⟩
      · have hf : (!inB xs[k] 0 3) = false := by assumption
        go_round
        case rel => exact ⟨k+1, by omega, by go_num, .mk (by rw [hall.out, hst.out]; simp at hf; simp [hf])⟩
        case measure => simp [intOf]; omega
    · have hst := hid (allIn_end xs 0 3 k hlt)
      go_wp2
      go_ret
      exact ⟨ret_bool (by rw [hall.out, hst.out]), rfl⟩
set_option maxHeartbeats 2000000 in
theorem impl_Min (b c : Nat) (zs : List Int) (w : World) (hn : 0 < zs.length) (hbig : zs.length ≤ 9223372036854775807) (hz : ∀ k, (hk : k < zs.length) → w.cell? ⟨b, k, none⟩ = some (.int .i64 zs[k])) :
    Calls Try.prog 35 #[.slice (some ⟨b, 0, none⟩) zs.length c] w fun e w' => e = .returned (.int .i64 (Lib.minOf zs)) ∧ w = w' := by
  have hc := hid hz
  have c0 := hz 0 hn
  clear hz
  have m0 : zs[0] = Lib.minOf (zs.take 1) := by rw [Lib.minOf_one]; simp [List.getD, hn]
  rw [m0] at c0
  clear m0
  go_enter Try.func35, Try.ntmps35
  go_wp2
  go_loop [3, 4] (fun m i => ∃ k : Nat, 0 < k ∧ k ≤ zs.length ∧ i = .int .i64 k ∧ m = .int .i64 (Lib.minOf (zs.take k))) (fun _ i => zs.length - (intOf i).toNat)
  case atStart => exact ⟨1, Nat.one_pos, hn, rfl, rfl⟩
  case round =>
    obtain ⟨k, hk0, hk, rfl, rfl⟩ := hrel
    clear c0
    by_cases hlt : k < zs.length
    · have ck := hc.out k hlt
      have S := hid (Lib.minOf_step zs k hk0 hlt)
      clear hc
      go_wp2
      go_round
      case rel => exact ⟨k + 1, Nat.succ_pos k, by omega, by go_num, by rw [S.out]; simp [List.getD, hlt]; split <;> omega⟩
      case measure => simp [intOf]; omega
    · obtain rfl : k = zs.length := by omega
      go_wp2
      go_ret
      exact ⟨ret_int rfl, rfl⟩
theorem impl_MinN (b c n : Nat) (zs : List Int) (w : World) (hl : zs.length = n) (hn : 0 < n) (hbig : n ≤ 9223372036854775807) (hz : ∀ k, (hk : k < zs.length) → w.cell? ⟨b, k, none⟩ = some (.int .i64 zs[k])) :
    Calls Try.prog 35 #[.slice (some ⟨b, 0, none⟩) n c] w fun e w' => e = .returned (.int .i64 (Lib.minOf zs)) ∧ w = w' := by
  subst hl
  exact impl_Min b c zs w hn hbig hz
theorem minOf_lt : ∀ (zs : List Int) (x : Int), 0 < zs.length → (Lib.minOf zs < x ↔ ∃ z ∈ zs, z < x) := by
  have key : ∀ (zs : List Int) (a x : Int), zs.foldl min a < x ↔ a < x ∨ ∃ z ∈ zs, z < x := by
    intro zs
    induction zs with
    | nil => intro a x; simp
    | cons z zs ih =>
      intro a x
      rw [List.foldl_cons, ih]
      simp only [List.mem_cons, exists_eq_or_imp]
      have : min a z < x ↔ a < x ∨ z < x := by omega
      rw [this]
      exact ⟨fun h => by rcases h with (h | h) | h <;> simp [h], fun h => by rcases h with h | h | h <;> simp [h]⟩
  intro zs x h
  unfold Lib.minOf
  rw [key]
  match zs, h with
  | z :: zs, _ => simp
theorem badFrom_iff (xs : List Int) (th : Nat) (win : Int) (i : Nat) : ∀ n t, badFrom xs th win i n t = true ↔ ∃ j, t ≤ j ∧ j < t + n ∧ badAt xs th win i j = true
  | 0, t => by simp [badFrom]; intro j h1 h2; omega
  | n+1, t => by
    unfold badFrom
    split
    · rename_i hb
      exact ⟨fun _ => ⟨t, Nat.le_refl _, by omega, hb⟩, fun _ => rfl⟩
    · rename_i hb
      rw [badFrom_iff xs th win i n (t+1)]
      constructor
      · rintro ⟨j, h1, h2, h3⟩; exact ⟨j, by omega, by omega, h3⟩
      · rintro ⟨j, h1, h2, h3⟩
        by_cases e : j = t
        · subst e; exact absurd h3 hb
        · exact ⟨j, by omega, by omega, h3⟩
theorem bad_min (xs : List Int) (T k : Nat) (win : Int) (hT : 1 ≤ T) : badFrom xs T win k T 0 = decide (Lib.minOf (lastRow xs T (k+1)) < (k : Int) + 1 - win) := by
  rw [Bool.eq_iff_iff, badFrom_iff, decide_eq_true_eq, minOf_lt _ _ (by rw [lastRow_len]; omega)]
  constructor
  · rintro ⟨j, _, h2, h3⟩
    refine ⟨lastIn xs (j : Int) (k+1), List.mem_map.2 ⟨j, List.mem_range.2 (by omega), rfl⟩, ?_⟩
    have := of_decide_eq_true h3
    omega
  · rintro ⟨z, hz, hlt⟩
    obtain ⟨j, hj, rfl⟩ := List.mem_map.1 hz
    exact ⟨j, by omega, by have := List.mem_range.1 hj; omega, decide_eq_true (by omega)⟩
theorem bad_yes {xs : List Int} {T k : Nat} {win : Int} (hT : 1 ≤ T) (h : Lib.minOf (lastRow xs T (k+1)) < (k : Int) + 1 - win) : badFrom xs T win k T 0 = true := by
  rw [bad_min _ _ _ _ hT]; exact decide_eq_true h
theorem bad_no {xs : List Int} {T k : Nat} {win : Int} (hT : 1 ≤ T) (h : ¬ Lib.minOf (lastRow xs T (k+1)) < (k : Int) + 1 - win) : badFrom xs T win k T 0 = false := by
  rw [bad_min _ _ _ _ hT]; exact decide_eq_false h
set_option maxHeartbeats 8000000 in
theorem impl_Fair (v : Value) (xs : List Int) (th win : Int) (w : World) (h : Ints w v xs) (hx : xs.length ≤ 1048576) :
    Calls Try.prog 11 #[v, .int .i64 th, .int .i64 win] w fun e w' => e = .returned (.tuple #[.int .i64 (fairC xs th win), .bool (fairOk xs th win)]) ∧ Below w.heap.size w w' := by
  have h0 := h
  obtain ⟨ad, cap, rfl, hl, hm, hc⟩ := h.open
  clear h
  have hlen : xs.length ≤ 9223372036854775807 := by omega
  have HC := hid hc
  clear hc
  have N : ¬ (xs.length ≤ 1500 ∧ (1 ≤ th ∧ th ≤ 4) ∧ 1 ≤ win ∧ win ≤ 1500) → fairOk xs th win = false := fun hn => by
    rw [Bool.eq_false_iff]
    intro hy
    apply hn
    unfold fairOk at hy
    simp only [Bool.and_eq_true, decide_eq_true_eq, inB] at hy
    exact ⟨hy.1, hy.2.2⟩
  have HN := hid N
  clear N
  by_cases a1 : (1500 : Int) < (xs.length : Int)
  · have Hno := hid (HN.out (by omega))
    go_enter Try.func11, Try.ntmps11; go_wp2_with (go_at_call 34; refine (impl_allThreads _ xs _ h0).mono ?_; rintro e w' ⟨rfl, rfl⟩); go_ret2; exact ⟨by rw [fairC, Hno.out]; rfl, Below.refl _ _⟩
  by_cases a2 : th < 1
  · have Hno := hid (HN.out (by omega))
    go_enter Try.func11, Try.ntmps11; go_wp2_with (go_at_call 34; refine (impl_allThreads _ xs _ h0).mono ?_; rintro e w' ⟨rfl, rfl⟩); go_ret2; exact ⟨by rw [fairC, Hno.out]; rfl, Below.refl _ _⟩
  by_cases a3 : 4 < th
  · have Hno := hid (HN.out (by omega))
    go_enter Try.func11, Try.ntmps11; go_wp2_with (go_at_call 34; refine (impl_allThreads _ xs _ h0).mono ?_; rintro e w' ⟨rfl, rfl⟩); go_ret2; exact ⟨by rw [fairC, Hno.out]; rfl, Below.refl _ _⟩
  by_cases a4 : win < 1
  · have Hno := hid (HN.out (by omega))
    go_enter Try.func11, Try.ntmps11; go_wp2_with (go_at_call 34; refine (impl_allThreads _ xs _ h0).mono ?_; rintro e w' ⟨rfl, rfl⟩); go_ret2; exact ⟨by rw [fairC, Hno.out]; rfl, Below.refl _ _⟩
  by_cases a5 : 1500 < win
  · have Hno := hid (HN.out (by omega))
    go_enter Try.func11, Try.ntmps11; go_wp2_with (go_at_call 34; refine (impl_allThreads _ xs _ h0).mono ?_; rintro e w' ⟨rfl, rfl⟩); go_ret2; exact ⟨by rw [fairC, Hno.out]; rfl, Below.refl _ _⟩
  have e1 : decide (xs.length ≤ 1500) = true := decide_eq_true (by omega)
  have e3 : inB th 1 4 = true := by unfold inB; exact decide_eq_true (by omega)
  have e4 : inB win 1 1500 = true := by unfold inB; exact decide_eq_true (by omega)
  cases a6 : allIn xs 0 3 0 with
  | false =>
    have Hno := hid (show fairOk xs th win = false by unfold fairOk; rw [e1, a6]; rfl)
    go_enter Try.func11, Try.ntmps11; go_wp2_with (go_at_call 34; refine (impl_allThreads _ xs _ h0).mono ?_; rintro e w' ⟨rfl, rfl⟩); go_ret2; exact ⟨by rw [fairC, Hno.out]; rfl, Below.refl _ _⟩
  | true =>
  have hok := hid (show fairOk xs th win = true by unfold fairOk; rw [e1, a6, e3, e4]; rfl)
  obtain ⟨T, rfl⟩ := Int.eq_ofNat_of_zero_le (by omega : 0 ≤ th)
  have hfc := hid (show fairC xs T win = fairFrom xs T win xs.length 0 by rw [fairC, hok.out]; rfl)
  have T1 : 1 ≤ T := by omega
  have T4 : T ≤ 4 := by omega
  have T4' : (T : Int) ≤ 4 := by omega
  have hall := hid (show ∀ k, (hk : k < xs.length) → 0 ≤ xs[k] ∧ xs[k] ≤ 3 from fun k hk => by
    have h9 := a6
    simp only [allIn, List.drop_zero, List.all_eq_true] at h9
    have h8 := h9 xs[k] (List.getElem_mem hk)
    simpa [inB] using h8)
  clear HN e1 e3 e4
  go_enter Try.func11, Try.ntmps11
  go_wp2_with (go_at_call 34; refine (impl_allThreads _ xs _ h0).mono ?_; rintro e w' ⟨rfl, rfl⟩)
  have B0 : BoxF (w.alloc (.cells #[Value.int .i64 (-1), Value.int .i64 (-1), Value.int .i64 (-1), Value.int .i64 (-1)] 52)) w.heap.size ((lastRow xs 4 0).flatMap encI) := BoxF.alloc w #[Value.int .i64 (-1), Value.int .i64 (-1), Value.int .i64 (-1), Value.int .i64 (-1)] 52
  go_loopw [37] (fun i wr => ∃ k : Nat, k ≤ xs.length ∧ i = .int .i64 k ∧ BoxF wr w.heap.size ((lastRow xs 4 k).flatMap encI) ∧ Same (fairFrom xs T win (xs.length - k) k) (fairFrom xs T win xs.length 0) ∧ Below w.heap.size w wr) (fun i _ => xs.length - (intOf i).toNat)
  case atStart => exact ⟨0, by omega, rfl, B0, .rfl, (Below.refl _ _).alloc (Nat.le_refl _) _⟩
  case round =>
    clear B0
    obtain ⟨k, hk, rfl, bx, hS, hB⟩ := hrel
    by_cases hlt : k < xs.length
    · obtain ⟨bb, off, rfl, hbs, c0⟩ := HC.out k hlt
      have hx0 := hall.out k hlt
      have e0 := (hB.cell (p := ⟨bb, off + k, none⟩) hbs).trans c0
      obtain ⟨A, hA⟩ := Int.eq_ofNat_of_zero_le hx0.1
      rw [hA] at e0
      have hA3 : A < 4 := by omega
      have hA3' : (A : Int) < 4 := by omega
      have hA0 : (0 : Int) ≤ (A : Int) := by omega
      have hLn : ((lastRow xs 4 k).flatMap encI).length = 4 := by rw [flatMap_len _ 1 (fun _ => rfl), lastRow_len]
      have p0 := bx.1.2 A (by rw [hLn]; exact hA3)
      rw [encI_get _ A (by rw [lastRow_len]; exact hA3)] at p0
      have f0 := bx.2 A (by rw [hLn]; exact hA3)
      have b2 := bx.set A (by rw [hLn]; exact hA3) (.int .i64 (k : Int))
      rw [encI_set, lastRow_set xs 4 k A hlt hA] at b2
      have hB2 := hB.setCell (p := ⟨w.heap.size, A, none⟩) (Nat.le_refl _) (.int .i64 (k : Int))
      have Hst := hid (show (if badFrom xs T win k T 0 = true then (k : Int) - win + 1 else fairFrom xs T win (xs.length - (k+1)) (k+1)) = fairFrom xs T win xs.length 0 by
        have h9 := hS.out
        rw [show xs.length - k = (xs.length - (k+1)) + 1 by omega] at h9
        exact h9)
      obtain ⟨W9, hW9⟩ : ∃ X, wr.setCell ⟨w.heap.size, A, none⟩ (.int .i64 (k : Int)) = X := ⟨_, rfl⟩
      rw [hW9] at b2 hB2
      have hz := hid (show ∀ j, (hj : j < (lastRow xs T (k+1)).length) → W9.cell? ⟨w.heap.size, j, none⟩ = some (.int .i64 (lastRow xs T (k+1))[j]) from fun j hj => by
        have hj' : j < T := by rw [lastRow_len] at hj; exact hj
        have hj4 : j < 4 := by omega
        rw [b2.1.2 j (by rw [flatMap_len _ 1 (fun _ => rfl), lastRow_len]; omega), encI_get _ j (by rw [lastRow_len]; exact hj4), lastRow_get _ _ _ _ hj4, lastRow_get _ _ _ _ hj'])
      have hLT := lastRow_len xs T (k+1)
      clear c0 hLn
      have k1 : (k : Int) ≤ 1500 := by omega
      have k0 : (0 : Int) ≤ (k : Int) := by omega
      by_cases hb : Lib.minOf (lastRow xs T (k+1)) < (k : Int) + 1 - win
      · have hfin := hid (show fairC xs T win = (k : Int) + 1 - win by rw [hfc.out, ← Hst.out, if_pos (bad_yes T1 hb)]; omega)
        have HZ := hz
        go_wp2_with (go_at_call 35; refine (impl_MinN _ _ T (lastRow xs T (k+1)) _ hLT T1 (by omega) HZ.out).mono ?_; rintro e w' ⟨rfl, rfl⟩)
        go_ret2
        exact ⟨by rw [hfin.out, hok.out]; rfl, hB2⟩
      · have hno := hid (bad_no T1 hb)
        have HZ := hz
        go_wp2_with (go_at_call 35; refine (impl_MinN _ _ T (lastRow xs T (k+1)) _ hLT T1 (by omega) HZ.out).mono ?_; rintro e w' ⟨rfl, rfl⟩)
        go_roundw
        case rel => exact ⟨k+1, by omega, by go_num, b2, Same.mk (by have h9 := Hst.out; rw [hno.out] at h9; exact h9), hB2⟩
        case measure => simp [intOf]; omega
    · have h9 := hid (show fairC xs T win = -1 by have h8 := hS.out; rw [show xs.length - k = 0 by omega] at h8; rw [hfc.out, ← h8]; rfl)
      go_wp2
      go_ret2
      exact ⟨by rw [h9.out, hok.out]; rfl, hB⟩
end Go.Proofs.Ytjcoakgdhiiiaaa
