/- Chapter 14's program: RingOk. -/
import Derived.Test.YtilbmclhnlkkmaaI14
import Derived.Laws.StructEq
namespace Go.Proofs.Ytilbmclhnlkkmaa
set_option maxRecDepth 100000
open Go.RowKit Go.Proofs Go.Own
open Go Go.BigFrame
set_option linter.unusedVariables false
set_option linter.unusedSimpArgs false
def encA (xs : List Int) : Array Value := (xs.flatMap encI).toArray
theorem encA_map (xs : List Int) : encA xs = (xs.map (Value.int .i64)).toArray := by
  unfold encA
  congr 1
  induction xs with
  | nil => rfl
  | cons x xs ih => rw [List.flatMap_cons, ih]; rfl
theorem all_range_eqi : ∀ (xs ys : List Int), xs.length = ys.length → ((List.range xs.length).all fun i => xs.getD i 0 == ys.getD i 0) = (xs == ys)
  | [], [], _ => rfl
  | x :: xs, y :: ys, h => by
    have ih := all_range_eqi xs ys (by simpa using h)
    rw [List.length_cons, List.range_succ_eq_map, List.all_cons, List.all_map]
    simp only [List.getD_cons_zero, Function.comp_def, List.getD_cons_succ, ih]
    simp [List.cons_beq_cons]
  | [], _ :: _, h => by simp at h
  | _ :: _, [], h => by simp at h
theorem run_equalIn_ints {P : Program} (w : World) (d : Nat) (t e : TypeId) (n : Nat) (ht : P.underlying t = some (.array n e)) (he : P.underlying e = some (.int .i64)) (hsz : ∀ w, (sizeOf e).run P w = .ok 1 w)
    (xs ys : List Int) (hx : xs.length = n) (hy : ys.length = n) :
    (Op.equalIn (d + 2) t (.agg (encA xs)) (.agg (encA ys))).run P w = .ok (xs == ys) w := by
  rw [← all_range_eqi xs ys (hx.trans hy.symm), hx, List.range_eq_range', Op.equalIn, encA_map, encA_map]
  simp only [Sem.run_bind, run_underlying ht, Result.andThen_ok, hsz, Std.Legacy.Range.forIn_eq_forIn_range', Std.Legacy.Range.size, Nat.sub_zero, Nat.add_sub_cancel, Nat.div_one]
  have hl : ∀ i ∈ List.range' 0 n 1, i < n := fun i hi => by simpa using (List.mem_range'_1.1 hi).2
  generalize List.range' 0 n 1 = l at hl ⊢
  induction l with
  | nil => simp
  | cons i l ih =>
    have hi : i < n := hl i (by simp)
    have px : (part e (xs.map (Value.int .i64)).toArray (i * 1)).run P w = .ok (.int .i64 (xs.getD i 0)) w := by
      simp [part, isAgg, run_underlying he, List.getD, List.getElem?_eq_getElem (show i < xs.length by omega)]
    have py : (part e (ys.map (Value.int .i64)).toArray (i * 1)).run P w = .ok (.int .i64 (ys.getD i 0)) w := by
      simp [part, isAgg, run_underlying he, List.getD, List.getElem?_eq_getElem (show i < ys.length by omega)]
    have pe : (Op.equalIn (d + 1) e (.int .i64 (xs.getD i 0)) (.int .i64 (ys.getD i 0))).run P w = .ok (xs.getD i 0 == ys.getD i 0) w := by
      simp [Op.equalIn, Sem.run_bind, run_underlying he]
    simp only [List.forIn_cons, Sem.run_bind, px, py, pe, Result.andThen_ok, List.all_cons]
    cases hb : (xs.getD i 0 == ys.getD i 0)
    · simp
    · simp only [Bool.not_true, Bool.false_eq_true, if_false, Sem.run_pure, Result.andThen_ok, Bool.true_and]
      exact ih fun j hj => hl j (by simp [hj])
def zer8 : List Int := [0, 0, 0, 0, 0, 0, 0, 0]
/-- The cells with the first k places made 0. -/
def zeroN (L : List Int) (f : Int) : Nat → List Int
  | 0 => L
  | k+1 => (zeroN L f k).set (idx8 f k) 0
theorem zeroN_len (L : List Int) (f : Int) : ∀ k, (zeroN L f k).length = L.length
  | 0 => rfl
  | k+1 => by rw [zeroN, List.length_set, zeroN_len L f k]
theorem zeroN_at (L : List Int) (F : Nat) (hL : L.length = 8) : ∀ (k i : Nat), k ≤ 8 → i < 8 → rAt (zeroN L (F : Int) k) (idx8 (F : Int) i) = if i < k then 0 else rAt L (idx8 (F : Int) i)
  | 0, i, _, _ => by simp [zeroN]
  | k+1, i, hk, hi => by
    rw [zeroN]
    by_cases h : i = k
    · subst h
      rw [rAt_set_self _ _ _ (by rw [zeroN_len, hL]; exact idx8_lt _ _), if_pos (by omega)]
    · rw [rAt_set_ne _ _ _ _ (by unfold idx8; omega), zeroN_at L F hL k i (by omega) hi]
      by_cases h2 : i < k
      · rw [if_pos h2, if_pos (by omega)]
      · rw [if_neg h2, if_neg (by omega)]
theorem eq_zer8 (X : List Int) (h : X.length = 8) : X = zer8 ↔ ∀ p, p < 8 → rAt X p = 0 := by
  obtain ⟨a, b, c, d, e, f, g, i, rfl⟩ := list8 X h
  constructor
  · intro h2 p hp
    rw [h2]
    match p, hp with
    | 0, _ => rfl
    | 1, _ => rfl
    | 2, _ => rfl
    | 3, _ => rfl
    | 4, _ => rfl
    | 5, _ => rfl
    | 6, _ => rfl
    | 7, _ => rfl
  · intro h2
    have h0 : a = 0 := h2 0 (by decide)
    have h1 : b = 0 := h2 1 (by decide)
    have h3 : c = 0 := h2 2 (by decide)
    have h4 : d = 0 := h2 3 (by decide)
    have h5 : e = 0 := h2 4 (by decide)
    have h6 : f = 0 := h2 5 (by decide)
    have h7 : g = 0 := h2 6 (by decide)
    have h8 : i = 0 := h2 7 (by decide)
    subst h0 h1 h3 h4 h5 h6 h7 h8
    rfl
/-- A ring whose cells in use are values is so where the others are 0. -/
theorem ringOk_zero (L : List Int) (F M : Nat) (hL : L.length = 8) (hF : F ≤ 7) (hM : M ≤ 8) (hv : ∀ i, i < M → isVal (rAt L (idx8 (F : Int) i)) = true) : ringOk ⟨L, F, M⟩ = (zeroN L (F : Int) M == zer8) := by
  rw [Bool.eq_iff_iff, ringOk_iff, beq_iff_eq, eq_zer8 _ (by rw [zeroN_len, hL])]
  dsimp only
  constructor
  · rintro ⟨-, -, hc⟩ p hp
    have e : p = idx8 (F : Int) ((p + 8 - F) % 8) := by unfold idx8; omega
    rw [e, zeroN_at L F hL M _ hM (Nat.mod_lt _ (by decide))]
    split
    · rfl
    · rename_i hn
      have z := hc ((p + 8 - F) % 8) (Nat.mod_lt _ (by decide))
      unfold ringCell at z
      rw [show decide ((((p + 8 - F) % 8 : Nat) : Int) < (M : Int)) = false from decide_eq_false (by omega)] at z
      simpa using z
  · intro h
    refine ⟨by omega, by omega, fun i hi => ?_⟩
    unfold ringCell
    by_cases him : i < M
    · rw [show decide ((i : Int) < (M : Int)) = true from decide_eq_true (by omega)]
      exact hv i him
    · rw [show decide ((i : Int) < (M : Int)) = false from decide_eq_false (by omega)]
      have z := h (idx8 (F : Int) i) (idx8_lt _ _)
      rw [zeroN_at L F hL M i hM hi, if_neg him] at z
      simpa using z
theorem ringOk_novalue (L : List Int) (F M k : Nat) (hk : k < M) (hM : M ≤ 8) (hv : isVal (rAt L (idx8 (F : Int) k)) = false) : ringOk ⟨L, F, M⟩ = false := by
  rw [← Bool.not_eq_true, ringOk_iff]
  rintro ⟨-, -, hc⟩
  have z := hc k (by omega)
  unfold ringCell at z
  dsimp only at z
  rw [show decide ((k : Int) < (M : Int)) = true from decide_eq_true (by omega)] at z
  exact absurd (hv.symm.trans z) (by decide)
theorem ringOk_out (r : RingD) (h : r.from_ < 0 ∨ 7 < r.from_ ∨ r.many_ < 0 ∨ 8 < r.many_) : ringOk r = false := by
  rw [← Bool.not_eq_true, ringOk_iff]
  rintro ⟨h1, h2, -⟩
  omega
set_option maxHeartbeats 8000000 in
theorem impl_RingOk0 (r : RingD) (hL : r.cells_.length = 8) (w : World) :
    Calls Try.prog 11 #[.agg r.enc.toArray] w fun e w' => e = .returned (.bool (ringOk r)) ∧ Below w.heap.size w w' := by
  have hl := ring_len hL
  have hl2 : r.enc.toArray.size = 10 := by rw [List.size_toArray, hl]
  have HE := hid (show r.enc = [] ++ r.cells_.flatMap encI ++ [.int .i64 r.from_, .int .i64 r.many_] from rfl)
  have HL := hid hL
  have h8 : r.enc[8]? = some (.int .i64 r.from_) := by rw [HE.out, List.nil_append, List.getElem?_append_right (by rw [ints_len]; omega), ints_len, hL]; rfl
  have h9 : r.enc[9]? = some (.int .i64 r.many_) := by rw [HE.out, List.nil_append, List.getElem?_append_right (by rw [ints_len]; omega), ints_len, hL]; rfl
  generalize hce : r.enc = ce at *
  obtain ⟨L, f, m⟩ := r
  dsimp only at *
  obtain ⟨W1, hW1⟩ : ∃ X, w.alloc (.cells ce.toArray 26) = X := ⟨_, rfl⟩
  have hB1 : Below w.heap.size w W1 := by rw [← hW1]; exact (Below.refl _ _).alloc (Nat.le_refl _) _
  have b0 : BoxF W1 w.heap.size ce := by
    rw [← hW1]
    exact BoxF.alloc w ce.toArray 26
  have c8 : W1.cell? ⟨w.heap.size, 8, none⟩ = some (.int .i64 f) := (b0.1.2 8 (by omega)).trans h8
  have c9 : W1.cell? ⟨w.heap.size, 9, none⟩ = some (.int .i64 m) := (b0.1.2 9 (by omega)).trans h9
  have hsz : W1.heap.size = w.heap.size + 1 := by rw [← hW1]; simp
  have B0 := hid b0
  have HB1 := hid hB1
  have HSZ := hid hsz
  have H8 := hid h8
  have H9 := hid h9
  clear b0 hB1 hce hL h8 h9 hsz
  by_cases hf0 : f < 0
  · have HR := hid (ringOk_out ⟨L, f, m⟩ (.inl hf0))
    go_enter Try.func11, Try.ntmps11
    go_wp2
    go_ret
    exact ⟨by rw [HR.out]; rfl, HB1.out⟩
  by_cases hf7 : 7 < f
  · have HR := hid (ringOk_out ⟨L, f, m⟩ (.inr (.inl hf7)))
    go_enter Try.func11, Try.ntmps11
    go_wp2
    go_ret
    exact ⟨by rw [HR.out]; rfl, HB1.out⟩
  by_cases hm0 : m < 0
  · have HR := hid (ringOk_out ⟨L, f, m⟩ (.inr (.inr (.inl hm0))))
    go_enter Try.func11, Try.ntmps11
    go_wp2
    go_ret
    exact ⟨by rw [HR.out]; rfl, HB1.out⟩
  by_cases hm8 : 8 < m
  · have HR := hid (ringOk_out ⟨L, f, m⟩ (.inr (.inr (.inr hm8))))
    go_enter Try.func11, Try.ntmps11
    go_wp2
    go_ret
    exact ⟨by rw [HR.out]; rfl, HB1.out⟩
  obtain ⟨F, rfl⟩ : ∃ F : Nat, f = (F : Int) := ⟨f.toNat, by omega⟩
  obtain ⟨M, rfl⟩ : ∃ M : Nat, m = (M : Int) := ⟨m.toNat, by omega⟩
  have hFb : F ≤ 7 := by omega
  have hMb : M ≤ 8 := by omega
  have hlL : (L.flatMap encI).length = 8 := by rw [ints_len, HL.out]
  have hz : ∀ w : World, (zeroValue 22).run Try.prog w = .ok (.agg #[.int .i64 0, .int .i64 0, .int .i64 0, .int .i64 0, .int .i64 0, .int .i64 0, .int .i64 0, .int .i64 0]) w := fun w => zero_run w (by kernel_rfl)
  have honeL : (L.flatMap encI).all (·.oneCell') = true := ints_one L
  go_enter Try.func11, Try.ntmps11
  go_wp2_with (first | (refine wpList_load_part rfl 22 _ rfl w.heap.size [] (L.flatMap encI) [.int .i64 F, .int .i64 M] ce (by exact B0.out) HE.out rfl _ Try.underlying22 rfl (by rw [hlL]; kernel_rfl) ?_) | (refine wpList_store_box rfl 22 _ _ rfl _ [.int .i64 0, .int .i64 0, .int .i64 0, .int .i64 0, .int .i64 0, .int .i64 0, .int .i64 0, .int .i64 0] (L.flatMap encI) (BoxF.alloc _ #[.int .i64 0, .int .i64 0, .int .i64 0, .int .i64 0, .int .i64 0, .int .i64 0, .int .i64 0, .int .i64 0] _) rfl rfl (by rw [hlL]; rfl) (by rw [hlL]; kernel_rfl) honeL ?_))
  intro w3 o3 C3
  have hba : Below W1.heap.size W1 (W1.alloc (.cells #[.int .i64 0, .int .i64 0, .int .i64 0, .int .i64 0, .int .i64 0, .int .i64 0, .int .i64 0, .int .i64 0] 22)) := (Below.refl _ _).alloc (Nat.le_refl _) _
  have B3 := hid ((B0.out.below hba).chg C3 (by rw [HSZ.out]; omega))
  have HB3 := hid (below_chg (HB1.out.trans (hba.mono HB1.out.size)) C3 (by simp; have := HSZ.out; omega) (fun b hb => by have := HSZ.out; omega))
  have R3 := hid o3
  have k9 : w3.cell? ⟨w.heap.size, 9, none⟩ = some (.int .i64 M) := (B3.out.1.2 9 (by omega)).trans H9.out
  clear o3 C3 hba c8 c9 B0 HB1 hW1
  have HZ := hid (fun (X : List Int) (hX : X.length = 8) (w : World) => (show (Op.equalIn 10000 22 (.agg (X.flatMap encI).toArray) (.agg #[.int .i64 0, .int .i64 0, .int .i64 0, .int .i64 0, .int .i64 0, .int .i64 0, .int .i64 0, .int .i64 0])).run Try.prog w = .ok (X == zer8) w from run_equalIn_ints w 9998 22 3 8 Try.underlying22 Try.underlying3 (fun w => by kernel_rfl) X zer8 hX rfl))
  go_wp2
  generalize W1.heap.size = g at *
  go_loopw [28] (fun i wr => ∃ k : Nat, k ≤ M ∧ i = .int .i64 k ∧ Hid (∀ i, i < k → isVal (rAt L (idx8 (F : Int) i)) = true) ∧ Hid (BoxF wr w.heap.size ce) ∧ Hid (BoxF wr g ((zeroN L (F : Int) k).flatMap encI)) ∧ Hid (Below w.heap.size w wr)) (fun i _ => M - (intOf i).toNat)
  case atStart => exact ⟨0, by omega, rfl, hid (fun i hi => absurd hi (by omega)), B3, R3, HB3⟩
  case round =>
    obtain ⟨k, hk, rfl, HV, BX, RX, HB⟩ := hrel
    clear B3 R3 HB3 k9
    have hLz : (zeroN L (F : Int) k).length = 8 := by rw [zeroN_len, HL.out]
    by_cases hlt : k < M
    · have hkM : (k : Int) < (M : Int) := by omega
      have HKL := hid (show idx8 (F : Int) k < (zeroN L (F : Int) k).length by rw [hLz]; exact idx8_lt _ _)
      have k8 : wr.cell? ⟨w.heap.size, 8, none⟩ = some (.int .i64 F) := (BX.out.1.2 8 (by omega)).trans H8.out
      have x0 : wr.cell? ⟨g, idx8 (F : Int) k, none⟩ = some (.int .i64 (rAt L (idx8 (F : Int) k))) := by
        have z := int_at (A := []) (Z := []) (by simpa using RX.out) (idx8 (F : Int) k) HKL.out
        rw [← rAt_eq HKL.out, zeroN_at L F HL.out k k (by omega) (by omega), if_neg (by omega)] at z
        simpa using z
      have HC := hid (fun (w : World) => impl_behind F k hFb (by omega) w)
      have hil := idx8_lt (F : Int) k
      have hi0 : (0 : Int) ≤ ((idx8 (F : Int) k : Nat) : Int) := by omega
      have hi8 : ((idx8 (F : Int) k : Nat) : Int) < 8 := by omega
      have HS := hid (show ((zeroN L (F : Int) k).flatMap encI).set (idx8 (F : Int) k) (.int .i64 0) = (zeroN L (F : Int) (k+1)).flatMap encI by rw [ints_set]; rfl)
      have hlz : ((zeroN L (F : Int) k).flatMap encI).length = 8 := by rw [ints_len, hLz]
      have HN := hid (fun (h : isVal (rAt L (idx8 (F : Int) k)) = false) => ringOk_novalue L F M k hlt hMb h)
      have HV2 := hid (fun (h : isVal (rAt L (idx8 (F : Int) k)) = true) (i : Nat) (hi : i < k + 1) => show isVal (rAt L (idx8 (F : Int) i)) = true by
        by_cases e : i = k
        · subst e; exact h
        · exact HV.out i (by omega))
      obtain ⟨x, hx⟩ : ∃ x, rAt L (idx8 (F : Int) k) = x := ⟨_, rfl⟩
      rw [hx] at x0 HN HV2
      obtain ⟨ix, hix⟩ : ∃ i, idx8 (F : Int) k = i := ⟨_, rfl⟩
      rw [hix] at x0 hi0 hi8 HC hil HS
      obtain ⟨cz, hcz⟩ : ∃ X, (zeroN L (F : Int) k).flatMap encI = X := ⟨_, rfl⟩
      rw [hcz] at RX HS hlz
      clear hix hx hcz hLz HKL HV
      cases hv : isVal x with
      | false =>
        go_wp2_with (first | (go_at_call 30; refine (impl_isValueIs _ _ _ hv).mono ?_; rintro e w' ⟨rfl, rfl⟩) | (go_at_call 29; refine (HC.out _).mono ?_; rintro e w' ⟨rfl, rfl⟩))
        go_ret
        exact ⟨by rw [HN.out hv]; rfl, HB.out⟩
      | true =>
        go_wp2_with (first | (go_at_call 30; refine (impl_isValueIs _ _ _ hv).mono ?_; rintro e w' ⟨rfl, rfl⟩) | (go_at_call 29; refine (HC.out _).mono ?_; rintro e w' ⟨rfl, rfl⟩) | (refine wpList_store_cell rfl 3 _ _ rfl g ix cz (.int .i64 0) RX.out rfl rfl (by omega) (by kernel_rfl) rfl rfl ?_))
        intro w5 o5 C5
        have HR5 := hid (show BoxF w5 g ((zeroN L (F : Int) (k+1)).flatMap encI) by rw [← HS.out]; exact o5)
        have BX5 := hid (BX.out.chg C5 (by have := HSZ.out; omega))
        have HB5 := hid (below_chg HB.out C5 HB.out.size (fun b hb => by have := HSZ.out; omega))
        clear o5 C5
        go_wp2
        go_roundw
        case rel => exact ⟨k+1, by omega, by go_num, hid (HV2.out hv), BX5, HR5, HB5⟩
        case measure => simp [intOf]; omega
    · obtain rfl : k = M := by omega
      have HR := hid (ringOk_zero L F k HL.out hFb hMb HV.out)
      have heq := HZ.out (zeroN L (F : Int) k) hLz
      have hlz : ((zeroN L (F : Int) k).flatMap encI).length = 8 := by rw [ints_len, hLz]
      obtain ⟨cz, hcz⟩ : ∃ X, (zeroN L (F : Int) k).flatMap encI = X := ⟨_, rfl⟩
      rw [hcz] at RX hlz heq
      obtain ⟨re, hre⟩ : ∃ X, (zeroN L (F : Int) k == zer8) = X := ⟨_, rfl⟩
      rw [hre] at HR heq
      clear hcz hLz hre HV
      go_wp2_with (refine wpList_load_box rfl 22 _ rfl g cz (by exact RX.out.1) rfl _ Try.underlying22 rfl (by rw [hlz]; kernel_rfl) ?_)
      go_ret
      exact ⟨by rw [HR.out]; rfl, HB.out⟩
end Go.Proofs.Ytilbmclhnlkkmaa
