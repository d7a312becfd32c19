/- Chapter 1's model functions: their contracts. -/
import Derived.Test.YtfhkngmankmehaaF1
namespace Go.Proofs.Ytfhkngmankmehaa
open Go.RowKit Go.Proofs Go.Own

theorem spec_l1In (x a b : Int) (w : World) :
    Calls Try.prog 37 #[.int .i64 x, .int .i64 a, .int .i64 b] w fun e w' => e = .returned (.bool (inB x a b)) ∧ w = w' := by
  go_enter Try.func37, Try.ntmps37
  go_wp2
  all_goals go_ret
  all_goals (simp [inB, *]; try omega)

theorem spec_l1Value (x : Int) (w : World) :
    Calls Try.prog 38 #[.int .i64 x] w fun e w' => e = .returned (.bool (isVal x)) ∧ w = w' := by
  go_enter Try.func38, Try.ntmps38
  go_wp2_with (go_at_call 37; refine (spec_l1In _ _ _ _).mono ?_; rintro e w' ⟨rfl, rfl⟩)
  go_ret
  exact ⟨rfl, rfl⟩

theorem spec_l1All (v : Value) (xs : List Int) (a b : Int) (w : World) (h : Ints w v xs) :
    Calls Try.prog 34 #[v, .int .i64 a, .int .i64 b] w fun e w' => e = .returned (.bool (allIn xs a b 0)) ∧ w = w' := by
  obtain ⟨ad, cap, rfl, hl, hm, hc⟩ := h.open
  have hlen : xs.length ≤ 9223372036854775807 := by omega
  go_enter Try.func34, Try.ntmps34
  go_wp2
  go_loop [7] (fun i => ∃ k : Nat, k ≤ xs.length ∧ i = .int .i64 k ∧ Same (allIn xs a b 0) (allIn xs a b k)) (fun i => xs.length - (intOf i).toNat)
  case atStart => exact ⟨0, by omega, rfl, .rfl⟩
  case round =>
    obtain ⟨k, hk, rfl, hall⟩ := hrel
    by_cases hlt : k < xs.length
    · obtain ⟨bb, off, rfl, hbs, hcell⟩ := hc k hlt
      have hst := hid (allIn_step xs a b k hlt)
      clear hc
      go_wp2_with (go_at_call 37; refine (spec_l1In _ _ _ _).mono ?_; rintro e w' ⟨rfl, rfl⟩)
      · have hf : (!inB xs[k] a b) = true := by assumption
        go_ret
        exact ⟨ret_bool (by rw [hall.out, hst.out]; simp at hf; simp [hf]), rfl⟩
      · have hf : (!inB xs[k] a b) = false := by assumption
        go_round
        case rel => exact ⟨k+1, by omega, by go_num, .mk (by rw [hall.out, hst.out]; simp at hf; simp [hf])⟩
        case measure => simp [intOf]; omega
    · have hst := hid (allIn_end xs a b k hlt)
      go_wp2
      go_ret
      exact ⟨ret_bool (by rw [hall.out, hst.out]), rfl⟩

theorem spec_MemoryOk0 (v : Value) (xs : List Int) (w : World) (h : Ints w v xs) :
    Calls Try.prog 9 #[v] w fun e w' => e = .returned (.bool (memOk xs)) ∧ w = w' := by
  have h0 := h
  obtain ⟨ad, cap, rfl, hl, hm⟩ := Flat.form h
  have hlen : xs.length ≤ 9223372036854775807 := by omega
  go_enter Try.func9, Try.ntmps9
  go_wp2_with (go_at_call 34; refine (spec_l1All _ xs _ _ _ h0).mono ?_; rintro e w' ⟨rfl, rfl⟩)
  all_goals go_ret
  all_goals (simp [memOk, *]; try omega)
theorem spec_MemoryOk (v : Value) (xs : List Int) (w : World) (h : Ints w v xs) (_hx : xs.length ≤ 1048576) :
    Calls Try.prog 9 #[v] w fun e w' => e = .returned (.bool (memOk xs)) ∧ Below w.heap.size w w' :=
  (spec_MemoryOk0 v xs w h).mono fun _ _ ⟨h1, h2⟩ => ⟨h1, h2 ▸ Below.refl _ _⟩

theorem spec_l1Copy (v : Value) (xs : List Int) (w : World) (h : Ints w v xs) (hx : xs.length ≤ 1048576) :
    Calls Try.prog 36 #[v] w fun e w' => ∃ v', e = .returned v' ∧ w'.ownsRow w.heap.size 3 1 v' xs.length (xs.flatMap encI) ∧ Below w.heap.size w w' := by
  obtain ⟨i0, hi, hz0, hz1, hz2⟩ := info_parts infoInt
  have hone := hid (oneCell_enc oneCell_I xs)
  obtain ⟨ad, cap, rfl, hl, hm⟩ := Flat.form h
  have hown : (w.alloc (.cells #[] 3)).ownsRow w.heap.size 3 1 (.slice (some ⟨w.heap.size, 0, none⟩) 0 0) 0 [] := World.ownsRow_made _ _ _ (Nat.le_refl _) (Nat.zero_le _) rfl
  have hB : Below w.heap.size w (w.alloc (.cells #[] 3)) := (Below.refl _ _).alloc (Nat.le_refl _) _
  have h2 := Flat.below h hB
  go_enter Try.func36, Try.ntmps36
  go_wp2_with (at_builtin; refine wpList_append_flat rfl _ _ 22 rfl w.heap.size 3 i0 (.int .i64 0) 1 8 Try.underlying22 hi hz0 hz1 hz2 rfl (by decide) _ _ _ rfl hown _ _ _ rfl h2 hone.out (by unfold maxLen; omega) (by omega) (by simp) ?_)
  intro v' w1 ho hg
  have hB1 := hB.trans (below_of_mark hown hg (Nat.le_refl _) (by simp))
  go_wp2
  go_ret
  exact ⟨_, rfl, ho, hB1⟩


/-- An op that is not in order, seen at the first reason that strikes. -/
theorem spec_Word_no (v : Value) (xs : List Int) (kd a old new : Int) (w : World) (h : Ints w v xs) (hx : xs.length ≤ 1048576) (hno : opOk xs ⟨kd, a, old, new⟩ = false) :
    Calls Try.prog 13 #[v, .agg #[.int .i64 kd, .int .i64 a, .int .i64 old, .int .i64 new]] w fun e w' => ∃ v', e = .returned (.tuple #[v', .int .i64 0, .bool false]) ∧ w'.ownsRow w.heap.size 3 1 v' xs.length (xs.flatMap encI) ∧ Below w.heap.size w w' := by
  have hcase : memOk xs = false ∨ (memOk xs = true ∧ inB kd 1 5 = false) ∨ (memOk xs = true ∧ inB kd 1 5 = true ∧ inB a 0 (xs.length - 1) = false) ∨
      (memOk xs = true ∧ inB kd 1 5 = true ∧ inB a 0 (xs.length - 1) = true ∧ (kd != 1) = true ∧ isVal new = false) ∨
      (memOk xs = true ∧ inB kd 1 5 = true ∧ inB a 0 (xs.length - 1) = true ∧ (kd != 1) = true ∧ isVal new = true ∧ (kd == 4) = true ∧ isVal old = false) := by
    unfold opOk at hno
    cases h1 : memOk xs <;> cases h2 : inB kd 1 5 <;> cases h3 : inB a 0 (xs.length - 1) <;> cases h4 : isVal new <;> cases h5 : isVal old <;> by_cases h6 : kd = 1 <;> by_cases h7 : kd = 4 <;> simp_all
  clear hno
  have hB0 : Below w.heap.size w (w.alloc (.cells #[.int .i64 kd, .int .i64 a, .int .i64 old, .int .i64 new] 30)) := (Below.refl _ _).alloc (Nat.le_refl _) _
  have h0 := Flat.below h hB0
  obtain ⟨ad, cap, rfl, hl, hm⟩ := Flat.form h
  have c0 : (w.alloc (.cells #[.int .i64 kd, .int .i64 a, .int .i64 old, .int .i64 new] 30)).cell? ⟨w.heap.size, 0, none⟩ = some (.int .i64 kd) := by simp
  have c1 : (w.alloc (.cells #[.int .i64 kd, .int .i64 a, .int .i64 old, .int .i64 new] 30)).cell? ⟨w.heap.size, 1, none⟩ = some (.int .i64 a) := by simp
  have c2 : (w.alloc (.cells #[.int .i64 kd, .int .i64 a, .int .i64 old, .int .i64 new] 30)).cell? ⟨w.heap.size, 2, none⟩ = some (.int .i64 old) := by simp
  have c3 : (w.alloc (.cells #[.int .i64 kd, .int .i64 a, .int .i64 old, .int .i64 new] 30)).cell? ⟨w.heap.size, 3, none⟩ = some (.int .i64 new) := by simp
  have hsz : w.heap.size < (w.alloc (.cells #[.int .i64 kd, .int .i64 a, .int .i64 old, .int .i64 new] 30)).heap.size := by simp
  have hex : ∃ W, w.alloc (.cells #[.int .i64 kd, .int .i64 a, .int .i64 old, .int .i64 new] 30) = W := ⟨_, rfl⟩
  obtain ⟨W, hW⟩ := hex
  rw [hW] at hB0 h0 c0 c1 c2 c3 hsz
  go_enter Try.func13, Try.ntmps13
  go_wp2_with fail
  clear hW
  refine (spec_l1Copy _ xs _ h0 hx).mono ?_
  rintro e w1 ⟨v1, rfl, o1, b1⟩
  have hk : ∀ o, w1.cell? ⟨w.heap.size, o, none⟩ = W.cell? ⟨w.heap.size, o, none⟩ := fun o => b1.cell (p := ⟨w.heap.size, o, none⟩) hsz
  rw [← hk] at c0 c1 c2 c3
  clear hk
  have h1 := Flat.below h0 b1
  have hend : Below w.heap.size w w1 := hB0.trans (b1.mono hB0.size)
  have hr := owns_mono o1 hB0.size
  rcases hcase with e1 | ⟨e1, e2⟩ | ⟨e1, e2, e3⟩ | ⟨e1, e2, e3, e4, e5⟩ | ⟨e1, e2, e3, e4, e5, e6, e7⟩
  all_goals
    go_wp2_with (first | (go_at_call 9; refine (spec_MemoryOk0 _ xs _ h1).mono ?_; rintro e w' ⟨rfl, rfl⟩) | (go_at_call 37; refine (spec_l1In _ _ _ _).mono ?_; rintro e w' ⟨rfl, rfl⟩) | (go_at_call 38; refine (spec_l1Value _ _).mono ?_; rintro e w' ⟨rfl, rfl⟩))
    go_ret3
    exact ⟨_, rfl, hr, hend⟩

theorem spec_Word_yes (v : Value) (xs : List Int) (kd : Int) (j : Nat) (old new : Int) (w : World) (h : Ints w v xs) (hx : xs.length ≤ 1048576) (hj : j < xs.length)
    (e1 : memOk xs = true) (hkd : kd = 1 ∨ kd = 2 ∨ kd = 3 ∨ kd = 4 ∨ kd = 5) (e4 : kd = 1 ∨ isVal new = true) (e5 : kd = 4 → isVal old = true) :
    Calls Try.prog 13 #[v, .agg #[.int .i64 kd, .int .i64 j, .int .i64 old, .int .i64 new]] w fun e w' => ∃ v', e = .returned (.tuple #[v', .int .i64 (wordF xs ⟨kd, j, old, new⟩).2.1, .bool (wordF xs ⟨kd, j, old, new⟩).2.2]) ∧ w'.ownsRow w.heap.size 3 1 v' (wordF xs ⟨kd, j, old, new⟩).1.length ((wordF xs ⟨kd, j, old, new⟩).1.flatMap encI) ∧ Below w.heap.size w w' := by
  have hB0 : Below w.heap.size w (w.alloc (.cells #[.int .i64 kd, .int .i64 j, .int .i64 old, .int .i64 new] 30)) := (Below.refl _ _).alloc (Nat.le_refl _) _
  have h0 := Flat.below h hB0
  obtain ⟨ad, cap, rfl, hl, hm⟩ := Flat.form h
  have c0 : (w.alloc (.cells #[.int .i64 kd, .int .i64 j, .int .i64 old, .int .i64 new] 30)).cell? ⟨w.heap.size, 0, none⟩ = some (.int .i64 kd) := by simp
  have c1 : (w.alloc (.cells #[.int .i64 kd, .int .i64 j, .int .i64 old, .int .i64 new] 30)).cell? ⟨w.heap.size, 1, none⟩ = some (.int .i64 j) := by simp
  have c2 : (w.alloc (.cells #[.int .i64 kd, .int .i64 j, .int .i64 old, .int .i64 new] 30)).cell? ⟨w.heap.size, 2, none⟩ = some (.int .i64 old) := by simp
  have c3 : (w.alloc (.cells #[.int .i64 kd, .int .i64 j, .int .i64 old, .int .i64 new] 30)).cell? ⟨w.heap.size, 3, none⟩ = some (.int .i64 new) := by simp
  have hsz : w.heap.size < (w.alloc (.cells #[.int .i64 kd, .int .i64 j, .int .i64 old, .int .i64 new] 30)).heap.size := by simp
  have hex : ∃ W, w.alloc (.cells #[.int .i64 kd, .int .i64 j, .int .i64 old, .int .i64 new] 30) = W := ⟨_, rfl⟩
  obtain ⟨W, hW⟩ := hex
  rw [hW] at hB0 h0 c0 c1 c2 c3 hsz
  go_enter Try.func13, Try.ntmps13
  go_wp2_with fail
  clear hW
  refine (spec_l1Copy _ xs _ h0 hx).mono ?_
  rintro e w1 ⟨v1, rfl, o1, b1⟩
  have hk : ∀ o, w1.cell? ⟨w.heap.size, o, none⟩ = W.cell? ⟨w.heap.size, o, none⟩ := fun o => b1.cell (p := ⟨w.heap.size, o, none⟩) hsz
  rw [← hk] at c0 c1 c2 c3
  clear hk
  have h1 := Flat.below h0 b1
  have hend : Below w.heap.size w w1 := hB0.trans (b1.mono hB0.size)
  have hr := owns_mono o1 hB0.size
  obtain ⟨g, gcap, rfl, hgl, hgm, hgb, hgs, hgc, hgf⟩ := owns_at o1 (by omega)
  have hgj := hgc j (by omega)
  rw [encI_get _ _ hj] at hgj
  have hgfj := hgf j
  have hst := fun u => (World.ownsRow.stored o1 j u)
  have hset : ∀ x, (w1.setCell ⟨g, j, none⟩ (.int .i64 x)).ownsRow w.heap.size 3 1 (.slice (some ⟨g, 0, none⟩) xs.length gcap) (xs.set j x).length ((xs.set j x).flatMap encI) := fun x => by
    have := (hst (.int .i64 x)).1
    rw [encI_set] at this
    rw [List.length_set]
    exact owns_mono this hB0.size
  have hendset : ∀ x, Below w.heap.size w (w1.setCell ⟨g, j, none⟩ (.int .i64 x)) := fun x => hend.setCell (p := ⟨g, j, none⟩) (by show w.heap.size ≤ g; have := hB0.size; omega) _
  obtain ⟨ad', cap', hv', hl', hm', hcc⟩ := Ints.open h1
  obtain ⟨b, off, rfl, hbs, hcell⟩ := hcc j hj
  obtain ⟨rfl, rfl⟩ : ad = some ⟨b, off, none⟩ ∧ cap = cap' := by simpa using hv'
  clear hv' hcc hgc hgf hst
  have e3 : inB (j : Int) 0 (xs.length - 1) = true := by simp [inB]; omega
  have hw : (xs.getD j 0) = xs[j] := by simp [List.getD, hj]
  have hop : opOk xs ⟨kd, j, old, new⟩ = true := by
    simp only [opOk, e1, e3]
    rcases hkd with rfl | rfl | rfl | rfl | rfl <;> simp_all [inB]
  have HS := hid hset
  have HE := hid hendset
  have HO := hid hop
  have HW := hid hw
  have hbd := memOk_get e1 j hj
  have HX := hid e4
  have HY := hid e5
  clear hset hendset hop hw e4 e5
  rcases hkd with rfl | rfl | rfl | rfl | rfl
  · skip
    have e2 : inB 1 1 5 = true := by decide
    go_wp2_with (first | (go_at_call 9; refine (spec_MemoryOk0 _ xs _ h1).mono ?_; rintro e w' ⟨rfl, rfl⟩) | (go_at_call 37; refine (spec_l1In _ _ _ _).mono ?_; rintro e w' ⟨rfl, rfl⟩) | (go_at_call 38; refine (spec_l1Value _ _).mono ?_; rintro e w' ⟨rfl, rfl⟩))
    go_ret3
    rw [wordF_1 hj HO.out]
    exact ⟨_, rfl, hr, hend⟩
  · skip
    have e2 : inB 2 1 5 = true := by decide
    have e4 : isVal new = true := by simpa using HX.out
    go_wp2_with (first | (go_at_call 9; refine (spec_MemoryOk0 _ xs _ h1).mono ?_; rintro e w' ⟨rfl, rfl⟩) | (go_at_call 37; refine (spec_l1In _ _ _ _).mono ?_; rintro e w' ⟨rfl, rfl⟩) | (go_at_call 38; refine (spec_l1Value _ _).mono ?_; rintro e w' ⟨rfl, rfl⟩))
    go_quiet (fail)
    go_wp2
    go_ret3
    rw [wordF_2 hj HO.out]
    exact ⟨_, rfl, HS.out _, below_drewN (HE.out _) _⟩
  · skip
    have e2 : inB 3 1 5 = true := by decide
    have e4 : isVal new = true := by simpa using HX.out
    go_wp2_with (first | (go_at_call 9; refine (spec_MemoryOk0 _ xs _ h1).mono ?_; rintro e w' ⟨rfl, rfl⟩) | (go_at_call 37; refine (spec_l1In _ _ _ _).mono ?_; rintro e w' ⟨rfl, rfl⟩) | (go_at_call 38; refine (spec_l1Value _ _).mono ?_; rintro e w' ⟨rfl, rfl⟩))
    go_ret3
    rw [wordF_3 hj HO.out]
    exact ⟨_, rfl, HS.out _, HE.out _⟩
  · have e2 : inB 4 1 5 = true := by decide
    have e4 : isVal new = true := by simpa using HX.out
    have e5 : isVal old = true := by simpa using HY.out
    by_cases heq : xs[j] = old
    · skip
      have hb : (xs[j] == old) = true := by simpa using heq
      have hq := hid heq
      clear heq
      go_wp2_with (first | (go_at_call 9; refine (spec_MemoryOk0 _ xs _ h1).mono ?_; rintro e w' ⟨rfl, rfl⟩) | (go_at_call 37; refine (spec_l1In _ _ _ _).mono ?_; rintro e w' ⟨rfl, rfl⟩) | (go_at_call 38; refine (spec_l1Value _ _).mono ?_; rintro e w' ⟨rfl, rfl⟩))
      go_ret3
      rw [wordF_4y hj HO.out hq.out]
      exact ⟨_, rfl, HS.out _, HE.out _⟩
    · skip
      have hb : (xs[j] == old) = false := by simpa using heq
      have hq := hid heq
      clear heq
      go_wp2_with (first | (go_at_call 9; refine (spec_MemoryOk0 _ xs _ h1).mono ?_; rintro e w' ⟨rfl, rfl⟩) | (go_at_call 37; refine (spec_l1In _ _ _ _).mono ?_; rintro e w' ⟨rfl, rfl⟩) | (go_at_call 38; refine (spec_l1Value _ _).mono ?_; rintro e w' ⟨rfl, rfl⟩))
      go_ret3
      rw [wordF_4n hj HO.out hq.out]
      exact ⟨_, rfl, hr, hend⟩
  · have e2 : inB 5 1 5 = true := by decide
    have e4 : isVal new = true := by simpa using HX.out
    have hb2 := isVal_iff e4
    cases hv : isVal (xs[j] + new) with
    | true =>
      go_wp2_with (first | (go_at_call 9; refine (spec_MemoryOk0 _ xs _ h1).mono ?_; rintro e w' ⟨rfl, rfl⟩) | (go_at_call 37; refine (spec_l1In _ _ _ _).mono ?_; rintro e w' ⟨rfl, rfl⟩) | (go_at_call 38; refine (spec_l1Value _ _).mono ?_; rintro e w' ⟨rfl, rfl⟩))
      go_quiet (fail)
      go_wp2
      go_ret3
      rw [wordF_5y hj HO.out hv]
      exact ⟨_, rfl, HS.out _, below_drewN (HE.out _) _⟩
    | false =>
      go_wp2_with (first | (go_at_call 9; refine (spec_MemoryOk0 _ xs _ h1).mono ?_; rintro e w' ⟨rfl, rfl⟩) | (go_at_call 37; refine (spec_l1In _ _ _ _).mono ?_; rintro e w' ⟨rfl, rfl⟩) | (go_at_call 38; refine (spec_l1Value _ _).mono ?_; rintro e w' ⟨rfl, rfl⟩))
      go_ret3
      rw [wordF_5n hj HO.out hv]
      exact ⟨_, rfl, hr, hend⟩

theorem spec_Word_own (v : Value) (xs : List Int) (o : WordOp) (w : World) (h : Ints w v xs) (hx : xs.length ≤ 1048576) :
    Calls Try.prog 13 #[v, o.val] w fun e w' => ∃ v', e = .returned (.tuple #[v', .int .i64 (wordF xs o).2.1, .bool (wordF xs o).2.2]) ∧ w'.ownsRow w.heap.size 3 1 v' (wordF xs o).1.length ((wordF xs o).1.flatMap encI) ∧ Below w.heap.size w w' := by
  cases hok : opOk xs o with
  | false =>
    rw [wordF_no xs o hok]
    exact spec_Word_no v xs o.kind_ o.at_ o.old_ o.new_ w h hx hok
  | true =>
    obtain ⟨kd, a, old, new⟩ := o
    obtain ⟨j, rfl, hj, e1, hkd, e4, e5⟩ := opOk_yes hok
    exact spec_Word_yes v xs kd j old new w h hx hj e1 hkd e4 e5
theorem spec_Word (v : Value) (xs : List Int) (o : WordOp) (w : World) (h : Ints w v xs) (hx : xs.length ≤ 1048576) :
    Calls Try.prog 13 #[v, o.val] w fun e w' => ∃ v', e = .returned (.tuple #[v', .int .i64 (wordF xs o).2.1, .bool (wordF xs o).2.2]) ∧ Ints w' v' (wordF xs o).1 ∧ Below w.heap.size w w' :=
  (spec_Word_own v xs o w h hx).mono fun _ _ ⟨v', h1, h2, h3⟩ => ⟨v', h1, Flat.of_owns h2, h3⟩
end Go.Proofs.Ytfhkngmankmehaa
