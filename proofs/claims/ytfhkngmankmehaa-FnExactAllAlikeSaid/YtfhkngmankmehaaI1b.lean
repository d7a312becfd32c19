/- Chapter 1's program functions, more: one op. -/
import Derived.Test.YtfhkngmankmehaaI1
import Derived.Deep.RegionHeld3
namespace Go.Proofs.Ytfhkngmankmehaa
open Go.RowKit Go.Proofs Go.Own

theorem lookup_no {kd : Int} (h : inB kd 1 5 = false) (w : World) (r : Nat) (hh : w.heap[r]? = some stepsObj) :
    (Instr.lookup 62 (.map (some r)) (.int .i64 kd) true).run Try.prog w = .ok (.tuple #[.nilFunc, .bool false]) w := by
  have hi : (Try.prog.info? 68).map (fun i => i.zero) = some (some .nilFunc) := by kernel_rfl
  obtain ⟨i, hi1, hi2⟩ := Option.map_eq_some_iff.1 hi
  refine run_lookup_miss Try.underlying62 Try.underlying3 hi1 hi2 hh _ ?_
  have h1 : (kd == 1) = false := by simp [inB] at h ⊢; omega
  have h2 : (kd == 2) = false := by simp [inB] at h ⊢; omega
  have h3 : (kd == 3) = false := by simp [inB] at h ⊢; omega
  have h4 : (kd == 4) = false := by simp [inB] at h ⊢; omega
  have h5 : (kd == 5) = false := by simp [inB] at h ⊢; omega
  simp [Instr.findNow, Instr.sameNow, h1, h2, h3, h4, h5]
theorem lookup_yes {kd : Int} {i : Nat} {x : Value} (w : World) (r : Nat) (hh : w.heap[r]? = some stepsObj) (hf : Instr.findNow (.int .i64) (.int .i64 kd) [{ key := .int .i64 1, val := .func (.func 50) #[] #[], born := 0 }, { key := .int .i64 2, val := .func (.func 51) #[] #[], born := 1 }, { key := .int .i64 3, val := .func (.func 52) #[] #[], born := 2 },
  { key := .int .i64 4, val := .func (.func 53) #[] #[], born := 3 }, { key := .int .i64 5, val := .func (.func 54) #[] #[], born := 4 }] 0 = some (some (i, x))) :
    (Instr.lookup 62 (.map (some r)) (.int .i64 kd) true).run Try.prog w = .ok (.tuple #[x, .bool true]) w :=
  run_lookup_hit Try.underlying62 Try.underlying3 hh _ i x hf

theorem impl_do_no (base r : Nat) (v : Value) (xs : List Int) (kd a old new : Int) (w : World) (o1 : w.ownsRow base 3 1 v xs.length (xs.flatMap encI)) (hr : w.heap[r]? = some stepsObj) (hno : opOk xs ⟨kd, a, old, new⟩ = false) :
    Calls Try.prog 40 #[v, .agg #[.int .i64 kd, .int .i64 a, .int .i64 old, .int .i64 new], .map (some r)] w fun e w' => e = .returned (.tuple #[.int .i64 0, .bool false]) ∧ w'.ownsRow base 3 1 v xs.length (xs.flatMap encI) ∧ w.grownBy w' v.ownBlock := by
  have hcase : inB kd 1 5 = false ∨ (inB kd 1 5 = true ∧ memOk xs = false) ∨ (inB kd 1 5 = true ∧ memOk xs = true ∧ inB a 0 (xs.length - 1) = false) ∨
      (inB kd 1 5 = true ∧ memOk xs = true ∧ inB a 0 (xs.length - 1) = true ∧ ((decide (kd = 1) || isVal new) && (!decide (kd = 4) || isVal old)) = false) := by
    unfold opOk at hno
    cases h1 : memOk xs <;> cases h2 : inB kd 1 5 <;> cases h3 : inB a 0 (xs.length - 1) <;> simp_all
    exact fun h => (hno h).1
  clear hno
  have hB0 : Below w.heap.size w (w.alloc (.cells #[.int .i64 kd, .int .i64 a, .int .i64 old, .int .i64 new] 30)) := (Below.refl _ _).alloc (Nat.le_refl _) _
  have o2 := owns_below o1 hB0
  have h1 : Ints (w.alloc (.cells #[.int .i64 kd, .int .i64 a, .int .i64 old, .int .i64 new] 30)) v xs := Flat.of_owns o2
  have hG := grownBy_of_below v.ownBlock hB0
  have hr2 : (w.alloc (.cells #[.int .i64 kd, .int .i64 a, .int .i64 old, .int .i64 new] 30)).heap[r]? = some stepsObj := by rw [hB0.block r (Array.getElem?_eq_some_iff.1 hr).1]; exact hr
  obtain ⟨ad, cap, rfl, hl, hm⟩ := owns_form o1
  have hlook : inB kd 1 5 = false → (Instr.lookup 62 (.map (some r)) (.int .i64 kd) true).run Try.prog (w.alloc (.cells #[.int .i64 kd, .int .i64 a, .int .i64 old, .int .i64 new] 30)) = .ok (.tuple #[.nilFunc, .bool false]) (w.alloc (.cells #[.int .i64 kd, .int .i64 a, .int .i64 old, .int .i64 new] 30)) := fun h => lookup_no h _ r hr2
  have hlook2 : inB kd 1 5 = true → ∃ x, (Instr.lookup 62 (.map (some r)) (.int .i64 kd) true).run Try.prog (w.alloc (.cells #[.int .i64 kd, .int .i64 a, .int .i64 old, .int .i64 new] 30)) = .ok (.tuple #[x, .bool true]) (w.alloc (.cells #[.int .i64 kd, .int .i64 a, .int .i64 old, .int .i64 new] 30)) := fun h => by
    have hk : kd = 1 ∨ kd = 2 ∨ kd = 3 ∨ kd = 4 ∨ kd = 5 := by simp [inB] at h; omega
    rcases hk with rfl | rfl | rfl | rfl | rfl <;> exact ⟨_, lookup_yes _ r hr2 rfl⟩
  clear hr2
  rcases hcase with e1 | ⟨e1, e2⟩ | ⟨e1, e2, e3⟩ | ⟨e1, e2, e3, e4⟩
  · have hlk := hlook e1
    clear hlook hlook2
    go_enter Try.func40, Try.ntmps40
    go_wp2
    go_ret2
    exact ⟨rfl, o2, hG⟩
  · obtain ⟨x, hlk⟩ := hlook2 e1
    clear hlook hlook2
    go_enter Try.func40, Try.ntmps40
    go_wp2_with (first | (go_at_call 11; refine (impl_MemoryOk0 _ xs _ h1).mono ?_; rintro e w' ⟨rfl, rfl⟩) | (go_at_call 48; refine (impl_isPlace _ _ _ _ _ (by omega)).mono ?_; rintro e w' ⟨rfl, rfl⟩) | (go_at_call 49; refine (impl_namedAreValues _ _ _ _ _).mono ?_; rintro e w' ⟨rfl, bw⟩))
    go_ret2
    exact ⟨rfl, o2, hG⟩
  · obtain ⟨x, hlk⟩ := hlook2 e1
    clear hlook hlook2
    go_enter Try.func40, Try.ntmps40
    go_wp2_with (first | (go_at_call 11; refine (impl_MemoryOk0 _ xs _ h1).mono ?_; rintro e w' ⟨rfl, rfl⟩) | (go_at_call 48; refine (impl_isPlace _ _ _ _ _ (by omega)).mono ?_; rintro e w' ⟨rfl, rfl⟩) | (go_at_call 49; refine (impl_namedAreValues _ _ _ _ _).mono ?_; rintro e w' ⟨rfl, bw⟩))
    go_ret2
    exact ⟨rfl, o2, hG⟩
  · obtain ⟨x, hlk⟩ := hlook2 e1
    clear hlook hlook2
    go_enter Try.func40, Try.ntmps40
    go_wp2_with (first | (go_at_call 11; refine (impl_MemoryOk0 _ xs _ h1).mono ?_; rintro e w' ⟨rfl, rfl⟩) | (go_at_call 48; refine (impl_isPlace _ _ _ _ _ (by omega)).mono ?_; rintro e w' ⟨rfl, rfl⟩) | (go_at_call 49; refine (impl_namedAreValues _ _ _ _ _).mono ?_; rintro e w' ⟨rfl, bw⟩))
    go_ret2
    exact ⟨rfl, owns_below o2 bw, grownBy_trans hG (grownBy_of_below _ bw)⟩

theorem impl_add_y (base : Nat) (v : Value) (xs : List Int) (kd : Int) (j : Nat) (old new : Int) (w : World) (hj : j < xs.length) (o1 : w.ownsRow base 3 1 v xs.length (xs.flatMap encI)) (hb1 : -1000000000 ≤ xs[j] ∧ xs[j] ≤ 1000000000) (hb2 : -1000000000 ≤ new ∧ new ≤ 1000000000) (hv : isVal (xs[j] + new) = true) :
    Calls Try.prog 54 #[v, .agg #[.int .i64 kd, .int .i64 j, .int .i64 old, .int .i64 new]] w fun e w' => e = .returned (.tuple #[.int .i64 (xs[j] + new), .bool true]) ∧ w'.ownsRow base 3 1 v xs.length ((xs.set j (xs[j] + new)).flatMap encI) ∧ w.grownBy w' v.ownBlock := by
  have h := impl_add base v xs kd j old new w hj o1 hb1 hb2
  simp only [hv, if_true] at h
  exact h
theorem impl_add_n (base : Nat) (v : Value) (xs : List Int) (kd : Int) (j : Nat) (old new : Int) (w : World) (hj : j < xs.length) (o1 : w.ownsRow base 3 1 v xs.length (xs.flatMap encI)) (hb1 : -1000000000 ≤ xs[j] ∧ xs[j] ≤ 1000000000) (hb2 : -1000000000 ≤ new ∧ new ≤ 1000000000) (hv : isVal (xs[j] + new) = false) :
    Calls Try.prog 54 #[v, .agg #[.int .i64 kd, .int .i64 j, .int .i64 old, .int .i64 new]] w fun e w' => e = .returned (.tuple #[.int .i64 (0), .bool false]) ∧ w'.ownsRow base 3 1 v xs.length ((xs).flatMap encI) ∧ w.grownBy w' v.ownBlock := by
  have h := impl_add base v xs kd j old new w hj o1 hb1 hb2
  simp only [hv, if_false, Bool.false_eq_true] at h
  exact h

set_option maxHeartbeats 4000000 in
theorem impl_do_yes (base r : Nat) (v : Value) (xs : List Int) (kd : Int) (j : Nat) (old new : Int) (w : World) (o1 : w.ownsRow base 3 1 v xs.length (xs.flatMap encI)) (hr : w.heap[r]? = some stepsObj) (hj : j < xs.length)
    (e1 : memOk xs = true) (hkd : kd = 1 ∨ kd = 2 ∨ kd = 3 ∨ kd = 4 ∨ kd = 5) (e4 : kd = 1 ∨ isVal new = true) (e5 : kd = 4 → isVal old = true) :
    Calls Try.prog 40 #[v, .agg #[.int .i64 kd, .int .i64 j, .int .i64 old, .int .i64 new], .map (some r)] w fun e w' => e = .returned (.tuple #[.int .i64 (wordF xs ⟨kd, j, old, new⟩).2.1, .bool (wordF xs ⟨kd, j, old, new⟩).2.2]) ∧ w'.ownsRow base 3 1 v xs.length ((wordF xs ⟨kd, j, old, new⟩).1.flatMap encI) ∧ w.grownBy w' v.ownBlock := by
  have hB0 : Below w.heap.size w (w.alloc (.cells #[.int .i64 kd, .int .i64 j, .int .i64 old, .int .i64 new] 30)) := (Below.refl _ _).alloc (Nat.le_refl _) _
  have o2 := owns_below o1 hB0
  have h1 : Ints (w.alloc (.cells #[.int .i64 kd, .int .i64 j, .int .i64 old, .int .i64 new] 30)) v xs := Flat.of_owns o2
  have hG := grownBy_of_below v.ownBlock hB0
  have hr2 : (w.alloc (.cells #[.int .i64 kd, .int .i64 j, .int .i64 old, .int .i64 new] 30)).heap[r]? = some stepsObj := by rw [hB0.block r (Array.getElem?_eq_some_iff.1 hr).1]; exact hr
  obtain ⟨ad, cap, rfl, hl, hm⟩ := owns_form o1
  have hmok := hid (memOk_get e1 j hj)
  have e3 : inB (j : Int) 0 (xs.length - 1) = true := by simp [inB]; omega
  have hop : opOk xs ⟨kd, j, old, new⟩ = true := by
    simp only [opOk, e1, e3]
    rcases hkd with rfl | rfl | rfl | rfl | rfl <;> simp_all [inB]
  have hnam : ((decide (kd = 1) || isVal new) && (!decide (kd = 4) || isVal old)) = true := by
    rcases hkd with rfl | rfl | rfl | rfl | rfl <;> simp_all
  have HO := hid hop
  have HX := hid e4
  have HY := hid e5
  clear hop e4 e5 hr o1 hnam
  rcases hkd with rfl | rfl | rfl | rfl | rfl
  · have hlk := lookup_yes (kd := 1) _ r hr2 rfl
    clear hr2
    go_enter Try.func40, Try.ntmps40
    go_wp2_with (first | (go_at_call 11; refine (impl_MemoryOk0 _ xs _ h1).mono ?_; rintro e w' ⟨rfl, rfl⟩) | (go_at_call 48; refine (impl_isPlace _ _ _ _ _ (by omega)).mono ?_; rintro e w' ⟨rfl, rfl⟩) | (go_at_call 49; refine (impl_namedAreValues _ _ _ _ _).mono ?_; rintro e w' ⟨rfl, bw⟩; obtain ⟨kc, kf⟩ := bcell bw) | (go_at_call 50; refine (impl_load base _ xs 1 j old new _ hj (owns_below o2 bw)).mono ?_; rintro e w2 ⟨rfl, o3, g3⟩))
    go_ret2
    rw [wordF_1 hj HO.out]; exact ⟨rfl, o3, grownBy_trans hG (grownBy_trans (grownBy_of_below _ bw) g3)⟩
  · have hlk := lookup_yes (kd := 2) _ r hr2 rfl
    clear hr2
    have e4 : isVal new = true := by simpa using HX.out
    go_enter Try.func40, Try.ntmps40
    go_wp2_with (first | (go_at_call 11; refine (impl_MemoryOk0 _ xs _ h1).mono ?_; rintro e w' ⟨rfl, rfl⟩) | (go_at_call 48; refine (impl_isPlace _ _ _ _ _ (by omega)).mono ?_; rintro e w' ⟨rfl, rfl⟩) | (go_at_call 49; refine (impl_namedAreValues _ _ _ _ _).mono ?_; rintro e w' ⟨rfl, bw⟩; obtain ⟨kc, kf⟩ := bcell bw) | (go_at_call 51; refine (impl_store base _ xs 2 j old new _ hj (owns_below o2 bw)).mono ?_; rintro e w2 ⟨rfl, o3, g3⟩))
    go_ret2
    rw [wordF_2 hj HO.out]; exact ⟨rfl, o3, grownBy_trans hG (grownBy_trans (grownBy_of_below _ bw) g3)⟩
  · have hlk := lookup_yes (kd := 3) _ r hr2 rfl
    clear hr2
    have e4 : isVal new = true := by simpa using HX.out
    go_enter Try.func40, Try.ntmps40
    go_wp2_with (first | (go_at_call 11; refine (impl_MemoryOk0 _ xs _ h1).mono ?_; rintro e w' ⟨rfl, rfl⟩) | (go_at_call 48; refine (impl_isPlace _ _ _ _ _ (by omega)).mono ?_; rintro e w' ⟨rfl, rfl⟩) | (go_at_call 49; refine (impl_namedAreValues _ _ _ _ _).mono ?_; rintro e w' ⟨rfl, bw⟩; obtain ⟨kc, kf⟩ := bcell bw) | (go_at_call 52; refine (impl_swap base _ xs 3 j old new _ hj (owns_below o2 bw)).mono ?_; rintro e w2 ⟨rfl, o3, g3⟩))
    go_ret2
    rw [wordF_3 hj HO.out]; exact ⟨rfl, o3, grownBy_trans hG (grownBy_trans (grownBy_of_below _ bw) g3)⟩
  · have hlk := lookup_yes (kd := 4) _ r hr2 rfl
    clear hr2
    have e4 : isVal new = true := by simpa using HX.out
    have e5 : isVal old = true := by simpa using HY.out
    go_enter Try.func40, Try.ntmps40
    go_wp2_with (first | (go_at_call 11; refine (impl_MemoryOk0 _ xs _ h1).mono ?_; rintro e w' ⟨rfl, rfl⟩) | (go_at_call 48; refine (impl_isPlace _ _ _ _ _ (by omega)).mono ?_; rintro e w' ⟨rfl, rfl⟩) | (go_at_call 49; refine (impl_namedAreValues _ _ _ _ _).mono ?_; rintro e w' ⟨rfl, bw⟩; obtain ⟨kc, kf⟩ := bcell bw) | (go_at_call 53; refine (impl_swapIf base _ xs 4 j old new _ hj (owns_below o2 bw)).mono ?_; rintro e w2 ⟨rfl, o3, g3⟩))
    go_ret2
    by_cases he : xs[j] = old
    · rw [wordF_4y hj HO.out he]; rw [if_pos he] at o3; exact ⟨rfl, o3, grownBy_trans hG (grownBy_trans (grownBy_of_below _ bw) g3)⟩
    · rw [wordF_4n hj HO.out he]; rw [if_neg he] at o3; exact ⟨rfl, o3, grownBy_trans hG (grownBy_trans (grownBy_of_below _ bw) g3)⟩
  · have hlk := lookup_yes (kd := 5) _ r hr2 rfl
    clear hr2
    have e4 : isVal new = true := by simpa using HX.out
    have hb2 := hid (isVal_iff (x := new) (by simpa using HX.out))
    rcases bool_cases (isVal (xs[j] + new)) with hv | hv
    · go_enter Try.func40, Try.ntmps40
      go_wp2_with (first | (go_at_call 11; refine (impl_MemoryOk0 _ xs _ h1).mono ?_; rintro e w' ⟨rfl, rfl⟩) | (go_at_call 48; refine (impl_isPlace _ _ _ _ _ (by omega)).mono ?_; rintro e w' ⟨rfl, rfl⟩) | (go_at_call 49; refine (impl_namedAreValues _ _ _ _ _).mono ?_; rintro e w' ⟨rfl, bw⟩; obtain ⟨kc, kf⟩ := bcell bw) | (go_at_call 54; refine (impl_add_y base _ xs 5 j old new _ hj (owns_below o2 bw) hmok.out hb2.out hv.out).mono ?_; rintro e w2 ⟨rfl, o3, g3⟩))
      go_ret2
      rw [wordF_5y hj HO.out hv.out]; exact ⟨rfl, o3, grownBy_trans hG (grownBy_trans (grownBy_of_below _ bw) g3)⟩
    · go_enter Try.func40, Try.ntmps40
      go_wp2_with (first | (go_at_call 11; refine (impl_MemoryOk0 _ xs _ h1).mono ?_; rintro e w' ⟨rfl, rfl⟩) | (go_at_call 48; refine (impl_isPlace _ _ _ _ _ (by omega)).mono ?_; rintro e w' ⟨rfl, rfl⟩) | (go_at_call 49; refine (impl_namedAreValues _ _ _ _ _).mono ?_; rintro e w' ⟨rfl, bw⟩; obtain ⟨kc, kf⟩ := bcell bw) | (go_at_call 54; refine (impl_add_n base _ xs 5 j old new _ hj (owns_below o2 bw) hmok.out hb2.out hv.out).mono ?_; rintro e w2 ⟨rfl, o3, g3⟩))
      go_ret2
      rw [wordF_5n hj HO.out hv.out]; exact ⟨rfl, o3, grownBy_trans hG (grownBy_trans (grownBy_of_below _ bw) g3)⟩

theorem impl_do (base r : Nat) (v : Value) (xs : List Int) (o : WordOp) (w : World) (o1 : w.ownsRow base 3 1 v xs.length (xs.flatMap encI)) (hr : w.heap[r]? = some stepsObj) :
    Calls Try.prog 40 #[v, o.val, .map (some r)] w fun e w' => e = .returned (.tuple #[.int .i64 (wordF xs o).2.1, .bool (wordF xs o).2.2]) ∧ w'.ownsRow base 3 1 v xs.length ((wordF xs o).1.flatMap encI) ∧ w.grownBy w' v.ownBlock := by
  cases hok : opOk xs o with
  | false =>
    rw [wordF_no xs o hok]
    exact impl_do_no base r v xs o.kind_ o.at_ o.old_ o.new_ w o1 hr hok
  | true =>
    obtain ⟨kd, a, old, new⟩ := o
    obtain ⟨j, rfl, hj, e1, hkd, e4, e5⟩ := opOk_yes hok
    exact impl_do_yes base r v xs kd j old new w o1 hr hj e1 hkd e4 e5
theorem keepBox4 {N : Nat} {W0 w1 w2 : World} {a0 a1 a2 a3 : Value} {b0 o0 b1 o1 b2 o2 b3 o3 : Nat} (hb : b0 < N ∧ b1 < N ∧ b2 < N ∧ b3 < N) (h : Below N W0 w1 ∧ N ≤ w1.heap.size ∧ w1.cell? ⟨b0, o0, none⟩ = some a0 ∧ w1.cell? ⟨b1, o1, none⟩ = some a1 ∧ w1.cell? ⟨b2, o2, none⟩ = some a2 ∧ w1.cell? ⟨b3, o3, none⟩ = some a3) (hB : Below w1.heap.size w1 w2) :
    Below N W0 w2 ∧ N ≤ w2.heap.size ∧ w2.cell? ⟨b0, o0, none⟩ = some a0 ∧ w2.cell? ⟨b1, o1, none⟩ = some a1 ∧ w2.cell? ⟨b2, o2, none⟩ = some a2 ∧ w2.cell? ⟨b3, o3, none⟩ = some a3 := by
  obtain ⟨h1, h2, h_0, h_1, h_2, h_3⟩ := h
  have hk : ∀ b o, b < N → w2.cell? ⟨b, o, none⟩ = w1.cell? ⟨b, o, none⟩ := fun b o hb => hB.cell (p := ⟨b, o, none⟩) (by show b < _; omega)
  exact ⟨h1.trans (hB.mono h2), Nat.le_trans h2 hB.size, by rw [hk _ _ (by omega)]; exact h_0, by rw [hk _ _ (by omega)]; exact h_1, by rw [hk _ _ (by omega)]; exact h_2, by rw [hk _ _ (by omega)]; exact h_3⟩
theorem keepBoxM4 {N : Nat} {W0 w1 w2 : World} {a0 a1 a2 a3 : Value} {b0 o0 b1 o1 b2 o2 b3 o3 : Nat} (hb : b0 < N ∧ b1 < N ∧ b2 < N ∧ b3 < N) (h : Below N W0 w1 ∧ N ≤ w1.heap.size ∧ w1.cell? ⟨b0, o0, none⟩ = some a0 ∧ w1.cell? ⟨b1, o1, none⟩ = some a1 ∧ w1.cell? ⟨b2, o2, none⟩ = some a2 ∧ w1.cell? ⟨b3, o3, none⟩ = some a3) (hB : Below N w1 w2) :
    Below N W0 w2 ∧ N ≤ w2.heap.size ∧ w2.cell? ⟨b0, o0, none⟩ = some a0 ∧ w2.cell? ⟨b1, o1, none⟩ = some a1 ∧ w2.cell? ⟨b2, o2, none⟩ = some a2 ∧ w2.cell? ⟨b3, o3, none⟩ = some a3 := by
  obtain ⟨h1, h2, h_0, h_1, h_2, h_3⟩ := h
  have hk : ∀ b o, b < N → w2.cell? ⟨b, o, none⟩ = w1.cell? ⟨b, o, none⟩ := fun b o hb => hB.cell (p := ⟨b, o, none⟩) hb
  exact ⟨h1.trans hB, Nat.le_trans h2 hB.size, by rw [hk _ _ (by omega)]; exact h_0, by rw [hk _ _ (by omega)]; exact h_1, by rw [hk _ _ (by omega)]; exact h_2, by rw [hk _ _ (by omega)]; exact h_3⟩

theorem impl_wordSteps1 (w : World) :
    Calls Try.prog 41 #[] w fun e w' => ∃ r, e = .returned (.map (some r)) ∧ w'.heap[r]? = some stepsObj ∧ Below w.heap.size w w' :=
  (impl_wordSteps w).mono fun _ _ ⟨h1, h2⟩ => ⟨_, h1, by rw [h2]; exact heap_alloc_new w _, by rw [h2]; exact (Below.refl _ _).alloc (Nat.le_refl _) _⟩

theorem impl_Word (v : Value) (xs : List Int) (o : WordOp) (w : World) (h : Ints w v xs) (hx : xs.length ≤ 1048576) :
    Calls Try.prog 15 #[v, o.val] w fun e w' => ∃ v', e = .returned (.tuple #[v', .int .i64 (wordF xs o).2.1, .bool (wordF xs o).2.2]) ∧ w'.ownsRow w.heap.size 3 1 v' (wordF xs o).1.length ((wordF xs o).1.flatMap encI) ∧ (wordF xs o).1.length ≤ 1099511627776 ∧ Below w.heap.size w w' := by
  obtain ⟨W, hW⟩ : ∃ X, w.alloc (.cells #[Value.int .i64 o.kind_, Value.int .i64 o.at_, Value.int .i64 o.old_, Value.int .i64 o.new_] 30) = X := ⟨_, rfl⟩
  have hB0 : Below w.heap.size w W := by rw [← hW]; exact (Below.refl _ _).alloc (Nat.le_refl _) _
  have hN : w.heap.size + 1 = W.heap.size := by rw [← hW]; simp
  have c0 : W.cell? ⟨w.heap.size, 0, none⟩ = some (.int .i64 o.kind_) := by rw [← hW]; simp
  have c1 : W.cell? ⟨w.heap.size, 1, none⟩ = some (.int .i64 o.at_) := by rw [← hW]; simp
  have c2 : W.cell? ⟨w.heap.size, 2, none⟩ = some (.int .i64 o.old_) := by rw [← hW]; simp
  have c3 : W.cell? ⟨w.heap.size, 3, none⟩ = some (.int .i64 o.new_) := by rw [← hW]; simp
  have h0 := Flat.below h hB0
  have hlen := wordF_len xs o
  obtain ⟨ad, cap, hv, hl, hm⟩ := Flat.form h
  subst hv
  unfold WordOp.val
  go_enter Try.func15, Try.ntmps15
  go_wp2_with fail
  clear hW
  refine (impl_copyCells _ xs _ h0 hx).mono ?_
  rintro e w1 ⟨v1, rfl, o1, b1⟩
  have hk : ∀ o, w1.cell? ⟨w.heap.size, o, none⟩ = W.cell? ⟨w.heap.size, o, none⟩ := fun o => b1.cell (p := ⟨w.heap.size, o, none⟩) (by show w.heap.size < _; omega)
  rw [← hk] at c0 c1 c2 c3
  clear hk
  have hB1 := hB0.trans (b1.mono (by omega))
  have hs1 := b1.size
  have HL := hid hlen
  clear hlen
  go_wp2_with fail
  go_region_held3 (fun w' => Below W.heap.size W w' ∧ W.heap.size ≤ w'.heap.size ∧ w'.cell? ⟨w.heap.size, 0, none⟩ = some (.int .i64 o.kind_) ∧ w'.cell? ⟨w.heap.size, 1, none⟩ = some (.int .i64 o.at_) ∧ w'.cell? ⟨w.heap.size, 2, none⟩ = some (.int .i64 o.old_) ∧ w'.cell? ⟨w.heap.size, 3, none⟩ = some (.int .i64 o.new_))
    (first | exact ⟨b1.drew, hs1, c0, c1, c2, c3⟩ | exact keepBox4 (by omega) ‹_› ‹_› | exact keepBoxM4 (by omega) ‹_› ‹_›)
    (first
      | (go_at_call 41; refine (impl_wordSteps1 _).mono ?_; rintro e w2 ⟨r, rfl, hr, b2⟩)
      | (go_at_call 40; refine (impl_do W.heap.size r _ xs o _ (owns_below (w := w1.drew) o1 b2) hr).mono ?_; rintro e w3 ⟨rfl, o3, g3⟩; have b3 := below_of_mark (N := W.heap.size) (owns_below (w := w1.drew) o1 b2) g3 (Nat.le_refl _) (Nat.le_trans hs1 b2.size)))
  have hW3 : Below W.heap.size W w3 := And.left ‹_›
  go_wp2
  go_ret3
  exact ⟨_, rfl, owns_mono (by rw [HL.out]; exact o3) (by omega), by rw [HL.out]; omega, hB0.trans (hW3.mono (by omega))⟩
end Go.Proofs.Ytfhkngmankmehaa
