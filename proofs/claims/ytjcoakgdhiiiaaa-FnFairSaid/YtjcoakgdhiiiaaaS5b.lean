/- Chapter 5's model: Steps. -/
import Derived.Test.YtjcoakgdhiiiaaaS5
import Derived.Test.YtjcoakgdhiiiaaaBx
namespace Go.Proofs.Ytjcoakgdhiiiaaa
set_option maxRecDepth 100000
open Go.RowKit Go.Proofs Go.Own
set_option linter.unusedVariables false
set_option linter.unusedSimpArgs false
theorem okFrom_get : ∀ (xs : List Run) (s : Int), okFrom xs s = true → ∀ k, (hk : k < xs.length) → runOk xs[k] = true
  | [], _, _, k, hk => by simp at hk
  | r :: rs, s, h, k, hk => by
    unfold okFrom at h
    split at h
    · split at h
      · match k, hk with
        | 0, _ => assumption
        | j+1, hk => exact okFrom_get rs _ h j (by simpa using hk)
      · cases h
    · cases h
theorem runOk_many {r : Run} (h : runOk r = true) : 1 ≤ r.many_ ∧ r.many_ ≤ 500 := by
  simp [runOk, inB] at h; omega
theorem steps_take {xs : List Run} {k : Nat} (h : k < xs.length) : stepsOf (xs.take (k+1)) = stepsOf (xs.take k) ++ List.replicate xs[k].many_.toNat xs[k].thread_ := by
  unfold stepsOf
  rw [List.take_succ_eq_append_getElem h, List.flatMap_append]
  simp
theorem encI_snoc (xs : List Int) (x : Int) : (xs ++ [x]).flatMap encI = xs.flatMap encI ++ [.int .i64 x] := by simp [encI]
theorem infoInt5 : (Try.prog.info? 3).map (fun i => (i.zero, i.size, i.bytes)) = some (some (.int .i64 0), 1, 8) := by kernel_rfl
set_option maxHeartbeats 8000000 in
theorem spec_Steps0 (v : Value) (xs : List Run) (w : World) (h : Runs w v xs) (hx : xs.length ≤ 1048576) :
    Calls Try.prog 21 #[v] w fun e w' => ∃ v' : Value, e = .returned (.tuple #[v', .bool (schedOk xs)]) ∧ w'.ownsRow w.heap.size 3 1 v' (if schedOk xs = true then stepsOf xs else []).length ((if schedOk xs = true then stepsOf xs else []).flatMap encI) ∧ Below w.heap.size w w' := by
  obtain ⟨i0, hi, hz0, hz1, hz2⟩ := info_parts infoInt5
  have h0 := h
  obtain ⟨ad, cap, rfl, hl, hm, hc⟩ := h.open
  clear h
  have hlen : xs.length ≤ 9223372036854775807 := by omega
  obtain ⟨W1, hW1⟩ : ∃ X, w.alloc (.cells #[] 3) = X := ⟨_, rfl⟩
  have hB1 : Below w.heap.size w W1 := by rw [← hW1]; exact (Below.refl _ _).alloc (Nat.le_refl _) _
  have o1 : W1.ownsRow w.heap.size 3 1 (.slice (some ⟨w.heap.size, 0, none⟩) 0 0) 0 [] := by rw [← hW1]; exact World.ownsRow_made _ _ _ (Nat.le_refl _) (by decide) rfl
  have HC := hid hc
  clear hc
  cases hok : schedOk xs with
  | false =>
    go_enter Try.func21, Try.ntmps21
    go_wp2_with fail
    refine (spec_ScheduleOk _ xs _ (Flat.below h0 hB1) hx).mono ?_
    rintro e w' ⟨rfl, rfl⟩
    go_wp2
    go_ret2
    exact ⟨_, rfl, o1, hB1⟩
  | true =>
    have hl60 : xs.length ≤ 60 := by unfold schedOk at hok; simp at hok; exact hok.1
    have hget := hid (okFrom_get xs 0 (by unfold schedOk at hok; simp at hok; exact hok.2))
    go_enter Try.func21, Try.ntmps21
    go_wp2_with fail
    refine (spec_ScheduleOk _ xs _ (Flat.below h0 hB1) hx).mono ?_
    rintro e w' ⟨rfl, rfl⟩
    clear hW1
    go_wp2
    go_loopw [4, 5] (fun s i wr => ∃ (k : Nat), k ≤ xs.length ∧ i = .int .i64 k ∧ (stepsOf (xs.take k)).length ≤ 500 * k ∧ wr.ownsRow w.heap.size 3 1 s (stepsOf (xs.take k)).length ((stepsOf (xs.take k)).flatMap encI) ∧ Below w.heap.size w wr) (fun _ i _ => xs.length - (intOf i).toNat)
    case atStart => exact ⟨0, by omega, rfl, by simp [stepsOf], by simpa [stepsOf] using o1, hB1⟩
    case round =>
      clear o1 hB1
      obtain ⟨k, hk, rfl, hle, o, hB⟩ := hrel
      by_cases hlt : k < xs.length
      · have hr := runOk_many (hget.out k hlt)
        have m1 := hr.1
        have m2 := hr.2
        clear hr
        obtain ⟨M, hM⟩ := Int.eq_ofNat_of_zero_le (by omega : 0 ≤ xs[k].many_)
        obtain ⟨bb, off, rfl, hbs, c0, c1⟩ := HC.out k hlt
        obtain ⟨W9, hW9⟩ : ∃ X, X = wr := ⟨_, rfl⟩
        subst hW9
        have hM5 : M ≤ 500 := by omega
        go_wp2
        go_loopw [4, 6] (fun s i wr => ∃ j : Nat, j ≤ M ∧ i = .int .i64 j ∧ wr.ownsRow w.heap.size 3 1 s ((stepsOf (xs.take k)).length + j) ((stepsOf (xs.take k) ++ List.replicate j xs[k].thread_).flatMap encI) ∧ Below w.heap.size w wr) (fun _ i _ => M - (intOf i).toNat)
        case atStart => exact ⟨0, by omega, rfl, by simpa using o, hB⟩
        case round =>
          clear o hB
          obtain ⟨j, hj, rfl, o, hB⟩ := hrel
          have e0 := (hB.cell (p := ⟨bb, off + k * 2, none⟩) hbs).trans c0
          have e1 := (hB.cell (p := ⟨bb, off + k * 2 + 1, none⟩) hbs).trans c1
          rw [hM] at e1
          clear c0 c1
          by_cases hj2 : j < M
          · have hj3 : (j : Int) < (M : Int) := by omega
            have oA := World.ownsRow.alloc o (.cells #[.int .i64 xs[k].thread_] 3)
            have hs := hB.size
            clear HC
            go_wp2_with (at_builtin; refine wpList_append_flat rfl _ _ 24 rfl w.heap.size 3 i0 (.int .i64 0) 1 8 Try.underlying24 hi hz0 hz1 hz2 rfl (by decide) _ _ _ rfl oA _ 1 [.int .i64 xs[k].thread_] rfl (Flat.of_owns (owns_lit1 wr 3 (.int .i64 xs[k].thread_) 0 (Nat.zero_le _))) (by intro c hc; simp at hc; subst hc; rfl) (by unfold maxLen; omega) (by omega) (by simp; omega) ?_)
            intro v2 w2 o2 g2
            have b2 := below_of_mark oA g2 (Nat.le_refl _) (by simp; omega)
            have hB2 : Below w.heap.size w w2 := Below.trans (hB.alloc hs _) b2
            go_wp2
            go_roundw
            case rel => exact ⟨j+1, by omega, by go_num, by rw [List.replicate_succ', ← List.append_assoc, encI_snoc, List.flatMap_append, List.append_assoc]; exact o2, hB2⟩
            case measure => simp [intOf]; omega
          · obtain rfl : j = M := by omega
            go_wp2
            go_roundw
            case rel => exact ⟨k+1, by omega, by go_num, by rw [steps_take hlt, hM]; simp; omega, by rw [steps_take hlt, hM]; simpa using o, hB⟩
            case measure => simp [intOf]; omega
      · have hT : stepsOf (xs.take k) = stepsOf xs := by rw [List.take_of_length_le (by omega)]
        rw [hT] at o
        go_wp2
        go_ret2
        exact ⟨_, rfl, by simpa using o, hB⟩
end Go.Proofs.Ytjcoakgdhiiiaaa
