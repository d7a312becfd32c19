/- Chapter 9's model: Touches. -/
import Derived.Test.YtjcaagkppalndaaS9
namespace Go.Proofs.Ytjcaagkppalndaa
set_option maxRecDepth 100000
open Go.RowKit Go.Proofs Go.Own
set_option linter.unusedVariables false
set_option linter.unusedSimpArgs false
theorem encI_snoc (xs : List Int) (x : Int) : (xs ++ [x]).flatMap encI = xs.flatMap encI ++ [.int .i64 x] := by simp [encI]
theorem infoInt5 : (Try.prog.info? 3).map (fun i => (i.zero, i.size, i.bytes)) = some (some (.int .i64 0), 1, 8) := by kernel_rfl
theorem names_of (op a b : Int) (e : Instr) (o : Int) (h0 : e.op_ = op) (h1 : e.a_ = a) (h2 : e.b_ = b) : names e o = ((op == 1 && b == o) || (op == 2 && a == o)) := by subst h0 h1 h2; rfl
set_option maxHeartbeats 8000000 in
theorem spec_Touches0 (v : Value) (xs : List Instr) (w : World) (h : Instrs w v xs) :
    Calls Try.prog 11 #[v] w fun e w' => ∃ v' : Value, e = .returned (.tuple #[v', .bool (progOk xs)]) ∧ w'.ownsRow w.heap.size 3 1 v' (touchL xs).length ((touchL xs).flatMap encI) ∧ Below w.heap.size w w' := by
  obtain ⟨i0, hi, hz0, hz1, hz2⟩ := info_parts infoInt5
  have h0 := hid h
  obtain ⟨ad, cap, rfl, hl, hm, hc⟩ := h.open
  clear h
  have hlen : xs.length ≤ 9223372036854775807 := by omega
  obtain ⟨W1, hW1⟩ : ∃ X, w.alloc (.cells #[] 3) = X := ⟨_, rfl⟩
  have hB1 : Below w.heap.size w W1 := by rw [← hW1]; exact (Below.refl _ _).alloc (Nat.le_refl _) _
  have o1 : W1.ownsRow w.heap.size 3 1 (.slice (some ⟨w.heap.size, 0, none⟩) 0 0) 0 [] := by rw [← hW1]; exact World.ownsRow_made _ _ _ (Nat.le_refl _) (by decide) rfl
  have HC := hid hc
  have HW1 := hid hW1
  clear hc hW1
  cases hok : progOk xs with
  | false =>
    have HT := hid (show touchL xs = [] by unfold touchL; rw [hok]; rfl)
    go_enter Try.func11, Try.ntmps11
    go_wp2_with fail
    rw [HW1.out]
    refine (spec_ProgOk _ xs _ (Flat.below h0.out hB1)).mono ?_
    rintro e w' ⟨rfl, b2⟩
    rw [hok]
    have o2 := owns_below o1 b2
    have hB2 := hB1.trans (b2.mono hB1.size)
    go_wp2
    go_ret2
    exact ⟨_, rfl, by rw [HT.out]; exact o2, hB2⟩
  | true =>
    have HT := hid (show touchL xs = touchTo xs 8 by unfold touchL; rw [hok]; rfl)
    go_enter Try.func11, Try.ntmps11
    go_wp2_with fail
    rw [HW1.out]
    refine (spec_ProgOk _ xs _ (Flat.below h0.out hB1)).mono ?_
    rintro e w' ⟨rfl, b2⟩
    rw [hok]
    have o2 := owns_below o1 b2
    have hB2 := hB1.trans (b2.mono hB1.size)
    clear o1 b2 hB1 HW1
    go_wp2
    go_loopw [4, 5] (fun s i wr => ∃ (k : Nat), k ≤ 8 ∧ i = .int .i64 k ∧ wr.ownsRow w.heap.size 3 1 s (touchTo xs k).length ((touchTo xs k).flatMap encI) ∧ Below w.heap.size w wr) (fun _ i _ => 8 - (intOf i).toNat)
    case atStart => exact ⟨0, by omega, rfl, by simpa [touchTo] using o2, hB2⟩
    case round =>
      clear o2 hB2
      obtain ⟨k, hk, rfl, o, hB⟩ := hrel
      have hle := touchTo_len xs k
      by_cases hlt : (k : Int) < 8
      · have hs := touchTo_succ xs k
        go_wp2
        go_loopw [6, 7] (fun q i wq => wq = wr ∧ ∃ m : Nat, m ≤ xs.length ∧ i = .int .i64 m ∧ q = .bool (namedAt xs k m)) (fun _ i _ => xs.length - (intOf i).toNat)
        case atStart => exact ⟨rfl, 0, by omega, rfl, rfl⟩
        case round =>
          obtain ⟨rfl, m, hm2, rfl, rfl⟩ := hrel
          by_cases hlt2 : m < xs.length
          · obtain ⟨bb, off, rfl, hbs, c0, c1, c2⟩ := HC.out m hlt2
            obtain ⟨e0, e1, e2⟩ := cells3 hB hbs c0 c1 c2
            have hst := hid (namedAt_succ xs k m hlt2)
            clear c0 c1 c2 HC o
            generalize hq : namedAt xs k m = q at *
            obtain ⟨op, hop⟩ : ∃ x, xs[m].op_ = x := ⟨_, rfl⟩
            obtain ⟨ia, hia⟩ : ∃ x, xs[m].a_ = x := ⟨_, rfl⟩
            obtain ⟨ib, hib⟩ : ∃ x, xs[m].b_ = x := ⟨_, rfl⟩
            rw [hop] at e0
            rw [hia] at e1
            rw [hib] at e2
            have hnm := hid (names_of op ia ib xs[m] k hop hia hib)
            clear hop hia hib hq
            go_wp2
            all_goals refine ⟨⟨trivial, m+1, by omega, by go_num, ?_⟩, by simp [intOf]; omega⟩
            all_goals rw [hst.out, hnm.out]
            all_goals simp_all
          · obtain rfl : m = xs.length := by omega
            clear HC
            have hn : namedAt xs k xs.length = named xs k := rfl
            rw [hn]
            clear hn
            cases hN : named xs k with
            | false =>
              rw [hN] at hs
              go_wp2
              go_roundw
              case rel => exact ⟨k+1, by omega, by go_num, by rw [hs]; simpa using o, hB⟩
              case measure => simp [intOf]; omega
            | true =>
              rw [hN] at hs
              have oA := World.ownsRow.alloc o (.cells #[.int .i64 (k : Int)] 3)
              have hsz := hB.size
              go_wp2_with (at_builtin; refine wpList_append_flat rfl _ _ 29 rfl w.heap.size 3 i0 (.int .i64 0) 1 8 Try.underlying29 hi hz0 hz1 hz2 rfl (by decide) _ _ _ rfl oA _ 1 [.int .i64 (k : Int)] rfl (Flat.of_owns (owns_lit1 wr 3 (.int .i64 (k : Int)) 0 (Nat.zero_le _))) (by intro c hc; simp at hc; subst hc; rfl) (by unfold maxLen; omega) (by omega) (by simp; omega) ?_)
              intro v2 w2 o2 g2
              have b2 := below_of_mark oA g2 (Nat.le_refl _) (by simp; omega)
              have hB2 : Below w.heap.size w w2 := Below.trans (hB.alloc hsz _) b2
              go_wp2
              go_roundw
              case rel => exact ⟨k+1, by omega, by go_num, by rw [hs, if_pos trivial, encI_snoc, List.length_append]; exact o2, hB2⟩
              case measure => simp [intOf]; omega
      · obtain rfl : k = 8 := by omega
        go_wp2
        go_ret2
        exact ⟨_, rfl, by rw [HT.out]; exact o, hB⟩
end Go.Proofs.Ytjcaagkppalndaa
