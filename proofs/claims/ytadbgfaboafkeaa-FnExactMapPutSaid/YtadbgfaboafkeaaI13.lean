/- Chapter 13's program: a node, a place, the iterator of a chain. -/
import Derived.Test.YtadbgfaboafkeaaF13b
import Derived.Test.YtadbgfaboafkeaaOv
import Derived.Test.YtadbgfaboafkeaaS13
namespace Go.Proofs.Ytadbgfaboafkeaa
set_option maxRecDepth 100000
open Go.RowKit Go.Proofs Go.Own Go.Shelf
open Go Go.BigFrame
set_option linter.unusedVariables false
set_option linter.unusedSimpArgs false
theorem impl_isLink (x : Int) (w : World) :
    Calls Try.prog 32 #[.int .i64 x] w fun e w' => e = .returned (.bool (inB x (-1) 15)) ∧ w = w' := by
  by_cases h1 : x = -1
  · subst h1
    go_enter Try.func32, Try.ntmps32
    go_wp2
    go_ret
    exact ⟨rfl, rfl⟩
  · have hx1 : (x == -1) = false := by rw [beq_eq_false_iff_ne]; exact h1
    by_cases h2 : (0 : Int) ≤ x
    · by_cases h3 : x < 16
      · go_enter Try.func32, Try.ntmps32
        go_wp2
        go_ret
        exact ⟨ret_bool (by simp [inB, hx1]; omega), rfl⟩
      · go_enter Try.func32, Try.ntmps32
        go_wp2
        go_ret
        exact ⟨ret_bool (by simp [inB, hx1]; omega), rfl⟩
    · go_enter Try.func32, Try.ntmps32
      go_wp2
      go_ret
      exact ⟨ret_bool (by simp [inB, hx1]; omega), rfl⟩
theorem impl_isLinkIs (x : Int) (r : Bool) (w : World) (e : inB x (-1) 15 = r) :
    Calls Try.prog 32 #[.int .i64 x] w fun e w' => e = .returned (.bool r) ∧ w = w' := by subst e; exact impl_isLink x w
theorem impl_isValueIs (x : Int) (r : Bool) (w : World) (e : isVal x = r) :
    Calls Try.prog 37 #[.int .i64 x] w fun e w' => e = .returned (.bool r) ∧ w = w' := by
  subst e
  go_enter Try.func37, Try.ntmps37
  go_wp2
  all_goals go_ret
  all_goals exact ⟨ret_bool (by simp_all [isVal, inB] <;> omega), rfl⟩
set_option maxHeartbeats 2000000 in
theorem impl_nodeOk (u : Bool) (k v n : Int) (w : World) :
    Calls Try.prog 33 #[.agg #[.bool u, .int .i64 k, .int .i64 v, .int .i64 n]] w fun e w' => e = .returned (.bool (nodeOkI ⟨u, k, v, n⟩)) ∧ Below w.heap.size w w' := by
  have hm : Try.prog.eqGuardType Try.prog.depth 28 = false := by kernel_rfl
  have hq := fun (k v n : Int) (W : World) => eqNode_run k v n W
  have hB1 : Below w.heap.size w (w.alloc (.cells #[.bool u, .int .i64 k, .int .i64 v, .int .i64 n] 28)) := (Below.refl _ _).alloc (Nat.le_refl _) _
  cases u with
  | false =>
    have Hr := hid (show nodeOkI ⟨false, k, v, n⟩ = nodeFree ⟨false, k, v, n⟩ from rfl)
    have hq1 := hq k v n
    clear hq
    cases hf : nodeFree ⟨false, k, v, n⟩ with
    | false =>
      rw [hf] at hq1
      go_enter Try.func33, Try.ntmps33
      go_wp2
      go_ret
      exact ⟨by rw [Hr.out, hf]; rfl, hB1⟩
    | true =>
      rw [hf] at hq1
      go_enter Try.func33, Try.ntmps33
      go_wp2
      go_ret
      exact ⟨by rw [Hr.out, hf]; rfl, hB1⟩
  | true =>
    clear hm hq
    have Hr := hid (show nodeOkI ⟨true, k, v, n⟩ = (isVal k && isVal v && inB n (-1) 15) from rfl)
    cases hk : isVal k with
    | false =>
      go_enter Try.func33, Try.ntmps33
      go_wp2_with (go_at_call 37; refine (impl_isValueIs k _ _ hk).mono ?_; rintro e w' ⟨rfl, rfl⟩)
      go_ret
      exact ⟨by rw [Hr.out, hk]; rfl, hB1⟩
    | true =>
    cases hv : isVal v with
    | false =>
      go_enter Try.func33, Try.ntmps33
      go_wp2_with (go_at_call 37; refine (impl_isValueIs _ _ _ (by assumption)).mono ?_; rintro e w' ⟨rfl, rfl⟩)
      go_ret
      exact ⟨by rw [Hr.out, hk, hv]; rfl, hB1⟩
    | true =>
      go_enter Try.func33, Try.ntmps33
      go_wp2_with (first | (go_at_call 37; refine (impl_isValueIs _ _ _ (by assumption)).mono ?_; rintro e w' ⟨rfl, rfl⟩) | (go_at_call 32; refine (impl_isLink n _).mono ?_; rintro e w' ⟨rfl, rfl⟩))
      go_ret
      exact ⟨by rw [Hr.out, hk, hv]; rfl, hB1⟩
theorem impl_nodes (ce : List Value) (hl : ce.length = 65) (w : World) :
    Calls Try.prog 34 #[.agg ce.toArray] w fun e w' => e = .returned (.func (.func 42) #[] #[.pointer (some ⟨w.heap.size, 0, none⟩)]) ∧ w' = w.alloc (.cells ce.toArray 31) := by
  have hl2 : ce.toArray.size = 65 := by rw [List.size_toArray, hl]
  go_enter Try.func34, Try.ntmps34
  go_wp2
  go_ret
  exact ⟨rfl, rfl⟩
end Go.Proofs.Ytadbgfaboafkeaa
