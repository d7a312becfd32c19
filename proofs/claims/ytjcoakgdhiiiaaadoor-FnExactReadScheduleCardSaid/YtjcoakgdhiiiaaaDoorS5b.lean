/- Chapter 5's model: Steps. -/
import Derived.Test.YtjcoakgdhiiiaaaDoorS5
import Derived.Test.YtjcoakgdhiiiaaaDoorBx
namespace Go.Proofs.YtjcoakgdhiiiaaaDoor
set_option maxRecDepth 100000
open Go.RowKit Go.Proofs Go.Own
set_option linter.unusedVariables false
set_option linter.unusedSimpArgs false
theorem okFrom_get : ∀ (xs : List Run) (s : Int), okFrom xs s = true → ∀ k, (hk : k < xs.length) → runOk xs[k] = true
  | [], _, _, k, hk => by simp at hk
  | r :: rs, s, h, k, hk => by
    unfold okFrom at h
    split at h
    · split at h
      · match k, hk with
        | 0, _ => assumption
        | j+1, hk => exact okFrom_get rs _ h j (by simpa using hk)
      · cases h
    · cases h
theorem runOk_many {r : Run} (h : runOk r = true) : 1 ≤ r.many_ ∧ r.many_ ≤ 500 := by
  simp [runOk, inB] at h; omega
theorem steps_take {xs : List Run} {k : Nat} (h : k < xs.length) : stepsOf (xs.take (k+1)) = stepsOf (xs.take k) ++ List.replicate xs[k].many_.toNat xs[k].thread_ := by
  unfold stepsOf
  rw [List.take_succ_eq_append_getElem h, List.flatMap_append]
  simp
theorem encI_snoc (xs : List Int) (x : Int) : (xs ++ [x]).flatMap encI = xs.flatMap encI ++ [.int .i64 x] := by simp [encI]
theorem infoInt5 : (Tryd.prog.info? 3).map (fun i => (i.zero, i.size, i.bytes)) = some (some (.int .i64 0), 1, 8) := by kernel_rfl
end Go.Proofs.YtjcoakgdhiiiaaaDoor
