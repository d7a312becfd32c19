/- Chapter 16: SetJoin's contracts as the law's walk takes them. -/
import Derived.Test.YtdgmbcmgjadoiaaI16h
import Derived.Test.YtdgmbcmgjadoiaaS16f
namespace Go.Proofs.Ytdgmbcmgjadoiaa
set_option maxRecDepth 100000
open Go.RowKit Go.Proofs Go.Own
set_option linter.unusedVariables false
theorem joinTo_B : ∀ (xs : List Int) (s t : List RowD), s.length ≤ 8 → joinTo s xs = some t → t.length ≤ 8 ∧ (allL t).length ≤ (allL s).length + xs.length
  | [], s, t, h8, h => by obtain rfl := Option.some.inj h; exact ⟨h8, by simp⟩
  | x :: xs, s, t, h8, h => by
    obtain ⟨h1, h2⟩ := add_bound s x h8
    by_cases h3 : (addC s x).2 = 3
    · rw [joinTo_full h3] at h; cases h
    · rw [joinTo_next h3] at h
      obtain ⟨h4, h5⟩ := joinTo_B xs _ t h1 h
      exact ⟨h4, by rw [List.length_cons]; omega⟩
theorem joinC_B (a b : List RowD) (ha : IntSSB a) : IntSSB (joinC a b).1 := by
  obtain ⟨r, hr⟩ : ∃ r, (setOk a && setOk b) = r := ⟨_, rfl⟩
  cases r with
  | false => rw [join_bad hr]; exact ha
  | true =>
    rw [Bool.and_eq_true] at hr
    have h8 := setOk_pos hr.1
    have hN := ok_all hr.1
    have hL := listC_len b
    have hM := ok_all hr.2
    have hr' : (setOk a && setOk b) = true := by rw [Bool.and_eq_true]; exact hr
    cases hj : joinTo a (listC b) with
    | none => rw [join_full hr' hj]; exact ha
    | some t =>
      rw [join_done hr' hj]
      obtain ⟨h4, h5⟩ := joinTo_B _ a t h8.2 hj
      exact intSSB_of h4 (by dsimp only; omega)
theorem spec_SetJoinW (a : List RowD) (v : Value) (b : List RowD) (u : Value) (w : World) (r : rdsL w v a) (hb : IntSSB a) (r2 : rdsL w u b) (hb2 : IntSSB b) :
    Calls Try.prog 36 #[v, u] w fun e w' => ∃ q : Value, e = .returned (.tuple #[q, .int .i64 (joinC a b).2]) ∧ rdsL w' q (joinC a b).1 ∧ Below w.heap.size w w' :=
  (spec_SetJoin0 a b v u w r r2 hb hb2).mono fun _ _ ⟨q, he, ho, bl⟩ => ⟨q, he, ho.rds, bl⟩
theorem impl_SetJoinW (a : List RowD) (v : Value) (b : List RowD) (u : Value) (w : World) (r : rdsL w v a) (hb : IntSSB a) (r2 : rdsL w u b) (hb2 : IntSSB b) :
    Calls Try.prog 37 #[v, u] w fun e w' => ∃ q : Value, ∃ S : Nat → Prop, e = .returned (.tuple #[q, .int .i64 (joinC a b).2]) ∧ ownL S w' q (joinC a b).1 ∧ (∀ k, S k → Rg w.heap.size w'.heap.size k) ∧ IntSSB (joinC a b).1 ∧ Below w.heap.size w w' :=
  (impl_SetJoin0 a b v u w r r2 hb hb2).mono fun _ _ ⟨q, he, ho, bl⟩ => ⟨q, _, he, ho, fun _ h => h, joinC_B a b hb, bl⟩
end Go.Proofs.Ytdgmbcmgjadoiaa
