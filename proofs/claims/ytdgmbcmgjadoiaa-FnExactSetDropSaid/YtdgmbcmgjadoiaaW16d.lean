/- Chapter 16: SetDrop's contracts as the law's walk takes them. -/
import Derived.Test.YtdgmbcmgjadoiaaI16g
import Derived.Test.YtdgmbcmgjadoiaaS16f
import Derived.Test.YtdgmbcmgjadoiaaS16d
namespace Go.Proofs.Ytdgmbcmgjadoiaa
set_option maxRecDepth 100000
open Go.RowKit Go.Proofs Go.Own
set_option linter.unusedVariables false
theorem dropC_B (s : List RowD) (x : Int) (hb : IntSSB s) : IntSSB (dropC s x).1 := by
  obtain ⟨r, hr⟩ : ∃ r, (setOk s && isVal x) = r := ⟨_, rfl⟩
  cases r with
  | false => rw [drop_bad hr]; exact hb
  | true =>
    have hok : setOk s = true := by rw [Bool.and_eq_true] at hr; exact hr.1
    obtain ⟨q, hq⟩ : ∃ q, hasC s x = q := ⟨_, rfl⟩
    cases q with
    | false => rw [drop_none hr hq]; exact hb
    | true =>
      have h8 := setOk_pos hok
      have hp := plc_lt x h8.1
      rw [drop_done hr hq hp rfl rfl]
      have hl : (s.set (plc x s.length) (⟨flt s[plc x s.length].xs_ x⟩ : RowD)).length ≤ 8 := by rw [List.length_set]; exact h8.2
      refine intSSB_of hl ?_
      have h3 : ∀ (t : List RowD), (∀ i (h : i < t.length), t[i].xs_.length ≤ 3) → (allL t).length ≤ 3 * t.length := by
        intro t
        induction t with
        | nil => intro _; simp [allL]
        | cons r rs ih =>
          intro h
          have h1 := ih (fun i hi => h (i+1) (by simpa using hi))
          have h2 := h 0 (by simp)
          show (r.xs_ ++ allL rs).length ≤ _
          rw [List.length_append, List.length_cons]
          have h2' : r.xs_.length ≤ 3 := h2
          omega
      have h4 := h3 (s.set (plc x s.length) (⟨flt s[plc x s.length].xs_ x⟩ : RowD)) (fun i hi => by
        rw [List.length_set] at hi
        have hb3 := (bktOk_iff.1 ((setOk_iff.1 hok).2 i hi)).1
        by_cases e : plc x s.length = i
        · subst e
          rw [List.getElem_set_self]
          exact Nat.le_trans (by unfold flt; exact List.length_filter_le _ _) hb3
        · rw [List.getElem_set_ne e]; exact hb3)
      show (allL (s.set (plc x s.length) (⟨flt s[plc x s.length].xs_ x⟩ : RowD))).length ≤ 1000
      omega
theorem spec_SetDropW (s : List RowD) (v : Value) (x : Int) (w : World) (r : rdsL w v s) (hb : IntSSB s) :
    Calls Try.prog 30 #[v, .int .i64 x] w fun e w' => ∃ u : Value, e = .returned (.tuple #[u, .int .i64 (dropC s x).2]) ∧ rdsL w' u (dropC s x).1 ∧ Below w.heap.size w w' :=
  (spec_SetDrop0 s x v w r hb).mono fun _ _ ⟨u, he, ho, b⟩ => ⟨u, he, ho.rds, b⟩
theorem impl_SetDropW (s : List RowD) (v : Value) (x : Int) (w : World) (r : rdsL w v s) (hb : IntSSB s) :
    Calls Try.prog 31 #[v, .int .i64 x] w fun e w' => ∃ u : Value, ∃ S : Nat → Prop, e = .returned (.tuple #[u, .int .i64 (dropC s x).2]) ∧ ownL S w' u (dropC s x).1 ∧ (∀ k, S k → Rg w.heap.size w'.heap.size k) ∧ IntSSB (dropC s x).1 ∧ Below w.heap.size w w' :=
  (impl_SetDrop0 s x v w r hb).mono fun _ _ ⟨u, he, ho, b⟩ => ⟨u, _, he, ho, fun _ h => h, dropC_B s x hb, b⟩
end Go.Proofs.Ytdgmbcmgjadoiaa
