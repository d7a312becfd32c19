/- Chapter 16, pure: ascending buckets; what holds along the doubling. -/
import Derived.Test.YtdgmbcmgjadoiaaF16
import Derived.Test.YtdgmbcmgjadoiaaS16c
namespace Go.Proofs.Ytdgmbcmgjadoiaa
set_option maxRecDepth 100000
open Go.RowKit Go.Proofs Go.Own
set_option linter.unusedVariables false
theorem ascI_pw : ∀ xs : List Int, ascI xs = true → xs.Pairwise (· < ·)
  | [], _ => List.Pairwise.nil
  | [a], _ => List.pairwise_singleton _ _
  | a :: b :: r, h => by
    rw [show ascI (a :: b :: r) = (decide (a < b) && ascI (b :: r)) from rfl, Bool.and_eq_true, decide_eq_true_eq] at h
    have ih := ascI_pw (b :: r) h.2
    refine List.pairwise_cons.2 ⟨fun y hy => ?_, ih⟩
    rcases List.mem_cons.1 hy with rfl | hy
    · exact h.1
    · have := (List.pairwise_cons.1 ih).1 y hy; omega
theorem cntLt_drop {xs : List Int} (h : xs.Pairwise (· ≤ ·)) (x : Int) : ∀ y ∈ xs.drop (cntLt xs x), x ≤ y := by
  intro y hy
  obtain ⟨i, hi, rfl⟩ := List.getElem_of_mem hy
  rw [List.length_drop] at hi
  rw [List.getElem_drop]
  have h0 : cntLt xs x < xs.length := by omega
  have h1 := cntLt_at h0
  rcases Nat.eq_zero_or_pos i with e | e
  · subst e
    simp only [Nat.add_zero]
    omega
  · have := List.pairwise_iff_getElem.1 h (cntLt xs x) (cntLt xs x + i) h0 (by omega) (by omega)
    omega
theorem cntLt_take (xs : List Int) (x : Int) : ∀ y ∈ xs.take (cntLt xs x), y < x := by
  intro y hy
  obtain ⟨i, hi, rfl⟩ := List.getElem_of_mem hy
  rw [List.length_take] at hi
  rw [List.getElem_take]
  exact cntLt_lt (by omega) (by omega)
theorem putL_asc {xs : List Int} (h : xs.Pairwise (· ≤ ·)) (x : Int) : (putL xs x).Pairwise (· ≤ ·) := by
  unfold putL
  have h1 := cntLt_drop h x
  have h2 := cntLt_take xs x
  rw [List.pairwise_append]
  refine ⟨h.sublist (List.take_sublist _ _), List.pairwise_cons.2 ⟨h1, h.sublist (List.drop_sublist _ _)⟩, fun a ha b hb => ?_⟩
  have := h2 a ha
  rcases List.mem_cons.1 hb with rfl | hb
  · omega
  · have := h1 b hb; omega
def AscS (s : List RowD) : Prop := ∀ i (h : i < s.length), s[i].xs_.Pairwise (· ≤ ·)
theorem ascS_of {s : List RowD} (h : setOk s = true) : AscS s := fun i hi => by
  have h1 := (setOk_iff.1 h).2 i hi
  unfold bktOk at h1
  rw [Bool.and_eq_true] at h1
  exact (ascI_pw _ h1.2).imp fun h => by omega
theorem putAt_asc {s : List RowD} (h : AscS s) (x : Int) : AscS (putAt s x) := fun i hi => by
  have hi2 : i < s.length := by rw [putAt_len] at hi; exact hi
  have e0 : (putAt s x)[i] = if plc x s.length = i then ⟨putL s[i].xs_ x⟩ else s[i] := by simp only [putAt, List.getElem_modify]
  rw [e0]
  split
  · exact putL_asc (h i hi2) x
  · exact h i hi2
theorem foldPut_asc : ∀ (xs : List Int) (s : List RowD), AscS s → AscS (foldPut s xs)
  | [], s, h => h
  | x :: xs, s, h => foldPut_asc xs (putAt s x) (putAt_asc h x)
theorem emptyS_asc (n : Nat) : AscS (emptyS n) := fun i hi => by simp [emptyS]
theorem dblS_asc (s : List RowD) : AscS (dblS s) := foldPut_asc _ _ (emptyS_asc _)
theorem ascS_bkt {s : List RowD} (h : AscS s) (hn : 0 < s.length) (x : Int) : (bktAt s x).Pairwise (· ≤ ·) := by
  have hp := plc_lt x hn
  rw [bktAt_eq x hp]; exact h _ hp
theorem bktAt_le (s : List RowD) (hn : 0 < s.length) (x : Int) : (bktAt s x).length ≤ (allL s).length := by
  have hp := plc_lt x hn
  rw [bktAt_eq x hp]; exact bkt_len_le s _ hp
theorem ok_all16 {s : List RowD} (h : setOk s = true) : (allL s).length ≤ 24 := by
  have h8 := (setOk_pos h).2
  have : ∀ (n b : Nat) (t : List RowD), bktsOk n b t = true → (allL t).length ≤ 3 * t.length := by
    intro n b t
    induction t generalizing b with
    | nil => intro _; simp [allL]
    | cons r rs ih =>
      intro h
      rw [bktsOk, Bool.and_eq_true] at h
      have h1 := ih _ h.2
      have h2 := (bktOk_iff.1 h.1).1
      show (r.xs_ ++ allL rs).length ≤ _
      rw [List.length_append, List.length_cons]; omega
  have h2 := this s.length 0 s (by rw [setOk, Bool.and_eq_true] at h; exact h.2)
  omega
/-- What holds of the set while it doubles. -/
structure GInv (s t : List RowD) (x : Int) (f : Nat) : Prop where
  to : growM f t x = growM 4 s x
  pow : ∃ j, t.length * 2 ^ j = 8 ∧ j + 1 ≤ f
  well : WellP t.length t
  le3 : (bktAt t x).length ≤ 3
  asc : AscS t
  all : (allL t).length ≤ 24
  cnt : cntP t x 8 < 3
theorem GInv.start {s : List RowD} {x : Int} (h : setOk s = true) (hb : besideN s x < 3) : GInv s s x 4 :=
  ⟨rfl, pow2_of h, wellP_of h, bkt_le3 h x, ascS_of h, ok_all16 h, by rw [← beside_cnt h]; exact hb⟩
theorem GInv.pos {s t : List RowD} {x : Int} {f : Nat} (h : GInv s t x f) : 0 < t.length ∧ t.length ≤ 8 := by
  obtain ⟨j, hj, _⟩ := h.pow; exact pow2_le hj
theorem GInv.next {s t : List RowD} {x : Int} {f : Nat} (h : GInv s t x f) (h3 : (bktAt t x).length = 3) : ∃ f', f = f' + 1 ∧ GInv s (dblS t) x f' ∧ t.length < 8 := by
  obtain ⟨j, hj, hf⟩ := h.pow
  have hp := pow2_le hj
  have hc := bkt_cnt hp.1 h.well x
  have hne : t.length ≠ 8 := fun e => by rw [e] at hc; have := h.cnt; omega
  obtain ⟨i, hi, hi2⟩ := pow2_dbl hj hne
  have hl := dblS_len t
  have hw := dblS_wellP t
  refine ⟨f - 1, by omega, ⟨?_, ⟨i, by rw [hl]; exact hi2, by omega⟩, by rw [hl]; exact hw, ?_, dblS_asc t, by rw [(dblS_perm hp.1).length_eq]; exact h.all, by rw [cntP_dbl hp.1]; exact h.cnt⟩, by omega⟩
  · rw [← h.to]
    obtain ⟨f', rfl⟩ : ∃ f', f = f' + 1 := ⟨f - 1, by omega⟩
    show growM f' (dblS t) x = if _ then _ else _
    rw [if_pos h3]
  · rw [bkt_cnt (by omega) hw x, cntP_dbl hp.1]
    have := cntP_up t x hp.1
    omega
theorem GInv.done {s t : List RowD} {x : Int} {f : Nat} (h : GInv s t x f) (h3 : ¬ (bktAt t x).length = 3) : growM 4 s x = t := by
  rw [← h.to]
  cases f with
  | zero => rfl
  | succ f => show (if _ then _ else _) = _; rw [if_neg h3]
theorem besideN_take (xs : List Int) (x : Int) (k : Nat) (h : k < xs.length) : (xs.take (k+1)).countP (fun y => plc y 8 == plc x 8) = (xs.take k).countP (fun y => plc y 8 == plc x 8) + if plc xs[k] 8 = plc x 8 then 1 else 0 := by
  rw [List.take_succ_eq_append_getElem h, List.countP_append, List.countP_singleton]
  congr 1
  by_cases e : plc xs[k] 8 = plc x 8
  · rw [if_pos e, if_pos (by simp [e])]
  · rw [if_neg e, if_neg (by simp [e])]
end Go.Proofs.Ytdgmbcmgjadoiaa
