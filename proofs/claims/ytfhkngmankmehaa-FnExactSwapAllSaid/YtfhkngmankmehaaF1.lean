/- What chapter 1 says, as functions on lists. -/
import Derived.Test.YtfhkngmankmehaaTypes1
namespace Go.Proofs.Ytfhkngmankmehaa
open Go.RowKit Go.Proofs Go.Own

def memOk (xs : List Int) : Bool := decide (xs.length ≤ 40) && allIn xs (-1000000000) 1000000000 0
def isVal (x : Int) : Bool := inB x (-1000000000) 1000000000
/-- Whether the op is in order on this memory (but for a sum that is none). -/
def opOk (xs : List Int) (o : WordOp) : Bool :=
  memOk xs && inB o.kind_ 1 5 && inB o.at_ 0 (xs.length - 1) && (decide (o.kind_ = 1) || isVal o.new_) && (!decide (o.kind_ = 4) || isVal o.old_)
def wordF (xs : List Int) (o : WordOp) : List Int × Int × Bool :=
  if opOk xs o = false then (xs, 0, false) else
  let was := xs.getD o.at_.toNat 0
  if o.kind_ = 1 then (xs, was, true) else
  if o.kind_ = 2 then (xs.set o.at_.toNat o.new_, o.new_, true) else
  if o.kind_ = 3 then (xs.set o.at_.toNat o.new_, was, true) else
  if o.kind_ = 4 then (if was = o.old_ then xs.set o.at_.toNat o.new_ else xs, was, true) else
  if isVal (was + o.new_) then (xs.set o.at_.toNat (was + o.new_), was + o.new_, true) else (xs, 0, false)
theorem wordF_len (xs : List Int) (o : WordOp) : (wordF xs o).1.length = xs.length := by
  unfold wordF
  dsimp only
  repeat (first | split | simp)
theorem wordF_no (xs : List Int) (o : WordOp) (h : opOk xs o = false) : wordF xs o = (xs, 0, false) := by simp [wordF, h]
theorem allIn_get {xs : List Int} {a b : Int} (h : allIn xs a b 0 = true) (j : Nat) (hj : j < xs.length) : a ≤ xs[j] ∧ xs[j] ≤ b := by
  simp only [allIn, List.drop_zero, List.all_eq_true] at h
  have := h _ (List.getElem_mem hj)
  simpa [inB] using this
theorem memOk_get {xs : List Int} (h : memOk xs = true) (j : Nat) (hj : j < xs.length) : -1000000000 ≤ xs[j] ∧ xs[j] ≤ 1000000000 := by
  simp only [memOk, Bool.and_eq_true] at h
  exact allIn_get h.2 j hj
theorem isVal_iff {x : Int} (h : isVal x = true) : -1000000000 ≤ x ∧ x ≤ 1000000000 := by simpa [isVal, inB] using h
theorem getD_get (xs : List Int) (j : Nat) (hj : j < xs.length) : xs.getD j 0 = xs[j] := by simp [List.getD, hj]
theorem opOk_yes {xs : List Int} {kd a old new : Int} (h : opOk xs ⟨kd, a, old, new⟩ = true) :
    ∃ j : Nat, a = j ∧ j < xs.length ∧ memOk xs = true ∧ (kd = 1 ∨ kd = 2 ∨ kd = 3 ∨ kd = 4 ∨ kd = 5) ∧ (kd = 1 ∨ isVal new = true) ∧ (kd = 4 → isVal old = true) := by
  simp only [opOk, Bool.and_eq_true, Bool.or_eq_true, inB, decide_eq_true_eq, Bool.not_eq_true', decide_eq_false_iff_not] at h
  obtain ⟨⟨⟨⟨h1, h2⟩, h3⟩, h4⟩, h5⟩ := h
  refine ⟨a.toNat, by omega, by omega, h1, by omega, h4, fun e => ?_⟩
  rcases h5 with h5 | h5
  · exact absurd e h5
  · exact h5
section
variable {xs : List Int} {j : Nat} {old new : Int} (hj : j < xs.length)
include hj
theorem wordF_1 (h : opOk xs ⟨1, j, old, new⟩ = true) : wordF xs ⟨1, j, old, new⟩ = (xs, xs[j], true) := by
  simp [wordF, h, hj]
omit hj in
theorem wordF_2 (_hj : j < xs.length) (h : opOk xs ⟨2, j, old, new⟩ = true) : wordF xs ⟨2, j, old, new⟩ = (xs.set j new, new, true) := by
  simp [wordF, h]
theorem wordF_3 (h : opOk xs ⟨3, j, old, new⟩ = true) : wordF xs ⟨3, j, old, new⟩ = (xs.set j new, xs[j], true) := by
  simp [wordF, h, hj]
theorem wordF_4y (h : opOk xs ⟨4, j, old, new⟩ = true) (e : xs[j] = old) : wordF xs ⟨4, j, old, new⟩ = (xs.set j new, xs[j], true) := by
  simp [wordF, h, hj, e]
theorem wordF_4n (h : opOk xs ⟨4, j, old, new⟩ = true) (e : xs[j] ≠ old) : wordF xs ⟨4, j, old, new⟩ = (xs, xs[j], true) := by
  simp [wordF, h, hj, e]
theorem wordF_5y (h : opOk xs ⟨5, j, old, new⟩ = true) (e : isVal (xs[j] + new) = true) : wordF xs ⟨5, j, old, new⟩ = (xs.set j (xs[j] + new), xs[j] + new, true) := by
  simp [wordF, h, hj, e]
theorem wordF_5n (h : opOk xs ⟨5, j, old, new⟩ = true) (e : isVal (xs[j] + new) = false) : wordF xs ⟨5, j, old, new⟩ = (xs, 0, false) := by
  simp [wordF, h, hj, e]
end

/-- Memory, what was told, whether all were true, behind the first k ops. -/
def wordsAt (xs : List Int) (ops : List WordOp) : Nat → List Int × List Int × Bool
  | 0 => (xs, [], true)
  | k+1 => match ops[k]? with
    | some o => ((wordF (wordsAt xs ops k).1 o).1, (wordsAt xs ops k).2.1 ++ [(wordF (wordsAt xs ops k).1 o).2.1], (wordsAt xs ops k).2.2 && (wordF (wordsAt xs ops k).1 o).2.2)
    | none => wordsAt xs ops k
def wordsF (xs : List Int) (ops : List WordOp) : List Int × List Int × Bool :=
  if 200 < ops.length then (xs, [], false) else wordsAt xs ops ops.length
theorem wordsAt_succ (xs : List Int) (ops : List WordOp) (k : Nat) (h : k < ops.length) :
    wordsAt xs ops (k+1) = ((wordF (wordsAt xs ops k).1 ops[k]).1, (wordsAt xs ops k).2.1 ++ [(wordF (wordsAt xs ops k).1 ops[k]).2.1], (wordsAt xs ops k).2.2 && (wordF (wordsAt xs ops k).1 ops[k]).2.2) := by
  rw [wordsAt, List.getElem?_eq_getElem h]
theorem wordsAt_len (xs : List Int) (ops : List WordOp) : ∀ k, (wordsAt xs ops k).1.length = xs.length
  | 0 => rfl
  | k+1 => by
    by_cases h : k < ops.length
    · rw [wordsAt_succ _ _ _ h]; simp only [wordF_len]; exact wordsAt_len xs ops k
    · rw [wordsAt, List.getElem?_eq_none (by omega)]; exact wordsAt_len xs ops k
theorem wordsAt_told (xs : List Int) (ops : List WordOp) : ∀ k, k ≤ ops.length → (wordsAt xs ops k).2.1.length = k
  | 0, _ => rfl
  | k+1, hk => by
    rw [wordsAt_succ _ _ _ hk]
    simp only [List.length_append, List.length_singleton]
    rw [wordsAt_told xs ops k (by omega)]
/-- What the k-th op told. -/
theorem wordsAt_get (xs : List Int) (ops : List WordOp) (k : Nat) (hk : k < ops.length) : ∀ n, k < n → n ≤ ops.length → (wordsAt xs ops n).2.1[k]? = some (wordF (wordsAt xs ops k).1 ops[k]).2.1
  | 0, h, _ => by omega
  | n+1, h, hn => by
    rw [wordsAt_succ _ _ _ hn]
    have hl := wordsAt_told xs ops n (by omega)
    by_cases e : k < n
    · rw [List.getElem?_append_left (by omega)]; exact wordsAt_get xs ops k hk n e (by omega)
    · obtain rfl : k = n := by omega
      rw [List.getElem?_append_right (by omega), hl]; simp
theorem wordsF_len (xs : List Int) (ops : List WordOp) : (wordsF xs ops).1.length = xs.length := by
  unfold wordsF; split
  · rfl
  · exact wordsAt_len _ _ _
theorem wordsF_told (xs : List Int) (ops : List WordOp) : (wordsF xs ops).2.1.length ≤ ops.length := by
  unfold wordsF; split
  · simp
  · rw [wordsAt_told _ _ _ (Nat.le_refl _)]; exact Nat.le_refl _
theorem encI_snoc (xs : List Int) (x : Int) : xs.flatMap encI ++ [.int .i64 x] = (xs ++ [x]).flatMap encI := by simp [encI]
end Go.Proofs.Ytfhkngmankmehaa
