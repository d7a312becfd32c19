/- Chapter 16, pure: sets in buckets. -/
import Derived.Test.YtdgmbcmgjadoiaaF0
import Derived.Test.YtdgmbcmgjadoiaaAsc
namespace Go.Proofs.Ytdgmbcmgjadoiaa
set_option maxRecDepth 100000
open Go.RowKit Go.Proofs Go.Own
set_option linter.unusedVariables false
structure RowD where
  xs_ : List Int
/-- The bucket of a value, of so many. -/
def plc (x : Int) (n : Nat) : Nat := (x % (n : Int)).toNat
theorem plc_lt (x : Int) {n : Nat} (h : 0 < n) : plc x n < n := by
  have h1 := Int.emod_nonneg x (b := (n : Int)) (by omega)
  have h2 := Int.emod_lt_of_pos x (b := (n : Int)) (by omega)
  unfold plc; omega
theorem plc_int (x : Int) {n : Nat} (h : 0 < n) : ((plc x n : Nat) : Int) = x % (n : Int) := by
  have h1 := Int.emod_nonneg x (b := (n : Int)) (by omega)
  unfold plc; omega
/-- What the code says of it: a rest of a rest. -/
theorem tmod_plc (x : Int) {n : Nat} (h : 0 < n) : (x.tmod (n : Int) + n).tmod (n : Int) = ((plc x n : Nat) : Int) := by
  rw [plc_int x h]
  have hn : (n : Int) ≠ 0 := by omega
  have h1 : -(n : Int) < x.tmod n := by
    have h2 := Int.emod_nonneg x hn
    have h3 := Int.emod_lt_of_pos x (b := (n : Int)) (by omega)
    rw [Int.tmod_eq_emod]
    split
    · omega
    · simp only [Int.natAbs_natCast]; rename_i h4; have : x % (n : Int) ≠ 0 := fun e => h4 (.inr (Int.dvd_of_emod_eq_zero e)); omega
  rw [Int.tmod_eq_emod_of_nonneg (by omega), Int.add_emod_right, Int.tmod_eq_emod]
  split
  · simp
  · rw [Int.sub_emod]; simp
def cntOk (n : Nat) : Bool := n == 1 || n == 2 || n == 4 || n == 8
theorem cntOk_iff {n : Nat} : cntOk n = true ↔ n = 1 ∨ n = 2 ∨ n = 4 ∨ n = 8 := by simp [cntOk, or_assoc]
def bktOk (n b : Nat) (xs : List Int) : Bool := decide (xs.length ≤ 3) && xs.all (fun x => isVal x && (plc x n == b)) && ascI xs
def bktsOk (n : Nat) : Nat → List RowD → Bool
  | _, [] => true
  | b, r :: rs => bktOk n b r.xs_ && bktsOk n (b+1) rs
theorem bktsOk_iff (n : Nat) : ∀ (b : Nat) (s : List RowD), bktsOk n b s = true ↔ ∀ i (h : i < s.length), bktOk n (b + i) s[i].xs_ = true
  | b, [] => by simp [bktsOk]
  | b, r :: rs => by
    rw [bktsOk, Bool.and_eq_true, bktsOk_iff n (b+1) rs]
    constructor
    · rintro ⟨h1, h2⟩ i hi
      match i, hi with
      | 0, _ => exact h1
      | i+1, hi => have := h2 i (by simpa using hi); rw [show b + (i+1) = b + 1 + i by omega]; exact this
    · intro h
      refine ⟨h 0 (by simp), fun i hi => ?_⟩
      have := h (i+1) (by simpa using hi)
      rw [show b + (i+1) = b + 1 + i by omega] at this; exact this
def setOk (s : List RowD) : Bool := cntOk s.length && bktsOk s.length 0 s
theorem setOk_iff {s : List RowD} : setOk s = true ↔ cntOk s.length = true ∧ ∀ i (h : i < s.length), bktOk s.length i s[i].xs_ = true := by
  rw [setOk, Bool.and_eq_true, bktsOk_iff]; simp
theorem setOk_pos {s : List RowD} (h : setOk s = true) : 0 < s.length ∧ s.length ≤ 8 := by
  have := cntOk_iff.1 (setOk_iff.1 h).1; omega
/-- Values ahead of x. -/
def cntLt (xs : List Int) (x : Int) : Nat := (xs.takeWhile (fun y => decide (y < x))).length
def putL (xs : List Int) (x : Int) : List Int := xs.take (cntLt xs x) ++ x :: xs.drop (cntLt xs x)
theorem cntLt_le (xs : List Int) (x : Int) : cntLt xs x ≤ xs.length := (List.takeWhile_sublist _).length_le
theorem cntLt_lt {xs : List Int} {x : Int} {i : Nat} (h : i < cntLt xs x) (hi : i < xs.length) : xs[i] < x := by
  unfold cntLt at h
  induction xs generalizing i with
  | nil => simp at hi
  | cons y ys ih =>
    simp only [List.takeWhile_cons] at h
    split at h
    · rename_i hy
      match i, h, hi with
      | 0, _, _ => simpa using hy
      | i+1, h, hi => simpa using ih (by simpa using h) (by simpa using hi)
    · simp at h
theorem cntLt_at {xs : List Int} {x : Int} (h : cntLt xs x < xs.length) : ¬ xs[cntLt xs x] < x := by
  unfold cntLt at h ⊢
  induction xs with
  | nil => simp at h
  | cons y ys ih =>
    simp only [List.takeWhile_cons] at h ⊢
    split
    · rename_i hy
      rw [if_pos hy] at h
      simp only [List.length_cons, List.getElem_cons_succ]
      exact ih (by simpa using h)
    · rename_i hy
      simpa using hy
/-- The place is told by what stands ahead of it and at it. -/
theorem cntLt_of {xs : List Int} {x : Int} {k : Nat} (hk : k ≤ xs.length) (h1 : ∀ i (hi : i < xs.length), i < k → xs[i] < x) (h2 : (h : k < xs.length) → ¬ xs[k] < x) : cntLt xs x = k := by
  rcases Nat.lt_trichotomy (cntLt xs x) k with h | h | h
  · exact absurd (h1 _ (by omega) h) (cntLt_at (by omega))
  · exact h
  · have := cntLt_le xs x
    exact absurd (cntLt_lt h (by omega)) (h2 (by omega))
theorem putL_perm (xs : List Int) (x : Int) : (putL xs x).Perm (x :: xs) := by
  unfold putL
  have h := List.perm_middle (a := x) (l₁ := xs.take (cntLt xs x)) (l₂ := xs.drop (cntLt xs x))
  rwa [List.take_append_drop] at h
theorem putL_len (xs : List Int) (x : Int) : (putL xs x).length = xs.length + 1 := (putL_perm xs x).length_eq
/-- One value put into its bucket. -/
def putAt (s : List RowD) (x : Int) : List RowD := s.modify (plc x s.length) fun r => ⟨putL r.xs_ x⟩
theorem putAt_len (s : List RowD) (x : Int) : (putAt s x).length = s.length := by simp [putAt]
def allL (s : List RowD) : List Int := s.flatMap (·.xs_)
def foldPut (s : List RowD) (xs : List Int) : List RowD := xs.foldl putAt s
theorem foldPut_len : ∀ (xs : List Int) (s : List RowD), (foldPut s xs).length = s.length
  | [], s => rfl
  | x :: xs, s => by show (foldPut (putAt s x) xs).length = _; rw [foldPut_len, putAt_len]
theorem foldPut_snoc (s : List RowD) (xs : List Int) (x : Int) : foldPut s (xs ++ [x]) = putAt (foldPut s xs) x := by simp [foldPut]
def emptyS (n : Nat) : List RowD := List.replicate n ⟨[]⟩
def dblS (s : List RowD) : List RowD := foldPut (emptyS (2 * s.length)) (allL s)
theorem dblS_len (s : List RowD) : (dblS s).length = 2 * s.length := by unfold dblS; rw [foldPut_len]; simp [emptyS]
def bktAt (s : List RowD) (x : Int) : List Int := (s[plc x s.length]?.getD ⟨[]⟩).xs_
theorem bktAt_eq {s : List RowD} (x : Int) (h : plc x s.length < s.length) : bktAt s x = s[plc x s.length].xs_ := by
  unfold bktAt; rw [List.getElem?_eq_getElem h]; rfl
def growS : Nat → List RowD → Int → Option (List RowD)
  | 0, _, _ => none
  | f+1, s, x => if (bktAt s x).length = 3 then (if s.length = 8 then none else growS f (dblS s) x) else some s
def hasC (s : List RowD) (x : Int) : Bool := setOk s && decide (x ∈ bktAt s x)
def addC (s : List RowD) (x : Int) : List RowD × Int :=
  if (setOk s && isVal x) = true then (if hasC s x = true then (s, 2) else match growS 4 s x with | some t => (putAt t x, 0) | none => (s, 3)) else (s, 1)
def dropC (s : List RowD) (x : Int) : List RowD × Int :=
  if (setOk s && isVal x) = true then (if hasC s x = true then (s.modify (plc x s.length) fun r => ⟨r.xs_.filter fun y => !(y == x)⟩, 0) else (s, 4)) else (s, 1)
def sortL (xs : List Int) : List Int := xs.foldl putL []
def listC (s : List RowD) : List Int := if setOk s = true then sortL (allL s) else []
def joinTo (s : List RowD) : List Int → Option (List RowD)
  | [] => some s
  | x :: xs => if (addC s x).2 = 3 then none else joinTo (addC s x).1 xs
def joinC (a b : List RowD) : List RowD × Int :=
  if (setOk a && setOk b) = true then (match joinTo a (listC b) with | some t => (t, 0) | none => (a, 3)) else (a, 1)
def sameC (a b : List RowD) : Bool := setOk a && setOk b && decide (listC a = listC b)
-- well placed
def WellP (n : Nat) (s : List RowD) : Prop := s.length = n ∧ ∀ i (h : i < s.length), ∀ y ∈ s[i].xs_, plc y n = i
def cntP (s : List RowD) (x : Int) (n : Nat) : Nat := (allL s).countP fun y => plc y n == plc x n
theorem countP_wellP_aux (n p : Nat) : ∀ (s : List RowD) (b : Nat), (∀ i (h : i < s.length), ∀ y ∈ s[i].xs_, plc y n = b + i) → (allL s).countP (fun y => plc y n == p) = if h : b ≤ p ∧ p - b < s.length then s[p - b].xs_.length else 0
  | [], b, _ => by simp [allL]
  | r :: rs, b, h => by
    have h0 := h 0 (by simp)
    simp only [List.getElem_cons_zero] at h0
    have ih := countP_wellP_aux n p rs (b+1) (fun i hi y hy => by
      have := h (i+1) (by simpa using hi) y (by simpa using hy)
      omega)
    have e : allL (r :: rs) = r.xs_ ++ allL rs := rfl
    rw [e, List.countP_append, ih]
    by_cases hp : p = b
    · subst hp
      rw [List.countP_eq_length.2 (fun y hy => by have := h0 y hy; simp; omega)]
      rw [dif_neg (by omega), dif_pos (by simp)]
      simp
    · rw [List.countP_eq_zero.2 (fun y hy => by have := h0 y hy; simp; omega)]
      by_cases hq : b + 1 ≤ p ∧ p - (b+1) < rs.length
      · rw [dif_pos hq, dif_pos ⟨by omega, by simp; omega⟩]
        have e2 : p - b = p - (b+1) + 1 := by omega
        simp only [e2, List.getElem_cons_succ, Nat.zero_add]
      · rw [dif_neg hq, dif_neg (by simp only [List.length_cons]; omega)]
theorem bkt_cnt {n : Nat} {s : List RowD} (hn : 0 < n) (h : WellP n s) (x : Int) : (bktAt s x).length = cntP s x n := by
  obtain ⟨hl, h⟩ := h
  have hp : plc x s.length < s.length := plc_lt x (by omega)
  unfold cntP
  rw [countP_wellP_aux n (plc x n) s 0 (fun i hi y hy => by rw [h i hi y hy]; omega)]
  subst hl
  rw [dif_pos ⟨by omega, by omega⟩, bktAt_eq x hp]
  simp
theorem putAt_perm {s : List RowD} {x : Int} (hp : plc x s.length < s.length) : (allL (putAt s x)).Perm (x :: allL s) := by
  unfold putAt allL
  generalize plc x s.length = p at *
  induction s generalizing p with
  | nil => simp at hp
  | cons r rs ih =>
    match p, hp with
    | 0, _ =>
      simp only [List.modify_zero_cons, List.flatMap_cons]
      exact (putL_perm r.xs_ x).append_right _
    | p+1, hp =>
      simp only [List.modify_succ_cons, List.flatMap_cons]
      exact ((ih (p := p) (by simpa using hp)).append_left _).trans List.perm_middle
theorem putAt_wellP {n : Nat} {s : List RowD} (h : WellP n s) (x : Int) : WellP n (putAt s x) := by
  obtain ⟨hl, h⟩ := h
  refine ⟨by rw [putAt_len, hl], fun i hi y hy => ?_⟩
  have hi2 : i < s.length := by rw [putAt_len] at hi; exact hi
  have e0 : (putAt s x)[i] = if plc x s.length = i then ⟨putL s[i].xs_ x⟩ else s[i] := by simp only [putAt, List.getElem_modify]
  rw [e0] at hy
  replace hi := hi2
  split at hy
  · rename_i e
    rcases List.mem_cons.1 ((putL_perm _ x).mem_iff.1 hy) with rfl | hy
    · rw [← e, hl]
    · exact h i hi y hy
  · exact h i hi y hy
theorem foldPut_perm : ∀ (xs : List Int) (s : List RowD), 0 < s.length → (allL (foldPut s xs)).Perm (xs ++ allL s)
  | [], s, _ => List.Perm.refl _
  | x :: xs, s, h => by
    have h1 := foldPut_perm xs (putAt s x) (by rw [putAt_len]; exact h)
    have h2 := putAt_perm (x := x) (plc_lt x h)
    show (allL (foldPut (putAt s x) xs)).Perm _
    exact h1.trans ((h2.append_left xs).trans List.perm_middle)
theorem foldPut_wellP {n : Nat} : ∀ (xs : List Int) (s : List RowD), WellP n s → WellP n (foldPut s xs)
  | [], s, h => h
  | x :: xs, s, h => foldPut_wellP xs (putAt s x) (putAt_wellP h x)
theorem emptyS_all (n : Nat) : allL (emptyS n) = [] := by
  unfold allL emptyS; induction n with
  | zero => rfl
  | succ n ih => rw [List.replicate_succ, List.flatMap_cons, ih]; rfl
theorem dblS_perm {s : List RowD} (h : 0 < s.length) : (allL (dblS s)).Perm (allL s) := by
  have := foldPut_perm (allL s) (emptyS (2 * s.length)) (by simp [emptyS]; omega)
  rwa [emptyS_all, List.append_nil] at this
theorem dblS_wellP (s : List RowD) : WellP (2 * s.length) (dblS s) := foldPut_wellP _ _ ⟨by simp [emptyS], fun i hi y hy => by simp [emptyS] at hy⟩
theorem cntP_dbl {s : List RowD} (h : 0 < s.length) (x : Int) (n : Nat) : cntP (dblS s) x n = cntP s x n := (dblS_perm h).countP_eq _
theorem plc_up {y x : Int} {n : Nat} (hn : 0 < n) (h : plc y (2 * n) = plc x (2 * n)) : plc y n = plc x n := by
  have h1 := plc_int y (n := 2 * n) (by omega)
  have h2 := plc_int x (n := 2 * n) (by omega)
  have h3 := plc_int y hn
  have h4 := plc_int x hn
  have e : y % ((2 * n : Nat) : Int) = x % ((2 * n : Nat) : Int) := by rw [← h1, ← h2, h]
  have e2 : ∀ z : Int, z % ((2 * n : Nat) : Int) % (n : Int) = z % (n : Int) := fun z => Int.emod_emod_of_dvd z ⟨2, by omega⟩
  have : y % (n : Int) = x % (n : Int) := by rw [← e2 y, ← e2 x, e]
  omega
theorem cntP_up (s : List RowD) (x : Int) {n : Nat} (hn : 0 < n) : cntP s x (2 * n) ≤ cntP s x n := by
  unfold cntP
  apply List.countP_mono_left
  intro y _ h
  simp only [beq_iff_eq] at h ⊢
  exact plc_up hn h
theorem wellP_of {s : List RowD} (h : setOk s = true) : WellP s.length s := ⟨rfl, fun i hi y hy => by
  have := (setOk_iff.1 h).2 i hi
  simp only [bktOk, Bool.and_eq_true, List.all_eq_true, beq_iff_eq] at this
  exact (this.1.2 y hy).2⟩
theorem bkt_le3 {s : List RowD} (h : setOk s = true) (x : Int) : (bktAt s x).length ≤ 3 := by
  have hp : plc x s.length < s.length := plc_lt x (setOk_pos h).1
  rw [bktAt_eq x hp]
  have := (setOk_iff.1 h).2 _ hp
  simp only [bktOk, Bool.and_eq_true, decide_eq_true_eq] at this
  exact this.1.1
/-- How many of the bucket go with x wherever it goes. -/
def besideN (s : List RowD) (x : Int) : Nat := (bktAt s x).countP fun y => plc y 8 == plc x 8
/-- The room that is made: by so many doublings as are wanted. -/
def growM : Nat → List RowD → Int → List RowD
  | 0, s, _ => s
  | f+1, s, x => if (bktAt s x).length = 3 then growM f (dblS s) x else s
theorem grow_cases : ∀ (f : Nat) (s : List RowD) (x : Int) (k : Nat), s.length * 2 ^ k = 8 → k + 1 = f → WellP s.length s → (bktAt s x).length ≤ 3 →
    growS f s x = if cntP s x 8 < 3 then some (growM f s x) else none
  | 0, s, x, k, _, hf, _, _ => by omega
  | f+1, s, x, k, hk, hf, hw, h3 => by
    have hpos : 0 < s.length := by rcases Nat.eq_zero_or_pos s.length with h | h; · rw [h] at hk; simp at hk
                                   · exact h
    have hc := bkt_cnt hpos hw x
    match k, hk, hf with
    | 0, hk, hf =>
      have h8 : s.length = 8 := by simpa using hk
      obtain rfl : f = 0 := by omega
      unfold growS growM
      rw [h8] at hc
      by_cases h : (bktAt s x).length = 3
      · rw [if_pos h, if_pos h8, if_neg (by omega)]
      · rw [if_neg h, if_neg h, if_pos (by omega)]
    | k+1, hk, hf =>
      have hk2 : (2 * s.length) * 2 ^ k = 8 := by rw [← hk, Nat.pow_succ, Nat.mul_comm 2 s.length, Nat.mul_assoc, Nat.mul_comm 2 (2 ^ k)]
      have hne : s.length ≠ 8 := fun e => by
        rw [e] at hk2
        have := Nat.pow_pos (n := k) (show 0 < 2 by omega)
        omega
      have hup : cntP s x 8 ≤ cntP s x s.length := by
        have : ∀ (j m : Nat), 0 < m → cntP s x (m * 2 ^ j) ≤ cntP s x m := by
          intro j
          induction j with
          | zero => intro m hm; simp
          | succ j ih =>
            intro m hm
            have h1 := ih (2 * m) (by omega)
            have h2 := cntP_up s x hm
            rw [show 2 * m * 2 ^ j = m * 2 ^ (j+1) by rw [Nat.pow_succ, Nat.mul_comm 2 m, Nat.mul_assoc, Nat.mul_comm 2 (2 ^ j)]] at h1
            omega
        have h9 := this (k+1) s.length hpos
        rwa [hk] at h9
      unfold growS growM
      by_cases h : (bktAt s x).length = 3
      · rw [if_pos h, if_neg hne, if_pos h]
        have hw2 := dblS_wellP s
        have hl2 := dblS_len s
        have hle : (bktAt (dblS s) x).length ≤ 3 := by
          rw [bkt_cnt (by omega) hw2 x, cntP_dbl hpos]
          have := cntP_up s x hpos
          omega
        rw [grow_cases f (dblS s) x k (by rw [hl2]; exact hk2) (by omega) (by rw [hl2]; exact hw2) hle, cntP_dbl hpos]
      · rw [if_neg h, if_neg h, if_pos (by omega)]
/-- One length's fuel is as good as another that is enough. -/
theorem growM_fuel : ∀ (f : Nat) (s : List RowD) (x : Int), cntP s x 8 < 3 → (∃ k, s.length * 2 ^ k = 8 ∧ k + 1 ≤ f) → WellP s.length s → (bktAt s x).length ≤ 3 → growM (f+1) s x = growM f s x
  | 0, s, x, _, ⟨k, _, h⟩, _, _ => by omega
  | f+1, s, x, hc8, ⟨k, hk, hf⟩, hw, h3 => by
    have hpos : 0 < s.length := by rcases Nat.eq_zero_or_pos s.length with h | h; · rw [h] at hk; simp at hk
                                   · exact h
    have hc := bkt_cnt hpos hw x
    have eu : ∀ g, growM (g+1) s x = if (bktAt s x).length = 3 then growM g (dblS s) x else s := fun g => rfl
    rw [eu (f+1), eu f]
    by_cases h : (bktAt s x).length = 3
    · rw [if_pos h, if_pos h]
      match k, hk, hf with
      | 0, hk, hf =>
        have h8 : s.length = 8 := by simpa using hk
        rw [h8] at hc; omega
      | k+1, hk, hf =>
        have hk2 : (2 * s.length) * 2 ^ k = 8 := by rw [← hk, Nat.pow_succ, Nat.mul_comm 2 s.length, Nat.mul_assoc, Nat.mul_comm 2 (2 ^ k)]
        have hw2 := dblS_wellP s
        have hl2 := dblS_len s
        have hle : (bktAt (dblS s) x).length ≤ 3 := by
          rw [bkt_cnt (by omega) hw2 x, cntP_dbl hpos]
          have := cntP_up s x hpos
          omega
        exact growM_fuel f (dblS s) x (by rw [cntP_dbl hpos]; exact hc8) ⟨k, by rw [hl2]; exact hk2, by omega⟩ (by rw [hl2]; exact hw2) hle
    · rw [if_neg h, if_neg h]
theorem beside_cnt {s : List RowD} (h : setOk s = true) (x : Int) : besideN s x = cntP s x 8 := by
  have hpos := setOk_pos h
  have hw := wellP_of h
  obtain ⟨k, hk⟩ : ∃ k, s.length * 2 ^ k = 8 := by
    rcases cntOk_iff.1 (setOk_iff.1 h).1 with e | e | e | e
    · exact ⟨3, by rw [e]⟩
    · exact ⟨2, by rw [e]⟩
    · exact ⟨1, by rw [e]⟩
    · exact ⟨0, by rw [e]⟩
  have hpl : ∀ (j m : Nat) (y : Int), 0 < m → plc y (m * 2 ^ j) = plc x (m * 2 ^ j) → plc y m = plc x m := by
    intro j
    induction j with
    | zero => intro m y hm h; simpa using h
    | succ j ih =>
      intro m y hm h
      rw [show m * 2 ^ (j+1) = 2 * m * 2 ^ j by rw [Nat.pow_succ, Nat.mul_comm 2 m, Nat.mul_assoc, Nat.mul_comm 2 (2 ^ j)]] at h
      exact plc_up hm (ih (2 * m) y (by omega) h)
  have h8 : ∀ y : Int, plc y 8 = plc x 8 → plc y s.length = plc x s.length := fun y hy => by
    have := hpl k s.length y hpos.1
    rw [hk] at this
    exact this hy
  have hp : plc x s.length < s.length := plc_lt x hpos.1
  unfold besideN cntP
  rw [bktAt_eq x hp]
  generalize hq : plc x s.length = p at *
  have key : ∀ (t : List RowD) (b q : Nat) (hb : q < t.length), (∀ i (hi : i < t.length), ∀ y ∈ t[i].xs_, plc y s.length = b + i) → b + q = p → (t[q].xs_).countP (fun y => plc y 8 == plc x 8) = (allL t).countP (fun y => plc y 8 == plc x 8) := by
    intro t
    induction t with
    | nil => intro b q hb; simp at hb
    | cons r rs ih =>
      intro b q hb hy hbq
      have e : allL (r :: rs) = r.xs_ ++ allL rs := rfl
      rw [e, List.countP_append]
      match q, hb, hbq with
      | 0, hb, hbq =>
        have : (allL rs).countP (fun y => plc y 8 == plc x 8) = 0 := by
          rw [List.countP_eq_zero]
          intro y hyr
          obtain ⟨r2, hr2, hy2⟩ := List.mem_flatMap.1 hyr
          obtain ⟨i, hi, rfl⟩ := List.getElem_of_mem hr2
          have h1 := hy (i+1) (by simpa using hi) y (by simpa using hy2)
          simp only [beq_iff_eq]
          intro h2
          have := h8 y h2
          omega
        rw [this]; simp
      | q+1, hb, hbq =>
        have : r.xs_.countP (fun y => plc y 8 == plc x 8) = 0 := by
          rw [List.countP_eq_zero]
          intro y hyr
          have h1 := hy 0 (by simp) y (by simpa using hyr)
          simp only [beq_iff_eq]
          intro h2
          have := h8 y h2
          omega
        rw [this, Nat.zero_add]
        simp only [List.getElem_cons_succ]
        exact ih (b+1) q (by simpa using hb) (fun i hi y hyy => by
          have := hy (i+1) (by simpa using hi) y (by simpa using hyy)
          omega) (by omega)
  exact key s 0 p hp (fun i hi y hy => by have := hw.2 i hi y hy; omega) (by omega)
theorem grow_eq {s : List RowD} (h : setOk s = true) (x : Int) : growS 4 s x = if besideN s x < 3 then some (growM 4 s x) else none := by
  have hw := wellP_of h
  have h3 := bkt_le3 h x
  have hpos := setOk_pos h
  have hgen : ∀ k, s.length * 2 ^ k = 8 → k ≤ 3 → growS 4 s x = if cntP s x 8 < 3 then some (growM 4 s x) else none := by
    intro k hk hk3
    have hS : ∀ (f : Nat) (t : List RowD) (j : Nat), t.length * 2 ^ j = 8 → j + 1 ≤ f → WellP t.length t → (bktAt t x).length ≤ 3 → growS (f+1) t x = growS f t x := by
      intro f
      induction f with
      | zero => intro t j _ hj; omega
      | succ f ih =>
        intro t j hj hjf htw ht3
        have htpos : 0 < t.length := by rcases Nat.eq_zero_or_pos t.length with h | h; · rw [h] at hj; simp at hj
                                        · exact h
        have eu : ∀ g, growS (g+1) t x = if (bktAt t x).length = 3 then (if t.length = 8 then none else growS g (dblS t) x) else some t := fun g => rfl
        rw [eu (f+1), eu f]
        by_cases h3t : (bktAt t x).length = 3
        · rw [if_pos h3t, if_pos h3t]
          by_cases h8 : t.length = 8
          · rw [if_pos h8, if_pos h8]
          · rw [if_neg h8, if_neg h8]
            match j, hj, hjf with
            | 0, hj, _ => simp at hj; exact absurd hj h8
            | j+1, hj, hjf =>
              have hl2 := dblS_len t
              have hw2 := dblS_wellP t
              refine ih (dblS t) j (by rw [hl2, ← hj, Nat.pow_succ, Nat.mul_comm 2 t.length, Nat.mul_assoc, Nat.mul_comm 2 (2 ^ j)]) (by omega) (by rw [hl2]; exact hw2) ?_
              rw [bkt_cnt (by omega) hw2 x, cntP_dbl htpos]
              have := cntP_up t x htpos
              have := bkt_cnt htpos htw x
              omega
        · rw [if_neg h3t, if_neg h3t]
    have hM : cntP s x 8 < 3 → ∀ f, k + 1 ≤ f → growM f s x = growM (k+1) s x := by
      intro h8 f hf
      obtain ⟨d, rfl⟩ : ∃ d, f = k + 1 + d := ⟨f - (k+1), by omega⟩
      clear hf
      induction d with
      | zero => rfl
      | succ d ih => rw [← ih]; exact growM_fuel (k + 1 + d) s x h8 ⟨k, hk, by omega⟩ hw h3
    have hSS : ∀ f, k + 1 ≤ f → growS f s x = growS (k+1) s x := by
      intro f hf
      obtain ⟨d, rfl⟩ : ∃ d, f = k + 1 + d := ⟨f - (k+1), by omega⟩
      clear hf
      induction d with
      | zero => rfl
      | succ d ih => rw [← ih]; exact hS (k + 1 + d) s k hk (by omega) hw h3
    rw [hSS 4 (by omega), grow_cases (k+1) s x k hk rfl hw h3]
    by_cases h8 : cntP s x 8 < 3
    · rw [if_pos h8, if_pos h8, hM h8 4 (by omega)]
    · rw [if_neg h8, if_neg h8]
  rw [beside_cnt h]
  rcases cntOk_iff.1 (setOk_iff.1 h).1 with e | e | e | e
  · exact hgen 3 (by rw [e]) (by omega)
  · exact hgen 2 (by rw [e]) (by omega)
  · exact hgen 1 (by rw [e]) (by omega)
  · exact hgen 0 (by rw [e]) (by omega)
end Go.Proofs.Ytdgmbcmgjadoiaa
