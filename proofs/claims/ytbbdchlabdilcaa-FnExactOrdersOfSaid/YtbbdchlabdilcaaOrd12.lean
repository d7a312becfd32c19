/- Chapter 12: in how many orders a list of things can be done one at a time: by numbers, by a list, by flags. Of any things. -/
import Derived.Test.YtbbdchlabdilcaaF12p
namespace Go.Ord
section
variable {V D : Type} (can : V → D → Bool) (dov : V → D → V)
/-- One after the other, as long as each can be done. -/
def runG (v : V) : List D → Bool
  | [] => true
  | d :: ds => can v d && runG (dov v d) ds
/-- The list in the order of a number. -/
def ordN {α : Type} : Nat → List α → Nat → List α
  | 0, _, _ => []
  | n+1, xs, q => match xs[q % (n+1)]? with
    | some x => x :: ordN n (xs.eraseIdx (q % (n+1))) (q / (n+1))
    | none => []
def facN : Nat → Nat
  | 0 => 1
  | n+1 => (n+1) * facN n
def okN (b : Bool) : Nat := if b = true then 1 else 0
/-- In how many orders a list can be done. -/
def cntL : Nat → V → List D → Nat
  | 0, _, _ => 1
  | n+1, v, xs => ((List.range (n+1)).map fun i => match xs[i]? with
      | some d => if can v d = true then cntL n (dov v d) (xs.eraseIdx i) else 0
      | none => 0).sum
theorem range_mul_sum (m : Nat) (hm : 0 < m) (g : Nat → Nat → Nat) : ∀ k, ((List.range (m * k)).map fun q => g (q % m) (q / m)).sum = ((List.range m).map fun i => ((List.range k).map fun r => g i r).sum).sum
  | 0 => by
    have h : ∀ l : List Nat, (l.map fun _ => 0).sum = 0 := fun l => by induction l <;> simp_all
    simpa using (h _).symm
  | k+1 => by
    have ih := range_mul_sum m hm g k
    have e1 : List.range (m * (k+1)) = List.range (m * k) ++ (List.range m).map (m * k + ·) := by rw [Nat.mul_succ, List.range_add]
    have e2 : ((List.range m).map fun i => g ((m * k + i) % m) ((m * k + i) / m)) = (List.range m).map fun i => g i k := by
      apply List.map_congr_left
      intro i hi
      rw [List.mem_range] at hi
      rw [Nat.mul_add_mod, Nat.mod_eq_of_lt hi, Nat.mul_add_div hm, Nat.div_eq_of_lt hi, Nat.add_zero]
    have e3 : ∀ l : List Nat, (l.map fun i => ((List.range (k+1)).map fun r => g i r).sum).sum = (l.map fun i => ((List.range k).map fun r => g i r).sum).sum + (l.map fun i => g i k).sum := by
      intro l
      induction l with
      | nil => rfl
      | cons x l ihl => simp only [List.map_cons, List.sum_cons, ihl]; rw [List.range_succ]; simp; omega
    rw [e1, List.map_append, List.sum_append, List.map_map, ih]
    have e4 : ((List.range m).map ((fun q => g (q % m) (q / m)) ∘ (m * k + ·))) = (List.range m).map fun i => g i k := e2
    rw [e4, e3]
theorem sum_zero (l : List Nat) : (l.map fun _ => 0).sum = 0 := by induction l <;> simp_all
theorem eraseIdx_len {α : Type} (xs : List α) (n i : Nat) (h : xs.length = n+1) (hi : i < n+1) : (xs.eraseIdx i).length = n := by
  rw [List.length_eraseIdx]; rw [if_pos (by omega)]; omega
theorem ord_count : ∀ (n : Nat) (v : V) (xs : List D), xs.length = n → ((List.range (facN n)).map fun q => okN (runG can dov v (ordN n xs q))).sum = cntL can dov n v xs
  | 0, v, xs, h => by simp [facN, ordN, runG, okN, cntL]
  | n+1, v, xs, h => by
    have h1 := range_mul_sum (n+1) (Nat.succ_pos n) (fun i r => match xs[i]? with | some x => okN (runG can dov v (x :: ordN n (xs.eraseIdx i) r)) | none => okN (runG can dov v [])) (facN n)
    have h2 : ((List.range (facN (n+1))).map fun q => okN (runG can dov v (ordN (n+1) xs q))) = (List.range ((n+1) * facN n)).map fun q => (fun i r => match xs[i]? with | some x => okN (runG can dov v (x :: ordN n (xs.eraseIdx i) r)) | none => okN (runG can dov v [])) (q % (n+1)) (q / (n+1)) := by
      show ((List.range ((n+1) * facN n)).map _) = _
      apply List.map_congr_left
      intro q _
      show okN (runG can dov v (ordN (n+1) xs q)) = _
      conv => lhs; unfold ordN
      dsimp only
      cases xs[q % (n+1)]? <;> rfl
    rw [h2, h1]
    unfold cntL
    congr 1
    apply List.map_congr_left
    intro i hi
    rw [List.mem_range] at hi
    rw [List.getElem?_eq_getElem (by omega)]
    dsimp only
    by_cases hc : can v xs[i] = true
    · rw [if_pos hc, ← ord_count n (dov v xs[i]) (xs.eraseIdx i) (eraseIdx_len xs n i h hi)]
      congr 1
      apply List.map_congr_left
      intro r _
      show okN (can v xs[i] && runG can dov (dov v xs[i]) (ordN n (xs.eraseIdx i) r)) = _
      rw [hc, Bool.true_and]
    · rw [if_neg hc]
      have : (fun r => okN (runG can dov v (xs[i] :: ordN n (xs.eraseIdx i) r))) = fun _ => 0 := by
        funext r
        unfold runG okN
        rw [show can v xs[i] = false by simpa using hc]; rfl
      rw [this]; exact sum_zero _
/-- By flags: those that are done are left out. -/
def cntF (ds : List D) : Nat → V → List Bool → Nat
  | 0, _, _ => 1
  | n+1, v, dn => ((List.range ds.length).map fun i => if dn.getD i false = true then 0 else match ds[i]? with
      | some d => if can v d = true then cntF ds n (dov v d) (dn.set i true) else 0
      | none => 0).sum
def liveL : List D → List Bool → List D
  | d :: ds, b :: bs => if b = true then liveL ds bs else d :: liveL ds bs
  | _, _ => []
theorem live_append : ∀ (a : List D) (p : List Bool) (b : List D) (q : List Bool), a.length = p.length → liveL (a ++ b) (p ++ q) = liveL a p ++ liveL b q
  | [], [], b, q, _ => by simp [liveL]
  | d :: a, x :: p, b, q, h => by
    have ih := live_append a p b q (by simpa using h)
    show (if x = true then liveL (a ++ b) (p ++ q) else d :: liveL (a ++ b) (p ++ q)) = (if x = true then liveL a p else d :: liveL a p) ++ liveL b q
    rw [ih]
    split <;> simp
theorem range_shift (K : Nat → Nat) (n m : Nat) : ((List.range (m+1)).map fun i => K (n + i)).sum = K n + ((List.range m).map fun i => K (n + 1 + i)).sum := by
  rw [List.range_succ_eq_map, List.map_cons, List.sum_cons, List.map_map]
  congr 2
  apply List.map_congr_left
  intro i _
  show K (n + (i + 1)) = K (n + 1 + i)
  congr 1; omega
theorem live_sum (F H : Nat → Nat) : ∀ (ds1 : List D) (dn1 : List Bool) (ds0 : List D) (dn0 : List Bool), ds1.length = dn1.length → ds0.length = dn0.length →
    (∀ a x b p q, ds1 = a ++ x :: b → dn1 = p ++ false :: q → a.length = p.length → F (ds0.length + a.length) = H ((liveL ds0 dn0).length + (liveL a p).length)) →
    (∀ a x b p q, ds1 = a ++ x :: b → dn1 = p ++ true :: q → a.length = p.length → F (ds0.length + a.length) = 0) →
    ((List.range ds1.length).map fun i => F (ds0.length + i)).sum = ((List.range (liveL ds1 dn1).length).map fun i => H ((liveL ds0 dn0).length + i)).sum
  | [], [], ds0, dn0, _, _, _, _ => by simp [liveL]
  | d :: ds1, b :: dn1, ds0, dn0, h1, h0, hF, hT => by
    have ih := live_sum F H ds1 dn1 (ds0 ++ [d]) (dn0 ++ [b]) (by simpa using h1) (by simpa using h0)
      (fun a x c p q e1 e2 e3 => by
        have := hF (d :: a) x c (b :: p) q (by rw [e1]; rfl) (by rw [e2]; rfl) (by simpa using e3)
        rw [live_append _ _ _ _ h0]
        rw [show (ds0 ++ [d]).length + a.length = ds0.length + (d :: a).length by simp; omega, this]
        cases b <;> simp [liveL] <;> congr 1 <;> omega)
      (fun a x c p q e1 e2 e3 => by
        have := hT (d :: a) x c (b :: p) q (by rw [e1]; rfl) (by rw [e2]; rfl) (by simpa using e3)
        rw [show (ds0 ++ [d]).length + a.length = ds0.length + (d :: a).length by simp; omega, this])
    rw [live_append _ _ _ _ h0] at ih
    rw [List.length_cons, range_shift]
    rw [show (ds0 ++ [d]).length = ds0.length + 1 by simp] at ih
    rw [ih]
    cases b with
    | true =>
      have z := hT [] d ds1 [] dn1 rfl rfl rfl
      rw [show F ds0.length = 0 from z]
      simp [liveL]
    | false =>
      have z := hF [] d ds1 [] dn1 rfl rfl rfl
      rw [show F ds0.length = H (liveL ds0 dn0).length from z]
      rw [show liveL (d :: ds1) (false :: dn1) = d :: liveL ds1 dn1 from rfl, List.length_cons, range_shift]
      simp [liveL]
theorem flags_count (ds : List D) : ∀ (n : Nat) (v : V) (dn : List Bool), ds.length = dn.length → (liveL ds dn).length = n → cntF can dov ds n v dn = cntL can dov n v (liveL ds dn)
  | 0, v, dn, _, _ => by simp [cntF, cntL]
  | n+1, v, dn, hl, hn => by
    unfold cntF cntL
    have z := live_sum (D := D) (fun i => if dn.getD i false = true then 0 else match ds[i]? with
      | some d => if can v d = true then cntF can dov ds n (dov v d) (dn.set i true) else 0
      | none => 0) (fun i => match (liveL ds dn)[i]? with
      | some d => if can v d = true then cntL can dov n (dov v d) ((liveL ds dn).eraseIdx i) else 0
      | none => 0) ds dn [] [] hl rfl
      (fun a x b p q e1 e2 e3 => by
        have g1 : dn.getD a.length false = false := by rw [e2, e3]; simp
        have g2 : ds[a.length]? = some x := by rw [e1]; simp
        have g3 : liveL ds dn = liveL a p ++ x :: liveL b q := by rw [e1, e2, live_append _ _ _ _ e3]; rfl
        have g4 : (liveL ds dn)[(liveL a p).length]? = some x := by rw [g3]; simp
        have g5 : dn.set a.length true = p ++ true :: q := by rw [e2, e3]; simp
        have g6 : liveL ds (p ++ true :: q) = liveL a p ++ liveL b q := by rw [e1, live_append _ _ _ _ e3]; rfl
        have g7 : (liveL ds dn).eraseIdx (liveL a p).length = liveL a p ++ liveL b q := by rw [g3, List.eraseIdx_append_of_length_le (Nat.le_refl _)]; simp
        have hlen : ds.length = (p ++ true :: q).length := by rw [← g5]; simpa using hl
        have hlv : (liveL ds (p ++ true :: q)).length = n := by
          rw [g6]; rw [g3] at hn; simp at hn ⊢; omega
        have ih := flags_count ds n (dov v x) (p ++ true :: q) hlen hlv
        simp only [List.length_nil, Nat.zero_add, liveL, g1, g2, g4, g5, g7]
        rw [ih, g6]; simp)
      (fun a x b p q e1 e2 e3 => by
        have g1 : dn.getD a.length false = true := by rw [e2, e3]; simp
        simp only [List.length_nil, Nat.zero_add, g1]; simp)
    simp only [List.length_nil, Nat.zero_add, liveL] at z
    rw [hn] at z
    exact z
theorem live_none : ∀ (ds : List D), liveL ds (List.replicate ds.length false) = ds
  | [] => rfl
  | d :: ds => by show d :: liveL ds (List.replicate ds.length false) = _; rw [live_none ds]
theorem sum_le_mul (k : Nat) : ∀ (l : List Nat), (∀ x ∈ l, x ≤ k) → l.sum ≤ l.length * k
  | [], _ => by simp
  | x :: l, h => by
    have := sum_le_mul k l fun y hy => h y (List.mem_cons_of_mem _ hy)
    have h2 := h x (List.mem_cons_self ..)
    rw [List.sum_cons, List.length_cons, Nat.add_mul]; omega
theorem cntL_le : ∀ (n : Nat) (v : V) (xs : List D), cntL can dov n v xs ≤ facN n
  | 0, _, _ => Nat.le_refl _
  | n+1, v, xs => by
    unfold cntL facN
    refine Nat.le_trans (sum_le_mul (facN n) _ fun x hx => ?_) (by simp)
    rw [List.mem_map] at hx
    obtain ⟨i, -, rfl⟩ := hx
    split
    · split
      · exact cntL_le n _ _
      · exact Nat.zero_le _
    · exact Nat.zero_le _
theorem live_set : ∀ (ds : List D) (dn : List Bool) (i : Nat), i < ds.length → ds.length = dn.length → dn.getD i false = false → (liveL ds (dn.set i true)).length + 1 = (liveL ds dn).length
  | [], _, _, h, _, _ => by simp at h
  | _ :: _, [], _, _, h, _ => by simp at h
  | d :: ds, b :: bs, 0, _, _, hf => by
    have hb : b = false := by simpa using hf
    subst hb
    rfl
  | d :: ds, b :: bs, i+1, h, hl, hf => by
    have ih := live_set ds bs i (by simpa using h) (by simpa using hl) (by simpa using hf)
    cases b with
    | true => exact ih
    | false => show (liveL ds (bs.set i true)).length + 1 + 1 = (liveL ds bs).length + 1; omega
theorem range_sum_le (f : Nat → Nat) : ∀ (k i : Nat), ((List.range i).map f).sum ≤ ((List.range (i + k)).map f).sum
  | 0, i => Nat.le_refl _
  | k+1, i => by
    have := range_sum_le f k i
    rw [← Nat.add_assoc, List.range_succ, List.map_append, List.sum_append]
    omega
/-- What the place i adds. -/
def termF (ds : List D) (n : Nat) (v : V) (dn : List Bool) (i : Nat) : Nat := if dn.getD i false = true then 0 else match ds[i]? with
      | some d => if can v d = true then cntF can dov ds n (dov v d) (dn.set i true) else 0
      | none => 0
def sumF (ds : List D) (n : Nat) (v : V) (dn : List Bool) (i : Nat) : Nat := ((List.range i).map (termF can dov ds n v dn)).sum
theorem sumF_succ (ds : List D) (n : Nat) (v : V) (dn : List Bool) (i : Nat) : sumF can dov ds n v dn (i+1) = sumF can dov ds n v dn i + termF can dov ds n v dn i := by
  unfold sumF; rw [List.range_succ, List.map_append, List.sum_append]; simp
theorem sumF_all (ds : List D) (n : Nat) (v : V) (dn : List Bool) : sumF can dov ds n v dn ds.length = cntF can dov ds (n+1) v dn := rfl
theorem sumF_le (ds : List D) (n : Nat) (v : V) (dn : List Bool) (i : Nat) (h : i ≤ ds.length) : sumF can dov ds n v dn i ≤ cntF can dov ds (n+1) v dn := by
  rw [← sumF_all]
  have := range_sum_le (termF can dov ds n v dn) (ds.length - i) i
  unfold sumF
  rwa [show i + (ds.length - i) = ds.length by omega] at this
end
end Go.Ord
