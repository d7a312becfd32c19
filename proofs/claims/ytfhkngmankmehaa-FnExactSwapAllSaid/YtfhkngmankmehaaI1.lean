/- Chapter 1's program functions: their contracts. -/
import Derived.Test.YtfhkngmankmehaaF1
namespace Go.Proofs.Ytfhkngmankmehaa
open Go.RowKit Go.Proofs Go.Own

theorem impl_isValue (x : Int) (w : World) :
    Calls Try.prog 47 #[.int .i64 x] w fun e w' => e = .returned (.bool (isVal x)) ∧ w = w' := by
  go_enter Try.func47, Try.ntmps47
  go_wp2
  all_goals go_ret
  all_goals (simp [isVal, inB, *]; try omega)

theorem impl_allValues (v : Value) (xs : List Int) (w : World) (h : Ints w v xs) :
    Calls Try.prog 35 #[v] w fun e w' => e = .returned (.bool (allIn xs (-1000000000) 1000000000 0)) ∧ w = w' := by
  obtain ⟨ad, cap, rfl, hl, hm, hc⟩ := h.open
  have hlen : xs.length ≤ 9223372036854775807 := by omega
  go_enter Try.func35, Try.ntmps35
  go_wp2
  go_loop [7] (fun i => ∃ k : Nat, k ≤ xs.length ∧ i = .int .i64 k ∧ Same (allIn xs (-1000000000) 1000000000 0) (allIn xs (-1000000000) 1000000000 k)) (fun i => xs.length - (intOf i).toNat)
  case atStart => exact ⟨0, by omega, rfl, .rfl⟩
  case round =>
    obtain ⟨k, hk, rfl, hall⟩ := hrel
    by_cases hlt : k < xs.length
    · obtain ⟨bb, off, rfl, hbs, hcell⟩ := hc k hlt
      have hst := hid (allIn_step xs (-1000000000) 1000000000 k hlt)
      clear hc
      go_wp2_with (go_at_call 47; refine (impl_isValue _ _).mono ?_; rintro e w' ⟨rfl, rfl⟩)
      · have hf : (!isVal xs[k]) = true := by assumption
        go_ret
        exact ⟨ret_bool (by rw [hall.out, hst.out]; simp [isVal] at hf; simp [hf]), rfl⟩
      · have hf : (!isVal xs[k]) = false := by assumption
        go_round
        case rel => exact ⟨k+1, by omega, by go_num, .mk (by rw [hall.out, hst.out]; simp [isVal] at hf; simp [hf])⟩
        case measure => simp [intOf]; omega
    · have hst := hid (allIn_end xs (-1000000000) 1000000000 k hlt)
      go_wp2
      go_ret
      exact ⟨ret_bool (by rw [hall.out, hst.out]), rfl⟩

theorem impl_MemoryOk0 (v : Value) (xs : List Int) (w : World) (h : Ints w v xs) :
    Calls Try.prog 11 #[v] w fun e w' => e = .returned (.bool (memOk xs)) ∧ w = w' := by
  have h0 := h
  obtain ⟨ad, cap, rfl, hl, hm⟩ := Flat.form h
  have hlen : xs.length ≤ 9223372036854775807 := by omega
  go_enter Try.func11, Try.ntmps11
  go_wp2_with (go_at_call 35; refine (impl_allValues _ xs _ h0).mono ?_; rintro e w' ⟨rfl, rfl⟩)
  all_goals go_ret
  all_goals (simp [memOk, *]; try omega)
theorem impl_MemoryOk (v : Value) (xs : List Int) (w : World) (h : Ints w v xs) (_hx : xs.length ≤ 1048576) :
    Calls Try.prog 11 #[v] w fun e w' => e = .returned (.bool (memOk xs)) ∧ Below w.heap.size w w' :=
  (impl_MemoryOk0 v xs w h).mono fun _ _ ⟨h1, h2⟩ => ⟨h1, h2 ▸ Below.refl _ _⟩

theorem impl_copyCells (v : Value) (xs : List Int) (w : World) (h : Ints w v xs) (hx : xs.length ≤ 1048576) :
    Calls Try.prog 39 #[v] w fun e w' => ∃ v', e = .returned v' ∧ w'.ownsRow w.heap.size 3 1 v' xs.length (xs.flatMap encI) ∧ Below w.heap.size w w' := by
  obtain ⟨i0, hi, hz0, hz1, hz2⟩ := info_parts infoInt
  have hone := hid (oneCell_enc oneCell_I xs)
  have h0 := h
  obtain ⟨ad, cap, rfl, hl, hm⟩ := Flat.form h
  have hlen : xs.length ≤ 9223372036854775807 := by omega
  go_enter Try.func39, Try.ntmps39
  go_wp2_with (at_make; refine wpList_make_full _ rfl _ _ 58 rfl (w.heap.size) 3 i0 (.int .i64 0) 1 Try.underlying58 hi hz0 hz1 _ _ _ _ xs.length rfl rfl rfl rfl (by rw [hz2]; omega) (by unfold maxLen; omega) (Nat.le_refl _) ?_)
  intro w1 hown hgrow
  have hB := (Below.refl w.heap.size w).grown hgrow (Nat.le_refl _) (by simp)
  go_wp2_with (refine wpList_copy_full (o := ⟨some 9, _, _, _, _, _⟩) rfl _ _ 58 22 rfl 3 Try.underlying58 (by rw [hi]; simp [hz1]) w.heap.size xs.length rfl _ rfl w.heap.size _ (xs.flatMap encI) hown (Flat.below h0 hB) hone.out w.heap.size w hB (Nat.le_refl _) ?_)
  intro w2 ho hB2
  go_wp2
  go_ret
  exact ⟨_, rfl, ho, hB2⟩

theorem impl_isPlace (a : Option Addr) (n cap : Nat) (x : Int) (w : World) (_hn : n ≤ 9223372036854775807) :
    Calls Try.prog 48 #[.slice a n cap, .int .i64 x] w fun e w' => e = .returned (.bool (inB x 0 (n - 1))) ∧ w = w' := by
  go_enter Try.func48, Try.ntmps48
  go_wp2
  all_goals go_ret
  all_goals (simp [inB, *]; try omega)

theorem impl_namedAreValues (kd j old new : Int) (w : World) :
    Calls Try.prog 49 #[.agg #[.int .i64 kd, .int .i64 j, .int .i64 old, .int .i64 new]] w fun e w' => e = .returned (.bool ((decide (kd = 1) || isVal new) && (!decide (kd = 4) || isVal old))) ∧ Below w.heap.size w w' := by
  have hB0 : Below w.heap.size w (w.alloc (.cells #[.int .i64 kd, .int .i64 j, .int .i64 old, .int .i64 new] 30)) := (Below.refl _ _).alloc (Nat.le_refl _) _
  by_cases h1 : kd = 1
  · subst h1
    go_enter Try.func49, Try.ntmps49
    go_wp2_with (go_at_call 47; refine (impl_isValue _ _).mono ?_; rintro e w' ⟨rfl, rfl⟩)
    go_ret
    exact ⟨ret_bool (by simp), hB0⟩
  · have b1 : (kd != 1) = true := by simpa using h1
    cases h2 : isVal new with
    | false =>
      go_enter Try.func49, Try.ntmps49
      go_wp2_with (go_at_call 47; refine (impl_isValue _ _).mono ?_; rintro e w' ⟨rfl, rfl⟩)
      go_ret
      exact ⟨ret_bool (by simp [h1]), hB0⟩
    | true =>
      by_cases h3 : kd = 4
      · subst h3
        go_enter Try.func49, Try.ntmps49
        go_wp2_with (go_at_call 47; refine (impl_isValue _ _).mono ?_; rintro e w' ⟨rfl, rfl⟩)
        go_ret
        exact ⟨ret_bool (by simp), hB0⟩
      · have b3 : (kd != 4) = true := by simpa using h3
        have hq := hid h3
        clear h3
        go_enter Try.func49, Try.ntmps49
        go_wp2_with (go_at_call 47; refine (impl_isValue _ _).mono ?_; rintro e w' ⟨rfl, rfl⟩)
        go_ret
        exact ⟨ret_bool (by simp [hq.out]), hB0⟩

theorem impl_load (base : Nat) (v : Value) (xs : List Int) (kd : Int) (j : Nat) (old new : Int) (w : World) (hj : j < xs.length) (o1 : w.ownsRow base 3 1 v xs.length (xs.flatMap encI)) :
    Calls Try.prog 50 #[v, .agg #[.int .i64 kd, .int .i64 j, .int .i64 old, .int .i64 new]] w fun e w' => e = .returned (.tuple #[.int .i64 (xs[j]), .bool true]) ∧ w'.ownsRow base 3 1 v xs.length ((xs).flatMap encI) ∧ w.grownBy w' v.ownBlock := by
  obtain ⟨g, gcap, rfl, hgl, hgm, hgb, hgs, hgc, hgf⟩ := owns_at o1 (by omega)
  have hgj := hgc j (by omega)
  rw [encI_get _ _ hj] at hgj
  have hgfj := hgf j
  clear hgc hgf
  have hB0 : Below w.heap.size w (w.alloc (.cells #[.int .i64 kd, .int .i64 j, .int .i64 old, .int .i64 new] 30)) := (Below.refl _ _).alloc (Nat.le_refl _) _
  have o2 := owns_below o1 hB0
  have hG := grownBy_of_below (Value.slice (some ⟨g, 0, none⟩) xs.length gcap).ownBlock hB0
  have hst : ∀ x, Hid ((((w.setCell ⟨g, j, none⟩ (.int .i64 x)).alloc (.cells #[.int .i64 kd, .int .i64 j, .int .i64 old, .int .i64 new] 30)).ownsRow base 3 1 (.slice (some ⟨g, 0, none⟩) xs.length gcap) xs.length ((xs.set j x).flatMap encI)) ∧
      w.grownBy ((w.setCell ⟨g, j, none⟩ (.int .i64 x)).alloc (.cells #[.int .i64 kd, .int .i64 j, .int .i64 old, .int .i64 new] 30)) (Value.slice (some ⟨g, 0, none⟩) xs.length gcap).ownBlock) := fun x => by
    have h := World.ownsRow.stored o1 j (.int .i64 x)
    rw [encI_set] at h
    have hB1 : Below (w.setCell ⟨g, j, none⟩ (.int .i64 x)).heap.size (w.setCell ⟨g, j, none⟩ (.int .i64 x)) ((w.setCell ⟨g, j, none⟩ (.int .i64 x)).alloc (.cells #[.int .i64 kd, .int .i64 j, .int .i64 old, .int .i64 new] 30)) := (Below.refl _ _).alloc (Nat.le_refl _) _
    exact ⟨owns_below h.1 hB1, grownBy_trans h.2 (grownBy_of_below _ hB1)⟩
  go_enter Try.func50, Try.ntmps50
  go_wp2
  go_ret2
  exact ⟨rfl, o2, hG⟩

theorem impl_store (base : Nat) (v : Value) (xs : List Int) (kd : Int) (j : Nat) (old new : Int) (w : World) (hj : j < xs.length) (o1 : w.ownsRow base 3 1 v xs.length (xs.flatMap encI)) :
    Calls Try.prog 51 #[v, .agg #[.int .i64 kd, .int .i64 j, .int .i64 old, .int .i64 new]] w fun e w' => e = .returned (.tuple #[.int .i64 (new), .bool true]) ∧ w'.ownsRow base 3 1 v xs.length ((xs.set j new).flatMap encI) ∧ w.grownBy w' v.ownBlock := by
  obtain ⟨g, gcap, rfl, hgl, hgm, hgb, hgs, hgc, hgf⟩ := owns_at o1 (by omega)
  have hgj := hgc j (by omega)
  rw [encI_get _ _ hj] at hgj
  have hgfj := hgf j
  clear hgc hgf
  have hB0 : Below w.heap.size w (w.alloc (.cells #[.int .i64 kd, .int .i64 j, .int .i64 old, .int .i64 new] 30)) := (Below.refl _ _).alloc (Nat.le_refl _) _
  have o2 := owns_below o1 hB0
  have hG := grownBy_of_below (Value.slice (some ⟨g, 0, none⟩) xs.length gcap).ownBlock hB0
  have hst : ∀ x, Hid ((((w.setCell ⟨g, j, none⟩ (.int .i64 x)).alloc (.cells #[.int .i64 kd, .int .i64 j, .int .i64 old, .int .i64 new] 30)).ownsRow base 3 1 (.slice (some ⟨g, 0, none⟩) xs.length gcap) xs.length ((xs.set j x).flatMap encI)) ∧
      w.grownBy ((w.setCell ⟨g, j, none⟩ (.int .i64 x)).alloc (.cells #[.int .i64 kd, .int .i64 j, .int .i64 old, .int .i64 new] 30)) (Value.slice (some ⟨g, 0, none⟩) xs.length gcap).ownBlock) := fun x => by
    have h := World.ownsRow.stored o1 j (.int .i64 x)
    rw [encI_set] at h
    have hB1 : Below (w.setCell ⟨g, j, none⟩ (.int .i64 x)).heap.size (w.setCell ⟨g, j, none⟩ (.int .i64 x)) ((w.setCell ⟨g, j, none⟩ (.int .i64 x)).alloc (.cells #[.int .i64 kd, .int .i64 j, .int .i64 old, .int .i64 new] 30)) := (Below.refl _ _).alloc (Nat.le_refl _) _
    exact ⟨owns_below h.1 hB1, grownBy_trans h.2 (grownBy_of_below _ hB1)⟩
  go_enter Try.func51, Try.ntmps51
  go_wp2
  go_ret2
  exact ⟨rfl, (hst _).out⟩

theorem impl_swap (base : Nat) (v : Value) (xs : List Int) (kd : Int) (j : Nat) (old new : Int) (w : World) (hj : j < xs.length) (o1 : w.ownsRow base 3 1 v xs.length (xs.flatMap encI)) :
    Calls Try.prog 52 #[v, .agg #[.int .i64 kd, .int .i64 j, .int .i64 old, .int .i64 new]] w fun e w' => e = .returned (.tuple #[.int .i64 (xs[j]), .bool true]) ∧ w'.ownsRow base 3 1 v xs.length ((xs.set j new).flatMap encI) ∧ w.grownBy w' v.ownBlock := by
  obtain ⟨g, gcap, rfl, hgl, hgm, hgb, hgs, hgc, hgf⟩ := owns_at o1 (by omega)
  have hgj := hgc j (by omega)
  rw [encI_get _ _ hj] at hgj
  have hgfj := hgf j
  clear hgc hgf
  have hB0 : Below w.heap.size w (w.alloc (.cells #[.int .i64 kd, .int .i64 j, .int .i64 old, .int .i64 new] 30)) := (Below.refl _ _).alloc (Nat.le_refl _) _
  have o2 := owns_below o1 hB0
  have hG := grownBy_of_below (Value.slice (some ⟨g, 0, none⟩) xs.length gcap).ownBlock hB0
  have hst : ∀ x, Hid ((((w.setCell ⟨g, j, none⟩ (.int .i64 x)).alloc (.cells #[.int .i64 kd, .int .i64 j, .int .i64 old, .int .i64 new] 30)).ownsRow base 3 1 (.slice (some ⟨g, 0, none⟩) xs.length gcap) xs.length ((xs.set j x).flatMap encI)) ∧
      w.grownBy ((w.setCell ⟨g, j, none⟩ (.int .i64 x)).alloc (.cells #[.int .i64 kd, .int .i64 j, .int .i64 old, .int .i64 new] 30)) (Value.slice (some ⟨g, 0, none⟩) xs.length gcap).ownBlock) := fun x => by
    have h := World.ownsRow.stored o1 j (.int .i64 x)
    rw [encI_set] at h
    have hB1 : Below (w.setCell ⟨g, j, none⟩ (.int .i64 x)).heap.size (w.setCell ⟨g, j, none⟩ (.int .i64 x)) ((w.setCell ⟨g, j, none⟩ (.int .i64 x)).alloc (.cells #[.int .i64 kd, .int .i64 j, .int .i64 old, .int .i64 new] 30)) := (Below.refl _ _).alloc (Nat.le_refl _) _
    exact ⟨owns_below h.1 hB1, grownBy_trans h.2 (grownBy_of_below _ hB1)⟩
  go_enter Try.func52, Try.ntmps52
  go_wp2
  go_ret2
  exact ⟨rfl, (hst _).out⟩

theorem impl_swapIf (base : Nat) (v : Value) (xs : List Int) (kd : Int) (j : Nat) (old new : Int) (w : World) (hj : j < xs.length) (o1 : w.ownsRow base 3 1 v xs.length (xs.flatMap encI)) :
    Calls Try.prog 53 #[v, .agg #[.int .i64 kd, .int .i64 j, .int .i64 old, .int .i64 new]] w fun e w' => e = .returned (.tuple #[.int .i64 (xs[j]), .bool true]) ∧ w'.ownsRow base 3 1 v xs.length ((if xs[j] = old then xs.set j new else xs).flatMap encI) ∧ w.grownBy w' v.ownBlock := by
  obtain ⟨g, gcap, rfl, hgl, hgm, hgb, hgs, hgc, hgf⟩ := owns_at o1 (by omega)
  have hgj := hgc j (by omega)
  rw [encI_get _ _ hj] at hgj
  have hgfj := hgf j
  clear hgc hgf
  have hB0 : Below w.heap.size w (w.alloc (.cells #[.int .i64 kd, .int .i64 j, .int .i64 old, .int .i64 new] 30)) := (Below.refl _ _).alloc (Nat.le_refl _) _
  have o2 := owns_below o1 hB0
  have hG := grownBy_of_below (Value.slice (some ⟨g, 0, none⟩) xs.length gcap).ownBlock hB0
  have hst : ∀ x, Hid ((((w.setCell ⟨g, j, none⟩ (.int .i64 x)).alloc (.cells #[.int .i64 kd, .int .i64 j, .int .i64 old, .int .i64 new] 30)).ownsRow base 3 1 (.slice (some ⟨g, 0, none⟩) xs.length gcap) xs.length ((xs.set j x).flatMap encI)) ∧
      w.grownBy ((w.setCell ⟨g, j, none⟩ (.int .i64 x)).alloc (.cells #[.int .i64 kd, .int .i64 j, .int .i64 old, .int .i64 new] 30)) (Value.slice (some ⟨g, 0, none⟩) xs.length gcap).ownBlock) := fun x => by
    have h := World.ownsRow.stored o1 j (.int .i64 x)
    rw [encI_set] at h
    have hB1 : Below (w.setCell ⟨g, j, none⟩ (.int .i64 x)).heap.size (w.setCell ⟨g, j, none⟩ (.int .i64 x)) ((w.setCell ⟨g, j, none⟩ (.int .i64 x)).alloc (.cells #[.int .i64 kd, .int .i64 j, .int .i64 old, .int .i64 new] 30)) := (Below.refl _ _).alloc (Nat.le_refl _) _
    exact ⟨owns_below h.1 hB1, grownBy_trans h.2 (grownBy_of_below _ hB1)⟩
  by_cases he : xs[j] = old
  · have hb : (xs[j] == old) = true := by simpa using he
    rw [if_pos he]
    clear he
    go_enter Try.func53, Try.ntmps53
    go_wp2
    go_ret2
    exact ⟨rfl, (hst _).out⟩
  · have hb : (xs[j] == old) = false := by simpa using he
    rw [if_neg he]
    clear he
    go_enter Try.func53, Try.ntmps53
    go_wp2
    go_ret2
    exact ⟨rfl, o2, hG⟩

theorem impl_add (base : Nat) (v : Value) (xs : List Int) (kd : Int) (j : Nat) (old new : Int) (w : World) (hj : j < xs.length) (o1 : w.ownsRow base 3 1 v xs.length (xs.flatMap encI)) (hb1 : -1000000000 ≤ xs[j] ∧ xs[j] ≤ 1000000000) (hb2 : -1000000000 ≤ new ∧ new ≤ 1000000000) :
    Calls Try.prog 54 #[v, .agg #[.int .i64 kd, .int .i64 j, .int .i64 old, .int .i64 new]] w fun e w' => e = .returned (.tuple #[.int .i64 (if isVal (xs[j] + new) then xs[j] + new else 0), .bool (isVal (xs[j] + new))]) ∧ w'.ownsRow base 3 1 v xs.length ((if isVal (xs[j] + new) then xs.set j (xs[j] + new) else xs).flatMap encI) ∧ w.grownBy w' v.ownBlock := by
  obtain ⟨g, gcap, rfl, hgl, hgm, hgb, hgs, hgc, hgf⟩ := owns_at o1 (by omega)
  have hgj := hgc j (by omega)
  rw [encI_get _ _ hj] at hgj
  have hgfj := hgf j
  clear hgc hgf
  have hB0 : Below w.heap.size w (w.alloc (.cells #[.int .i64 kd, .int .i64 j, .int .i64 old, .int .i64 new] 30)) := (Below.refl _ _).alloc (Nat.le_refl _) _
  have o2 := owns_below o1 hB0
  have hG := grownBy_of_below (Value.slice (some ⟨g, 0, none⟩) xs.length gcap).ownBlock hB0
  have hst : ∀ x, Hid ((((w.setCell ⟨g, j, none⟩ (.int .i64 x)).alloc (.cells #[.int .i64 kd, .int .i64 j, .int .i64 old, .int .i64 new] 30)).ownsRow base 3 1 (.slice (some ⟨g, 0, none⟩) xs.length gcap) xs.length ((xs.set j x).flatMap encI)) ∧
      w.grownBy ((w.setCell ⟨g, j, none⟩ (.int .i64 x)).alloc (.cells #[.int .i64 kd, .int .i64 j, .int .i64 old, .int .i64 new] 30)) (Value.slice (some ⟨g, 0, none⟩) xs.length gcap).ownBlock) := fun x => by
    have h := World.ownsRow.stored o1 j (.int .i64 x)
    rw [encI_set] at h
    have hB1 : Below (w.setCell ⟨g, j, none⟩ (.int .i64 x)).heap.size (w.setCell ⟨g, j, none⟩ (.int .i64 x)) ((w.setCell ⟨g, j, none⟩ (.int .i64 x)).alloc (.cells #[.int .i64 kd, .int .i64 j, .int .i64 old, .int .i64 new] 30)) := (Below.refl _ _).alloc (Nat.le_refl _) _
    exact ⟨owns_below h.1 hB1, grownBy_trans h.2 (grownBy_of_below _ hB1)⟩
  cases hv : isVal (xs[j] + new) with
  | true =>
    go_enter Try.func54, Try.ntmps54
    go_wp2
    go_quiet (fail)
    go_wp2_with (go_at_call 47; refine (impl_isValue _ _).mono ?_; rintro e w' ⟨rfl, rfl⟩)
    go_ret2
    have h := World.ownsRow.stored (w := (w.alloc (.cells #[.int .i64 kd, .int .i64 j, .int .i64 old, .int .i64 new] 30)).drewN nq) o2 j (.int .i64 (xs[j] + new))
    rw [encI_set] at h
    exact ⟨rfl, h.1, grownBy_trans (grownBy_drewN hG nq) h.2⟩
  | false =>
    go_enter Try.func54, Try.ntmps54
    go_wp2
    go_quiet (fail)
    go_wp2_with (go_at_call 47; refine (impl_isValue _ _).mono ?_; rintro e w' ⟨rfl, rfl⟩)
    go_ret2
    exact ⟨rfl, o2, grownBy_drewN hG nq⟩

def stepsObj : Obj := .map #[{ key := .int .i64 1, val := .func (.func 50) #[] #[], born := 0 }, { key := .int .i64 2, val := .func (.func 51) #[] #[], born := 1 }, { key := .int .i64 3, val := .func (.func 52) #[] #[], born := 2 },
  { key := .int .i64 4, val := .func (.func 53) #[] #[], born := 3 }, { key := .int .i64 5, val := .func (.func 54) #[] #[], born := 4 }] 5
theorem impl_wordSteps (w : World) :
    Calls Try.prog 41 #[] w fun e w' => e = .returned (.map (some w.heap.size)) ∧ w' = w.alloc stepsObj := by
  have i1 := run_insert_made (w := w) Try.underlying62 Try.underlying3 #[] 0 (.int .i64 1) (.func (.func 50) #[] #[]) rfl
  have i2 := run_insert_made (w := w) Try.underlying62 Try.underlying3 #[{ key := .int .i64 1, val := .func (.func 50) #[] #[], born := 0 }] 1 (.int .i64 2) (.func (.func 51) #[] #[]) rfl
  have i3 := run_insert_made (w := w) Try.underlying62 Try.underlying3 #[{ key := .int .i64 1, val := .func (.func 50) #[] #[], born := 0 }, { key := .int .i64 2, val := .func (.func 51) #[] #[], born := 1 }] 2 (.int .i64 3) (.func (.func 52) #[] #[]) rfl
  have i4 := run_insert_made (w := w) Try.underlying62 Try.underlying3 #[{ key := .int .i64 1, val := .func (.func 50) #[] #[], born := 0 }, { key := .int .i64 2, val := .func (.func 51) #[] #[], born := 1 }, { key := .int .i64 3, val := .func (.func 52) #[] #[], born := 2 }] 3 (.int .i64 4) (.func (.func 53) #[] #[]) rfl
  have i5 := run_insert_made (w := w) Try.underlying62 Try.underlying3 #[{ key := .int .i64 1, val := .func (.func 50) #[] #[], born := 0 }, { key := .int .i64 2, val := .func (.func 51) #[] #[], born := 1 }, { key := .int .i64 3, val := .func (.func 52) #[] #[], born := 2 }, { key := .int .i64 4, val := .func (.func 53) #[] #[], born := 3 }] 4 (.int .i64 5) (.func (.func 54) #[] #[]) rfl
  simp only [List.push_toArray, List.nil_append, List.cons_append, Nat.zero_add, Nat.reduceAdd] at i1 i2 i3 i4 i5
  have hmm := @run_makeMap Try.prog
  go_enter Try.func41, Try.ntmps41
  go_wp2
  go_ret
  exact ⟨rfl, rfl⟩
end Go.Proofs.Ytfhkngmankmehaa
