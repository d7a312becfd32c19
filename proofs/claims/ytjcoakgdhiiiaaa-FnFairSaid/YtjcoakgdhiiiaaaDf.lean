/- Chapter 5: what DrawFair draws. -/
import Derived.Test.YtjcoakgdhiiiaaaCur
import Derived.Test.YtjcoakgdhiiiaaaW5
import Derived.Maps.Range
namespace Go.Proofs.Ytjcoakgdhiiiaaa
set_option maxRecDepth 100000
open Go.RowKit Go.Proofs Go.Own
set_option linter.unusedVariables false
set_option linter.unusedSimpArgs false
theorem keepN {w w' : World} {N e s n b : Nat} {v : Value} {cs : List Value} (h : w.ownsRow N e s v n cs) (g : w.grownBy w' (some b)) (hb : b < N) : w'.ownsRow N e s v n cs :=
  World.ownsRow.kept h g (.inr fun e => by have := (World.ownsRow.lt h _ e).1; omega)
theorem lit_at (w : World) (b : Nat) (hb : w.heap.size = b) (x y : Int) : Flat (w.alloc (.cells #[.int .i64 x, .int .i64 y] 56)) (.slice (some ⟨b, 0, none⟩) 1 1) 1 2 [.int .i64 x, .int .i64 y] := by
  subst hb
  exact Flat.of_owns (owns_litN w 56 2 1 #[.int .i64 x, .int .i64 y] 0 (Nat.zero_le _) rfl (by decide))
theorem below_grown2 {w0 w w' : World} {b : Nat} (hB : Below w0.heap.size w0 w) (g : w.grownBy w' (some b)) (hb : w0.heap.size ≤ b) : Below w0.heap.size w0 w' :=
  hB.trans (below_grown g hB.size fun k hk => by cases hk; exact hb)
set_option maxHeartbeats 8000000 in
theorem spec_l5Draw (w0 w : World) (v : Value) (xs : List Int) (hx : xs.length ≤ 1048576) (h : Bytes w0 v xs) (hin : BytesIn xs) (hB : Below w0.heap.size w0 w) (b : Nat) (hb : w0.heap.size ≤ b) (c : Cur w b v xs.length) :
    Calls Try.prog 31 #[.pointer (some ⟨b, 0, none⟩)] w fun e w' => ∃ (v' : Value) (O : List Run), e = .returned v' ∧ O.length ≤ 11 ∧ w'.ownsRow w.heap.size 56 2 v' O.length (O.flatMap Run.enc) ∧ Cur w' b v xs.length ∧ w.grownBy w' (some b) := by
  obtain ⟨i0, hi, hz0, hz1, hz2⟩ := info_parts infoRun5
  have hbw : b < w.heap.size := by obtain ⟨_, _, _, hh⟩ := c; exact hh.1.1
  have hk := hid (fun (W : World) (g : w.grownBy W (some b)) (cc : Cur W b v xs.length) (n : Nat) (n1 : 1 ≤ n) (n2 : n ≤ 256) => spec_l1Below w0 W v xs hx h hin (below_grown2 hB g hb) b hb cc n n1 n2)
  have ho := hid (fun (W : World) (g : w.grownBy W (some b)) (cc : Cur W b v xs.length) (n : Nat) (n1 : 1 ≤ n) (n2 : n ≤ 256) => spec_l1Once w0 W v xs hx h hin (below_grown2 hB g hb) b hb cc n n1 n2)
  clear h hin
  obtain ⟨W1, hW1⟩ : ∃ X, w.alloc (.cells #[] 56) = X := ⟨_, rfl⟩
  have hB1 : Below w.heap.size w W1 := by rw [← hW1]; exact (Below.refl _ _).alloc (Nat.le_refl _) _
  have o1 : W1.ownsRow w.heap.size 56 2 (.slice (some ⟨w.heap.size, 0, none⟩) 0 0) 0 [] := by rw [← hW1]; exact World.ownsRow_made _ _ _ (Nat.le_refl _) (by decide) rfl
  have g1 : w.grownBy W1 (some b) := grownBy_of_below _ hB1
  have c1 := c.below hB1
  clear c
  go_enter Try.func31, Try.ntmps31
  go_wp2_with fail
  clear hW1
  refine (hk.out W1 g1 c1 12 (by omega) (by omega)).mono ?_
  rintro e w2 ⟨r, hr, rfl, c2, g2⟩
  have o2 := keepN o1 g2 hbw
  have g3 := grownBy_trans g1 g2
  clear g1 g2 c1 o1 hB1 hB
  go_wp2
  go_loopw [3, 4] (fun o i wr => ∃ (k : Nat) (O : List Run), k ≤ 11 ∧ i = .int .i64 k ∧ O.length + k ≤ 11 ∧ wr.ownsRow w.heap.size 56 2 o O.length (O.flatMap Run.enc) ∧ Cur wr b v xs.length ∧ w.grownBy wr (some b)) (fun _ i _ => (intOf i).toNat)
  case atStart => exact ⟨r, [], by omega, rfl, by simp; omega, o2, c2, g3⟩
  case round =>
    clear o2 c2 g3
    obtain ⟨k, O, hk11, rfl, hO, o, cc, g⟩ := hrel
    by_cases h0 : (0 : Int) < (k : Int)
    · go_wp2_with fail
      refine (hk.out wr g cc 3 (by omega) (by omega)).mono ?_
      rintro e w3 ⟨r1, hr1, rfl, c3, g3⟩
      have o3 := keepN o g3 hbw
      have hnr : Hid (∀ j : Nat, u3.ownBlock = some j → w3.heap.size ≤ j → False) := hid fun j e hj => absurd (World.ownsRow.lt o3 j e).2 (by omega)
      have gg3 := grownBy_trans g g3
      clear o cc g g3
      obtain ⟨W3, hW3⟩ : ∃ X, w3.alloc (.cells #[.int .i64 (r1 : Int), .int .i64 1] 56) = X := ⟨_, rfl⟩
      have bx : BoxF W3 w3.heap.size [.int .i64 (r1 : Int), .int .i64 1] := by rw [← hW3]; exact BoxF.alloc _ _ _
      have a3 : Below w3.heap.size w3 W3 := by rw [← hW3]; exact (Below.refl _ _).alloc (Nat.le_refl _) _
      have o4 := owns_below o3 a3
      have c4 := c3.below a3
      have g4 := grownBy_trans gg3 (grownBy_of_below (some b) a3)
      have hsz := gg3.size
      clear o3 c3 a3
      have z0 : W3.cell? ⟨w3.heap.size, 0, none⟩ = some (.int .i64 (r1 : Int)) := bx.1.2 0 (by simp)
      go_wp2_with fail
      clear hW3 z0
      refine (ho.out W3 g4 c4 2 (by omega) (by omega)).mono ?_
      rintro e w5 ⟨B, rfl, c5, g5⟩
      have o5 := keepN o4 g5 hbw
      have bx5 := BoxF.grown bx g5 (by intro e; have := Option.some.inj e; omega)
      have gg5 := grownBy_trans g4 g5
      clear o4 c4 g4 g5 bx
      have bne : ¬ w3.heap.size = b := by omega
      have bne2 : ¬ b = w3.heap.size := by omega
      cases B with
      | false =>
        have z0 : w5.cell? ⟨w3.heap.size, 0, none⟩ = some (.int .i64 (r1 : Int)) := bx5.1.2 0 (by simp)
        have z1 : w5.cell? ⟨w3.heap.size, 1, none⟩ = some (.int .i64 1) := bx5.1.2 1 (by simp)
        have oA := World.ownsRow.alloc o5 (.cells #[.int .i64 (r1 : Int), .int .i64 1] 56)
        have lit := lit_at w5 _ rfl (r1 : Int) 1
        have szw : w.heap.size ≤ w5.heap.size := (gg5).size
        go_wp2_with (at_builtin; refine wpList_append_flat rfl _ _ 35 rfl w.heap.size 56 i0 (.agg #[.int .i64 0, .int .i64 0]) 2 16 Try.underlying35 hi hz0 hz1 hz2 rfl (by decide) _ _ _ rfl oA _ 1 [.int .i64 (r1 : Int), .int .i64 1] rfl lit (by intro c hc; simp at hc; rcases hc with rfl | rfl <;> rfl) (by unfold maxLen; omega) (by omega) (by simp; omega) ?_)
        intro v9 w9 o9 g9
        have b9 := below_of_mark2 oA g9 (Nat.le_refl _) (by simp; omega)
        have q9 := World.grownBy.andThen (gg5) (World.grownBy_alloc w5 (.cells #[.int .i64 (r1 : Int), .int .i64 1] 56) (some b)) (fun j e => .inr e)
        have ltA := World.ownsRow.lt oA
        have gA := World.grownBy.andThen q9 g9 (fun j e => .inl (ltA j e).1)
        have cA := Cur.grown (Cur.below c5 ((Below.refl _ _).alloc (Nat.le_refl _) _)) g9 (by intro e; have := (ltA b e).1; omega)
        clear lit oA g9 b9 q9 ltA
        go_wp2
        go_roundw
        case rel => exact ⟨k - 1, O ++ [⟨(r1 : Int), 1⟩], by omega, by go_num, by simp; omega, by rw [encR_snoc, List.length_append]; exact o9, cA, gA⟩
        case measure => simp [intOf]; omega
      | true =>
        go_wp2_with fail
        refine (hk.out w5 gg5 c5 30 (by omega) (by omega)).mono ?_
        rintro e w6 ⟨r2, hr2, rfl, c6, g6⟩
        have o6 := keepN o5 g6 hbw
        have bx6 := BoxF.grown bx5 g6 (by intro e; have := Option.some.inj e; omega)
        have gg6 := grownBy_trans gg5 g6
        clear o5 c5 g6 gg5 bx5
        have z0 : w6.cell? ⟨w3.heap.size, 0, none⟩ = some (.int .i64 (r1 : Int)) := bx6.1.2 0 (by simp)
        have z1 : w6.cell? ⟨w3.heap.size, 1, none⟩ = some (.int .i64 1) := bx6.1.2 1 (by simp)
        have zf : w6.frozen? ⟨w3.heap.size, 1, none⟩ = false := bx6.2 1 (by simp)
        have hr2' : (r2 : Int) < 30 := by omega
        have gs := grownBy_setCell w6 ⟨w3.heap.size, 1, none⟩ (.int .i64 (1 + (r2 : Int)))
        have o7 : (w6.setCell ⟨w3.heap.size, 1, none⟩ (.int .i64 (1 + (r2 : Int)))).ownsRow w.heap.size 56 2 u3 O.length (O.flatMap Run.enc) := World.ownsRow.kept o6 gs (.inr (by intro e; exact hnr.out w3.heap.size e (Nat.le_refl _)))
        have c7 := Cur.grown c6 gs (by intro e; have := Option.some.inj e; exact bne this)
        have gg7 := World.grownBy.andThen gg6 gs (fun j e => .inl (by have := Option.some.inj e; simp at this; omega))
        have eH : (w6.setCell ⟨w3.heap.size, 1, none⟩ (.int .i64 (1 + (r2 : Int)))).heap.size = w6.heap.size := by simp [World.setCell]
        clear o6 c6 gg6 gs
        have oA := World.ownsRow.alloc o7 (.cells #[.int .i64 (r1 : Int), .int .i64 (1 + (r2 : Int))] 56)
        have lit := lit_at (w6.setCell ⟨w3.heap.size, 1, none⟩ (.int .i64 (1 + (r2 : Int)))) w6.heap.size eH (r1 : Int) (1 + (r2 : Int))
        have szw : w.heap.size ≤ (w6.setCell ⟨w3.heap.size, 1, none⟩ (.int .i64 (1 + (r2 : Int)))).heap.size := (gg7).size
        go_wp2_with (at_builtin; refine wpList_append_flat rfl _ _ 35 rfl w.heap.size 56 i0 (.agg #[.int .i64 0, .int .i64 0]) 2 16 Try.underlying35 hi hz0 hz1 hz2 rfl (by decide) _ _ _ rfl oA _ 1 [.int .i64 (r1 : Int), .int .i64 (1 + (r2 : Int))] rfl lit (by intro c hc; simp at hc; rcases hc with rfl | rfl <;> rfl) (by unfold maxLen; omega) (by omega) (by simp; omega) ?_)
        intro v9 w9 o9 g9
        have b9 := below_of_mark2 oA g9 (Nat.le_refl _) (by simp; omega)
        have q9 := World.grownBy.andThen (gg7) (World.grownBy_alloc (w6.setCell ⟨w3.heap.size, 1, none⟩ (.int .i64 (1 + (r2 : Int)))) (.cells #[.int .i64 (r1 : Int), .int .i64 (1 + (r2 : Int))] 56) (some b)) (fun j e => .inr e)
        have ltA := World.ownsRow.lt oA
        have gA := World.grownBy.andThen q9 g9 (fun j e => .inl (ltA j e).1)
        have cA := Cur.grown (Cur.below c7 ((Below.refl _ _).alloc (Nat.le_refl _) _)) g9 (by intro e; have := (ltA b e).1; omega)
        clear lit oA g9 b9 q9 ltA
        go_wp2
        go_roundw
        case rel => exact ⟨k - 1, O ++ [⟨(r1 : Int), (1 + (r2 : Int))⟩], by omega, by go_num, by simp; omega, by rw [encR_snoc, List.length_append]; exact o9, cA, gA⟩
        case measure => simp [intOf]; omega
    · go_wp2
      go_ret
      exact ⟨_, rfl, O, by omega, o, cc, g⟩
theorem lit_a (w : World) : Ints (w.alloc (.cells #[.int .i64 1, .int .i64 2, .int .i64 3, .int .i64 4, .int .i64 2, .int .i64 3, .int .i64 0, .int .i64 5] 3)) (.slice (some ⟨w.heap.size, 0, none⟩) 8 8) [1, 2, 3, 4, 2, 3, 0, 5] := by
  have h := Flat.of_owns (owns_litN w 3 1 8 #[.int .i64 1, .int .i64 2, .int .i64 3, .int .i64 4, .int .i64 2, .int .i64 3, .int .i64 0, .int .i64 5] 0 (Nat.zero_le _) rfl (by decide))
  simpa [Ints, encI] using h
theorem lit_b (w : World) : Ints (w.alloc (.cells #[.int .i64 1, .int .i64 5, .int .i64 10, .int .i64 20, .int .i64 40, .int .i64 1500, .int .i64 1501, .int .i64 0] 3)) (.slice (some ⟨w.heap.size, 0, none⟩) 8 8) [1, 5, 10, 20, 40, 1500, 1501, 0] := by
  have h := Flat.of_owns (owns_litN w 3 1 8 #[.int .i64 1, .int .i64 5, .int .i64 10, .int .i64 20, .int .i64 40, .int .i64 1500, .int .i64 1501, .int .i64 0] 0 (Nat.zero_le _) rfl (by decide))
  simpa [Ints, encI] using h
theorem lit_c (w : World) : Ints (w.alloc (.cells #[.int .i64 (-1), .int .i64 3, .int .i64 4] 3)) (.slice (some ⟨w.heap.size, 0, none⟩) 3 3) [-1, 3, 4] := by
  have h := Flat.of_owns (owns_litN w 3 1 3 #[.int .i64 (-1), .int .i64 3, .int .i64 4] 0 (Nat.zero_le _) rfl (by decide))
  simpa [Ints, encI] using h
theorem stepsC_len2 (xs : List Run) : (stepsC xs).length ≤ 2000 := by
  unfold stepsC
  split
  · rename_i h
    have := okFrom_len xs 0 (by unfold schedOk at h; simp at h; exact h.2) (by omega)
    omega
  · simp
set_option maxHeartbeats 8000000 in
theorem spec_DrawFair (w : World) (v : Value) (xs : List Int) (hx : xs.length ≤ 1048576) (h : Bytes w v xs) (hin : BytesIn xs) :
    Calls Try.prog 10 #[v] w fun e w' => ∃ (u : Value) (ys : List Int) (th win : Int), e = .returned (.tuple #[u, .int .i64 th, .int .i64 win]) ∧ ys.length ≤ 3000 ∧ InI th ∧ InI win ∧ w'.ownsRow w.heap.size 3 1 u ys.length (ys.flatMap encI) ∧ Below w.heap.size w w' := by
  obtain ⟨i0, hi, hz0, hz1, hz2⟩ := info_parts infoInt5
  have h0 := h
  obtain ⟨a, cap, rfl, hl, hm, _⟩ := h.open
  clear h
  go_enter Try.func10, Try.ntmps10
  go_wp2_with fail
  refine (spec_l1New w _ xs hx h0 hin).mono ?_
  rintro e w1 ⟨rfl, c1, b1⟩
  have hbw : w.heap.size < w1.heap.size := by obtain ⟨_, _, _, hh⟩ := c1; exact hh.1.1
  go_wp2_with fail
  refine (spec_l5Draw w w1 _ xs hx h0 hin b1 w.heap.size (Nat.le_refl _) c1).mono ?_
  rintro e w2 ⟨v2, O, rfl, hO, o2, c2, g2⟩
  have b2 := below_grown2 b1 g2 (Nat.le_refl _)
  have z2 := g2.size
  go_wp2_with fail
  refine (spec_Steps0 _ O w2 (Flat.of_owns o2) (by omega)).mono ?_
  rintro e w3 ⟨v3, rfl, o3, b3⟩
  change w3.ownsRow w2.heap.size _ 1 v3 (stepsC O).length ((stepsC O).flatMap encI) at o3
  have hS := stepsC_len2 O
  obtain ⟨S, hSe⟩ : ∃ S, stepsC O = S := ⟨_, rfl⟩
  rw [hSe] at o3 hS
  clear hSe
  have c3 := c2.below b3
  have e3 := b2.trans (b3.mono b2.size)
  have z3 := b3.size
  clear o2 c2 g2 b2 b1 c1 hO b3
  go_wp2_with fail
  refine (spec_l1Once w w3 _ xs hx h0 hin e3 w.heap.size (Nat.le_refl _) c3 30 (by omega) (by omega)).mono ?_
  rintro e w4 ⟨B, rfl, c4, g4⟩
  have o4 := keepN o3 g4 (by omega)
  have e4 := below_grown2 e3 g4 (Nat.le_refl _)
  have z4 := g4.size
  clear o3 c3 e3 g4
  cases B with
  | false =>
    obtain ⟨X1, hX1⟩ : ∃ X, w4.alloc (.cells #[.int .i64 1, .int .i64 2, .int .i64 3, .int .i64 4, .int .i64 2, .int .i64 3, .int .i64 0, .int .i64 5] 3) = X := ⟨_, rfl⟩
    have i1 := lit_a w4
    rw [hX1] at i1
    have d1 : Below w4.heap.size w4 X1 := by rw [← hX1]; exact (Below.refl _ _).alloc (Nat.le_refl _) _
    have p1 := owns_below o4 d1
    have q1 := Cur.below c4 d1
    have s1 := Below.size e4
    have t1 := Below.trans e4 (d1.mono s1)
    have x1 := Below.size d1
    go_wp2_with fail
    clear hX1
    refine (spec_l1PickInt w X1 _ xs hx h0 hin t1 w.heap.size (Nat.le_refl _) q1 _ [1, 2, 3, 4, 2, 3, 0, 5] i1 (by decide) (by decide) w4.heap.size ⟨_, _, rfl⟩ (by omega)).mono ?_
    rintro e y1 ⟨th, mth, rfl, q2, g1⟩
    have p2 := keepN p1 g1 (by omega)
    have t2 := below_grown2 t1 g1 (Nat.le_refl _)
    have x2 := g1.size
    obtain ⟨X2, hX2⟩ : ∃ X, y1.alloc (.cells #[.int .i64 1, .int .i64 5, .int .i64 10, .int .i64 20, .int .i64 40, .int .i64 1500, .int .i64 1501, .int .i64 0] 3) = X := ⟨_, rfl⟩
    have i2 := lit_b y1
    rw [hX2] at i2
    have d2 : Below y1.heap.size y1 X2 := by rw [← hX2]; exact (Below.refl _ _).alloc (Nat.le_refl _) _
    have p3 := owns_below p2 d2
    have q3 := Cur.below q2 d2
    have t3 := Below.trans t2 (d2.mono (Below.size t2))
    go_wp2_with fail
    clear hX2
    refine (spec_l1PickInt w X2 _ xs hx h0 hin t3 w.heap.size (Nat.le_refl _) q3 _ [1, 5, 10, 20, 40, 1500, 1501, 0] i2 (by decide) (by decide) y1.heap.size ⟨_, _, rfl⟩ (by omega)).mono ?_
    rintro e y2 ⟨win, mwin, rfl, q4, g2⟩
    have p4 := keepN p3 g2 (by omega)
    have t4 := below_grown2 t3 g2 (Nat.le_refl _)
    go_wp2
    go_ret3
    exact ⟨_, S, th, win, rfl, by first | omega | (simp; omega), by simp at mth; unfold InI; omega, by simp at mwin; unfold InI; omega, owns_mono p4 (by omega), t4⟩
  | true =>
    obtain ⟨X0, hX0⟩ : ∃ X, w4.alloc (.cells #[.int .i64 (-1), .int .i64 3, .int .i64 4] 3) = X := ⟨_, rfl⟩
    have i5 := lit_c w4
    rw [hX0] at i5
    have d5 : Below w4.heap.size w4 X0 := by rw [← hX0]; exact (Below.refl _ _).alloc (Nat.le_refl _) _
    have o5 := owns_below o4 d5
    have c5 := Cur.below c4 d5
    have e5 := Below.trans e4 (d5.mono (Below.size e4))
    have z5 := Below.size d5
    go_wp2_with fail
    clear hX0
    refine (spec_l1PickInt w X0 _ xs hx h0 hin e5 w.heap.size (Nat.le_refl _) c5 _ [-1, 3, 4] i5 (by decide) (by decide) w4.heap.size ⟨_, _, rfl⟩ (by omega)).mono ?_
    rintro e w6 ⟨p, mp, rfl, c6, g6⟩
    have o6 := keepN o5 g6 (by omega)
    have e6 := below_grown2 e5 g6 (Nat.le_refl _)
    have z6 := g6.size
    clear o4 o5 c5 e5 g6 d5 i5 c4 e4
    have oA := World.ownsRow.alloc o6 (.cells #[.int .i64 p] 3)
    go_wp2_with (at_builtin; refine wpList_append_flat rfl _ _ 24 rfl w2.heap.size 3 i0 (.int .i64 0) 1 8 Try.underlying24 hi hz0 hz1 hz2 rfl (by decide) _ _ _ rfl oA _ 1 [.int .i64 p] rfl (Flat.of_owns (owns_lit1 w6 3 (.int .i64 p) 0 (Nat.zero_le _))) (by intro c hc; simp at hc; subst hc; rfl) (by unfold maxLen; omega) (by omega) (by simp; omega) ?_)
    intro v7 w7 o7 g7
    have ltA := World.ownsRow.lt oA
    have c7 := Cur.grown (Cur.below c6 ((Below.refl _ _).alloc (Nat.le_refl _) _)) g7 (by intro e; have := (ltA w.heap.size e).1; omega)
    have b7 := below_of_mark oA g7 (N := w.heap.size) (by omega) (by simp; omega)
    have e7 := Below.trans (Below.alloc e6 (by omega) _) b7
    have z7 : w6.heap.size ≤ w7.heap.size := by have := g7.size; simp at this; omega
    have o8 : w7.ownsRow w2.heap.size 3 1 v7 (S ++ [p]).length ((S ++ [p]).flatMap encI) := by rw [encI_snoc, List.length_append]; exact o7
    clear oA o6 c6 o7 g7 ltA b7 e6
    obtain ⟨X1, hX1⟩ : ∃ X, w7.alloc (.cells #[.int .i64 1, .int .i64 2, .int .i64 3, .int .i64 4, .int .i64 2, .int .i64 3, .int .i64 0, .int .i64 5] 3) = X := ⟨_, rfl⟩
    have i1 := lit_a w7
    rw [hX1] at i1
    have d1 : Below w7.heap.size w7 X1 := by rw [← hX1]; exact (Below.refl _ _).alloc (Nat.le_refl _) _
    have p1 := owns_below o8 d1
    have q1 := Cur.below c7 d1
    have s1 := Below.size e7
    have t1 := Below.trans e7 (d1.mono s1)
    have x1 := Below.size d1
    go_wp2_with fail
    clear hX1
    refine (spec_l1PickInt w X1 _ xs hx h0 hin t1 w.heap.size (Nat.le_refl _) q1 _ [1, 2, 3, 4, 2, 3, 0, 5] i1 (by decide) (by decide) w7.heap.size ⟨_, _, rfl⟩ (by omega)).mono ?_
    rintro e y1 ⟨th, mth, rfl, q2, g1⟩
    have p2 := keepN p1 g1 (by omega)
    have t2 := below_grown2 t1 g1 (Nat.le_refl _)
    have x2 := g1.size
    obtain ⟨X2, hX2⟩ : ∃ X, y1.alloc (.cells #[.int .i64 1, .int .i64 5, .int .i64 10, .int .i64 20, .int .i64 40, .int .i64 1500, .int .i64 1501, .int .i64 0] 3) = X := ⟨_, rfl⟩
    have i2 := lit_b y1
    rw [hX2] at i2
    have d2 : Below y1.heap.size y1 X2 := by rw [← hX2]; exact (Below.refl _ _).alloc (Nat.le_refl _) _
    have p3 := owns_below p2 d2
    have q3 := Cur.below q2 d2
    have t3 := Below.trans t2 (d2.mono (Below.size t2))
    go_wp2_with fail
    clear hX2
    refine (spec_l1PickInt w X2 _ xs hx h0 hin t3 w.heap.size (Nat.le_refl _) q3 _ [1, 5, 10, 20, 40, 1500, 1501, 0] i2 (by decide) (by decide) y1.heap.size ⟨_, _, rfl⟩ (by omega)).mono ?_
    rintro e y2 ⟨win, mwin, rfl, q4, g2⟩
    have p4 := keepN p3 g2 (by omega)
    have t4 := below_grown2 t3 g2 (Nat.le_refl _)
    go_wp2
    go_ret3
    exact ⟨_, (S ++ [p]), th, win, rfl, by first | omega | (simp; omega), by simp at mth; unfold InI; omega, by simp at mwin; unfold InI; omega, owns_mono p4 (by omega), t4⟩
end Go.Proofs.Ytjcoakgdhiiiaaa
