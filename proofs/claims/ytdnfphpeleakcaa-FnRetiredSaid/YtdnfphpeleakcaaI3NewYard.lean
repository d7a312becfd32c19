/- Chapter 3's program: NewYard. -/
import Derived.Test.YtdnfphpeleakcaaY3b
import Derived.Test.YtdnfphpeleakcaaI2new
namespace Go.Proofs.Ytdnfphpeleakcaa
set_option maxRecDepth 100000
open Go.RowKit Go.Proofs Go.Own
open Go
set_option linter.unusedVariables false
set_option linter.unusedSimpArgs false

theorem neg_snoc (k : Nat) : (List.replicate k (-1 : Int)).flatMap encI ++ [Value.int .i64 (-1)] = (List.replicate (k + 1) (-1 : Int)).flatMap encI := by
  rw [List.replicate_succ', List.flatMap_append]; rfl
theorem newYard_no {b t : Int} (h : ((newArenaF b).2 && inB t 1 6) = false) : newYardF b t = (⟨⟨[], []⟩, [], [], 0⟩, false) := by simp only [newYardF, h]; rfl
theorem newYard_yes {b : Int} {q : Nat} (h1 : (newArenaF b).2 = true) (h2 : inB q 1 6 = true) : newYardF b q = (⟨(newArenaF b).1, List.replicate q (-1), [], 0⟩, true) := by simp [newYardF, h1, h2]
theorem flat_nil {α : Type} (w : World) (f : α → List Value) (sz : Nat) : Flat w (.slice none 0 0) ([] : List α).length sz (([] : List α).flatMap f) := Flat.of_owns (base := 0) (e := 0) (World.ownsRow_nil _ _ _ _)

def mixP (q k : Nat) : List Int := (List.range q).map fun i : Nat => if i < k then (-1 : Int) else 0
theorem mixP_len (q k : Nat) : (mixP q k).length = q := by simp [mixP]
theorem mixP_zero (q : Nat) : mixP q 0 = List.replicate q (0 : Int) := by
  apply List.ext_getElem?; intro i; simp [mixP, List.getElem?_replicate]
  by_cases h : i < q <;> simp [h]
theorem mixP_all (q : Nat) : mixP q q = List.replicate q (-1 : Int) := by
  apply List.ext_getElem?; intro i; simp only [mixP, List.getElem?_replicate, List.getElem?_map]
  by_cases h : i < q <;> simp [h]
theorem mixP_set (q k : Nat) (h : k < q) : ((mixP q k).flatMap encI).set k (.int .i64 (-1)) = (mixP q (k+1)).flatMap encI := by
  rw [encI_set]
  congr 1
  apply List.ext_getElem?; intro i
  rw [List.getElem?_set]
  by_cases e : k = i
  · subst e; simp [mixP, h]
  · rw [if_neg e]; simp only [mixP, List.getElem?_map]
    by_cases hi : i < q
    · have : (i < k + 1) = (i < k) := by simp; omega
      simp [hi, this]
    · simp [hi]
theorem madeZ (q : Nat) : (madeCells #[Value.int .i64 0] (q * 1)).toList = (mixP q 0).flatMap encI := by
  rw [mixP_zero, toList_madeCells_one, Nat.mul_one, encI_map, List.map_replicate]
theorem owns_ne {w : World} {base e sz n b : Nat} {v : Value} {cs : List Value} (h : w.ownsRow base e sz v n cs) (hne : ∀ k, v.ownBlock = some k → k ≠ b) (j : Nat) (x : Value) : (w.setCell ⟨b, j, none⟩ x).ownsRow base e sz v n cs :=
  World.ownsRow.kept h (grownBy_setCell _ _ _) (apart_ne hne)
theorem box_set5 {w : World} {b : Nat} {y0 y1 y2 y3 y4 : Value} (h : BoxF w b [y0, y1, y2, y3, y4]) (x0 x1 x2 x3 x4 : Value) : BoxF (((((w.setCell ⟨b, 0, none⟩ x0).setCell ⟨b, 1, none⟩ x1).setCell ⟨b, 2, none⟩ x2).setCell ⟨b, 3, none⟩ x3).setCell ⟨b, 4, none⟩ x4) b [x0, x1, x2, x3, x4] := by
  have h5 := ((((h.set 0 (by simp) x0).set 1 (by simp) x1).set 2 (by simp) x2).set 3 (by simp) x3).set 4 (by simp) x4
  simpa using h5
theorem box_other5 {w : World} {b B : Nat} {cs : List Value} (h : BoxF w B cs) (hb : b ≠ B) (x0 x1 x2 x3 x4 : Value) : BoxF (((((w.setCell ⟨b, 0, none⟩ x0).setCell ⟨b, 1, none⟩ x1).setCell ⟨b, 2, none⟩ x2).setCell ⟨b, 3, none⟩ x3).setCell ⟨b, 4, none⟩ x4) B cs :=
  ((((h.other _ _ hb).other _ _ hb).other _ _ hb).other _ _ hb).other _ _ hb
theorem apart_nil4 {u0 u1 u2 : Value} (h01 : (u0.ownBlock = none ∨ u0.ownBlock ≠ u1.ownBlock) ∧ (u1.ownBlock = none ∨ u1.ownBlock ≠ u0.ownBlock)) : True := trivial

set_option maxRecDepth 100000 in set_option maxHeartbeats 2000000 in
theorem impl_NewYard (b t : Int) (w : World) (hb : InI b := by assumption) :
    Calls Try.prog 13 #[.int .i64 b, .int .i64 t] w fun e w' => ∃ u0 u1 u2 u3, e = .returned (.tuple #[.agg #[u0, u1, u2, u3, .int .i64 (newYardF b t).1.passes], .bool (newYardF b t).2]) ∧ w'.ownsRow w.heap.size 64 5 u0 (newYardF b t).1.arena.blocks.length ((newYardF b t).1.arena.blocks.flatMap Block.enc) ∧ (newYardF b t).1.arena.blocks.length ≤ 1099511627776 ∧ w'.ownsRow w.heap.size 3 1 u1 (newYardF b t).1.arena.list.length ((newYardF b t).1.arena.list.flatMap encI) ∧ (newYardF b t).1.arena.list.length ≤ 1099511627776 ∧ w'.ownsRow w.heap.size 3 1 u2 (newYardF b t).1.pins.length ((newYardF b t).1.pins.flatMap encI) ∧ (newYardF b t).1.pins.length ≤ 1099511627776 ∧ w'.ownsRow w.heap.size 70 2 u3 (newYardF b t).1.retired.length ((newYardF b t).1.retired.flatMap Gone.enc) ∧ (newYardF b t).1.retired.length ≤ 1099511627776 ∧ ((u0.ownBlock = none ∨ u0.ownBlock ≠ u1.ownBlock) ∧ (u1.ownBlock = none ∨ u1.ownBlock ≠ u0.ownBlock)) ∧ ((u0.ownBlock = none ∨ u0.ownBlock ≠ u2.ownBlock) ∧ (u2.ownBlock = none ∨ u2.ownBlock ≠ u0.ownBlock)) ∧ ((u0.ownBlock = none ∨ u0.ownBlock ≠ u3.ownBlock) ∧ (u3.ownBlock = none ∨ u3.ownBlock ≠ u0.ownBlock)) ∧ ((u1.ownBlock = none ∨ u1.ownBlock ≠ u2.ownBlock) ∧ (u2.ownBlock = none ∨ u2.ownBlock ≠ u1.ownBlock)) ∧ ((u1.ownBlock = none ∨ u1.ownBlock ≠ u3.ownBlock) ∧ (u3.ownBlock = none ∨ u3.ownBlock ≠ u1.ownBlock)) ∧ ((u2.ownBlock = none ∨ u2.ownBlock ≠ u3.ownBlock) ∧ (u3.ownBlock = none ∨ u3.ownBlock ≠ u2.ownBlock)) ∧ Below w.heap.size w w' := by
  obtain ⟨W1, hW1⟩ : ∃ X, (w.alloc (.cells #[.slice none 0 0, .slice none 0 0, .slice none 0 0, .slice none 0 0, .int .i64 0] 30)) = X := ⟨_, rfl⟩
  have hB1 : Below w.heap.size w W1 := by rw [← hW1]; exact (Below.refl _ _).alloc (Nat.le_refl _) _
  have hN1 : w.heap.size + 1 = W1.heap.size := by rw [← hW1]; simp
  have rb : BoxF W1 w.heap.size [.slice none 0 0, .slice none 0 0, .slice none 0 0, .slice none 0 0, .int .i64 0] := by rw [← hW1]; exact BoxF.alloc _ _ _
  go_enter Try.func13, Try.ntmps13
  go_wp2_with fail
  clear hW1
  refine (impl_NewArena b W1).mono ?_
  rintro e w2 ⟨u0, u1, rfl, r0, l0, r1, l1, ap, b2⟩
  obtain ⟨p0, m0, c0, rfl⟩ := owns_form3 r0
  obtain ⟨p1, m1, c1, rfl⟩ := owns_form3 r1
  obtain ⟨W3, hW3⟩ : ∃ X, (w2.alloc (.cells #[.slice p0 m0 c0, .slice p1 m1 c1] 27)) = X := ⟨_, rfl⟩
  have hB3 : Below w2.heap.size w2 W3 := by rw [← hW3]; exact (Below.refl _ _).alloc (Nat.le_refl _) _
  have hN3 : w2.heap.size + 1 = W3.heap.size := by rw [← hW3]; simp
  have hz2 := b2.size
  have ab : BoxF W3 w2.heap.size [.slice p0 m0 c0, .slice p1 m1 c1] := by rw [← hW3]; exact BoxF.alloc _ _ _
  have rb3 := (rb.below b2).below hB3
  have hBw3 : Below w.heap.size w W3 := (hB1.trans (b2.mono (by omega))).trans (hB3.mono (by omega))
  have R0 := hid (owns_below r0 hB3)
  have R1 := hid (owns_below r1 hB3)
  have L0 := hid l0
  have L1 := hid l1
  clear l0 l1
  have rc0 := rb3.1.2 0 (by simp); have rc1 := rb3.1.2 1 (by simp); have rc2 := rb3.1.2 2 (by simp); have rc3 := rb3.1.2 3 (by simp); have rc4 := rb3.1.2 4 (by simp)
  have rf0 := rb3.2 0 (by simp); have rf1 := rb3.2 1 (by simp); have rf2 := rb3.2 2 (by simp); have rf3 := rb3.2 3 (by simp); have rf4 := rb3.2 4 (by simp)
  simp only [List.getElem?_cons_zero, List.getElem?_cons_succ] at rc0 rc1 rc2 rc3 rc4
  have ac0 := ab.1.2 0 (by simp); have ac1 := ab.1.2 1 (by simp)
  have af0 := ab.2 0 (by simp); have af1 := ab.2 1 (by simp)
  simp only [List.getElem?_cons_zero, List.getElem?_cons_succ] at ac0 ac1
  cases hOk : ((newArenaF b).2 && inB t 1 6)
  case false =>
    have HN := hid (newYard_no hOk)
    have hfin : Hid (∀ X, Below w.heap.size w X → ∃ u0 u1 u2 u3, Ending.returned (.tuple #[.agg #[.slice none 0 0, .slice none 0 0, .slice none 0 0, .slice none 0 0, .int .i64 0], .bool false]) = .returned (.tuple #[.agg #[u0, u1, u2, u3, .int .i64 (newYardF b t).1.passes], .bool (newYardF b t).2]) ∧ X.ownsRow w.heap.size 64 5 u0 (newYardF b t).1.arena.blocks.length ((newYardF b t).1.arena.blocks.flatMap Block.enc) ∧ (newYardF b t).1.arena.blocks.length ≤ 1099511627776 ∧ X.ownsRow w.heap.size 3 1 u1 (newYardF b t).1.arena.list.length ((newYardF b t).1.arena.list.flatMap encI) ∧ (newYardF b t).1.arena.list.length ≤ 1099511627776 ∧ X.ownsRow w.heap.size 3 1 u2 (newYardF b t).1.pins.length ((newYardF b t).1.pins.flatMap encI) ∧ (newYardF b t).1.pins.length ≤ 1099511627776 ∧ X.ownsRow w.heap.size 70 2 u3 (newYardF b t).1.retired.length ((newYardF b t).1.retired.flatMap Gone.enc) ∧ (newYardF b t).1.retired.length ≤ 1099511627776 ∧ ((u0.ownBlock = none ∨ u0.ownBlock ≠ u1.ownBlock) ∧ (u1.ownBlock = none ∨ u1.ownBlock ≠ u0.ownBlock)) ∧ ((u0.ownBlock = none ∨ u0.ownBlock ≠ u2.ownBlock) ∧ (u2.ownBlock = none ∨ u2.ownBlock ≠ u0.ownBlock)) ∧ ((u0.ownBlock = none ∨ u0.ownBlock ≠ u3.ownBlock) ∧ (u3.ownBlock = none ∨ u3.ownBlock ≠ u0.ownBlock)) ∧ ((u1.ownBlock = none ∨ u1.ownBlock ≠ u2.ownBlock) ∧ (u2.ownBlock = none ∨ u2.ownBlock ≠ u1.ownBlock)) ∧ ((u1.ownBlock = none ∨ u1.ownBlock ≠ u3.ownBlock) ∧ (u3.ownBlock = none ∨ u3.ownBlock ≠ u1.ownBlock)) ∧ ((u2.ownBlock = none ∨ u2.ownBlock ≠ u3.ownBlock) ∧ (u3.ownBlock = none ∨ u3.ownBlock ≠ u2.ownBlock)) ∧ Below w.heap.size w X) := hid fun X hX => by
      rw [HN.out]
      exact ⟨_, _, _, _, rfl, World.ownsRow_nil _ _ _ _, Nat.zero_le _, World.ownsRow_nil _ _ _ _, Nat.zero_le _, World.ownsRow_nil _ _ _ _, Nat.zero_le _, World.ownsRow_nil _ _ _ _, Nat.zero_le _, apart_nil _, apart_nil _, apart_nil _, apart_nil _, apart_nil _, apart_nil _, hX⟩
    cases h1 : (newArenaF b).2
    case' true =>
      have h2 : inB t 1 6 = false := by simpa [h1] using hOk
      cases h3 : decide (t < 1)
      case' false => have h4 : decide (6 < t) = true := by simp [inB] at h2 h3; simp; omega
    all_goals
      clear hOk
      try clear h2
      go_wp2
      refine bodyPost_ret (v := .tuple #[.agg #[.slice none 0 0, .slice none 0 0, .slice none 0 0, .slice none 0 0, .int .i64 0], .bool false]) ?_ rfl (hfin.out _ ?_)
      · simp [results, Try.results13, go_sem, rc0, rc1, rc2, rc3, rc4]
      · exact below_set5 hBw3 (Nat.le_refl _) _ _ _ _ _
  obtain ⟨hA, hT⟩ : (newArenaF b).2 = true ∧ inB t 1 6 = true := by simpa using hOk
  obtain ⟨q, rfl⟩ : ∃ q : Nat, t = q := ⟨t.toNat, by simp [inB] at hT; omega⟩
  have hq6 : 1 ≤ q ∧ q ≤ 6 := by simp [inB] at hT; omega
  obtain ⟨hq1, hq6⟩ := hq6
  have HY := hid (newYard_yes hA hT)
  have d1 : decide ((q : Int) < 1) = false := by simp; omega
  have d2 : decide ((6 : Int) < (q : Int)) = false := by simp; omega
  clear hOk hT
  rw [hA]
  obtain ⟨j0, hj, hy0, hy1, hy2⟩ := info_parts infoInt
  go_wp2
  clear hW3
  have mk1 : ∀ (P : Program) (o : Oper) (a : Act) (w : World) (v : Value), Oper.plainAt P o a w v = Oper.plainUpon w v ((execOp a.eval o).run P w) := fun _ _ _ _ _ => rfl; have mk2 : ∀ (w w' : World) (v u : Value), Oper.plainUpon w v (.ok (.value u) w') = (w' = w ∧ u = v) := fun _ _ _ _ => rfl
  have ma := Ext.cell ab.1.1 ac0
  have mb := Ext.cell ab.1.1 ac1
  refine wp_region_mk 5 (fun i v lo hi w => W3.heap.size ≤ lo ∧ (i = 2 → (∃ g1, v = .slice (some ⟨g1, 0, none⟩) q q ∧ RowIn w lo hi 3 1 v q ((mixP q 0).flatMap encI))) ∧ (i = 3 → (∃ g1, v = .agg #[.slice p0 m0 c0, .slice p1 m1 c1, .slice (some ⟨g1, 0, none⟩) q q, .slice none 0 0, .int .i64 0] ∧ w.ownsRow W3.heap.size 3 1 (.slice (some ⟨g1, 0, none⟩) q q) q ((mixP q 0).flatMap encI))) ∧ (i = 4 → (v = .pointer (some ⟨lo, 0, none⟩) ∧ lo < hi ∧ w.heap[lo]? = some (.cells #[.slice none 0 0, .slice none 0 0, .slice none 0 0, .slice none 0 0, .int .i64 0] 30 (0, 0))))) (fun i => if i = 3 then some 2 else none) (fun i => i == 2 || i == 3 || i == 4) (by kernel_rfl) (by kernel_rfl) (by kernel_rfl) (fun j hj => if_neg (by omega)) (fun i v lo hi w w' h hs hb => ⟨h.1, fun e => (by obtain ⟨g1, e1, r1⟩ := h.2.1 e; exact ⟨g1, e1, r1.grow hb⟩), fun e => (by obtain ⟨g1, e1, r1⟩ := h.2.2.1 e; exact ⟨g1, e1, owns_below r1 hb⟩), fun e => ⟨(h.2.2.2 e).1, (h.2.2.2 e).2.1, (hb.block _ (by have := (h.2.2.2 e).2.1; omega)).trans (h.2.2.2 e).2.2⟩⟩) ?_
  simp only [List.take_succ_cons, List.take_zero, List.drop_succ_cons, List.drop_zero]
  (refine wpMk_plain rfl rfl (fun K hK => ?_); go_simp; refine hK _ ?_; clear hK K)
  (refine wpMk_plain rfl rfl (fun K hK => ?_); go_simp; refine hK _ ?_; clear hK K)
  refine wpMk_make rfl rfl (makes_ext fun E hE => ?_) (fun vM loM hiM => ?_)
  · have hms := run_makeSlice (P := Try.prog) E.w 25 3 j0 _ Try.underlying25 hj hy0 .i64 .i64 q q (by omega) (Int.le_refl _) (by rw [hy1]; omega) (by rw [hy2]; omega) (by omega)
    rw [hy1, Int.toNat_natCast] at hms
    refine made_value (v := .slice (some ⟨E.w.heap.size, 0, none⟩) q q) (w' := E.w.alloc (.cells (madeCells #[Value.int .i64 0] (q * 1)) 3)) (by simp [execOp, hms]; try go_simp) ?_
    have hr : (E.w.alloc (.cells (madeCells #[Value.int .i64 0] (q * 1)) 3)).ownsRow E.w.heap.size 3 1 (.slice (some ⟨E.w.heap.size, 0, none⟩) q q) q ((mixP q 0).flatMap encI) := by
      rw [← madeZ]; exact owns_litN _ _ _ _ _ _ (Nat.le_refl _) (size_madeCells _ _) (by unfold maxLen; omega)
    exact ⟨⟨⟨_, E.alloc _⟩, rfl⟩, (Below.refl _ _).alloc (Nat.le_refl _) _, E.size, fun _ => ⟨_, rfl, RowIn.here hr⟩, fun e => absurd e (by decide), fun e => absurd e (by decide)⟩
  refine wpMk_make rfl rfl (makes_ext fun E hE => ?_) (fun vY loY hiY => ?_)
  · obtain ⟨hlo2, h2', _⟩ := (hE 2 vM loM hiM rfl rfl).1
    obtain ⟨g1, rfl, r1⟩ := h2' rfl
    refine made_value (v := .agg #[.slice p0 m0 c0, .slice p1 m1 c1, .slice (some ⟨g1, 0, none⟩) q q, .slice none 0 0, .int .i64 0]) (w' := E.w) (by go_simp) ?_
    exact ⟨⟨E, rfl⟩, Below.refl _ _, E.size, fun e => absurd e (by decide), fun _ => ⟨g1, rfl, owns_mono r1.1 hlo2⟩, fun e => absurd e (by decide)⟩
  refine wpMk_make rfl rfl (makes_ext fun E hE => ?_) (fun vP loP hiP => ?_)
  · refine made_value (v := .pointer (some ⟨E.w.heap.size, 0, none⟩)) (w' := E.w.alloc (.cells #[.slice none 0 0, .slice none 0 0, .slice none 0 0, .slice none 0 0, .int .i64 0] 30)) (by go_simp) ?_
    exact ⟨⟨⟨_, E.alloc _⟩, rfl⟩, (Below.refl _ _).alloc (Nat.le_refl _) _, E.size, fun e => absurd e (by decide), fun e => absurd e (by decide), fun _ => ⟨rfl, by simp, heap_alloc_new _ _⟩⟩
  clear mk1 mk2
  refine wpMk_nil ?_
  rintro w' ⟨E, rfl⟩ hm
  obtain ⟨_, _, hm3, _⟩ := (hm.one 3 vY loY hiY rfl).1
  obtain ⟨g1, rfl, op⟩ := hm3 rfl
  obtain ⟨hgb, _, _, hm4⟩ := (hm.one 4 vP loP hiP rfl).1
  obtain ⟨rfl, hlt4, hT⟩ := hm4 rfl
  have hgs := (hm.one 4 _ loP hiP rfl).2
  clear hm hm3 hm4 ma mb
  have yb : BoxF E.w loP [.slice none 0 0, .slice none 0 0, .slice none 0 0, .slice none 0 0, .int .i64 0] := BoxF.ofHeap hT
  have hne := owns_not op hT (by decide)
  obtain ⟨_, hg1s⟩ := World.ownsRow.lt op g1 rfl
  have hgne : loP ≠ g1 := fun e => hne g1 rfl e.symm
  have rbE := rb3.below E.h
  have hSz := E.size
  obtain ⟨X, hX⟩ : ∃ X, (((((E.w.setCell ⟨loP, 0, none⟩ (.slice p0 m0 c0)).setCell ⟨loP, 1, none⟩ (.slice p1 m1 c1)).setCell ⟨loP, 2, none⟩ (.slice (some ⟨g1, 0, none⟩) q q)).setCell ⟨loP, 3, none⟩ (.slice none 0 0)).setCell ⟨loP, 4, none⟩ (.int .i64 0)) = X := ⟨_, rfl⟩
  have ybX : BoxF X loP [.slice p0 m0 c0, .slice p1 m1 c1, .slice (some ⟨g1, 0, none⟩) q q, .slice none 0 0, .int .i64 0] := by rw [← hX]; exact box_set5 yb _ _ _ _ _
  have rbX : BoxF X w.heap.size [.slice none 0 0, .slice none 0 0, .slice none 0 0, .slice none 0 0, .int .i64 0] := by rw [← hX]; exact box_other5 rbE (by omega) _ _ _ _ _
  have opX : X.ownsRow W3.heap.size 3 1 (.slice (some ⟨g1, 0, none⟩) q q) q ((mixP q 0).flatMap encI) := by rw [← hX]; exact owns_ne (owns_ne (owns_ne (owns_ne (owns_ne op hne _ _) hne _ _) hne _ _) hne _ _) hne _ _
  have hBX : Below W3.heap.size W3 X := by rw [← hX]; exact below_set5 E.h hgb _ _ _ _ _
  have hBwX : Below w.heap.size w X := by rw [← hX]; exact below_set5 (hBw3.trans (E.h.mono (by omega))) (by omega) _ _ _ _ _
  have hsX : X.heap.size = E.w.heap.size := by rw [← hX]; simp [World.setCell]
  have ec0 := yb.1.2 0 (by simp); have ec1 := yb.1.2 1 (by simp); have ec2 := yb.1.2 2 (by simp); have ec3 := yb.1.2 3 (by simp); have ec4 := yb.1.2 4 (by simp)
  have ef0 := yb.2 0 (by simp); have ef1 := yb.2 1 (by simp); have ef2 := yb.2 2 (by simp); have ef3 := yb.2 3 (by simp); have ef4 := yb.2 4 (by simp)
  simp only [List.getElem?_cons_zero, List.getElem?_cons_succ] at ec0 ec1 ec2 ec3 ec4
  have yc0 := ybX.1.2 0 (by simp); have yc1 := ybX.1.2 1 (by simp); have yc2 := ybX.1.2 2 (by simp); have yc3 := ybX.1.2 3 (by simp); have yc4 := ybX.1.2 4 (by simp)
  simp only [List.getElem?_cons_zero, List.getElem?_cons_succ] at yc0 yc1 yc2 yc3 yc4
  have HS := hid (show w.heap.size + 1 = W1.heap.size ∧ W1.heap.size ≤ w2.heap.size ∧ w2.heap.size + 1 = W3.heap.size ∧ W3.heap.size ≤ loP ∧ W3.heap.size ≤ X.heap.size ∧ loP ≠ g1 ∧ loP < X.heap.size from ⟨hN1, hz2, hN3, hgb, by omega, hgne, by omega⟩)
  go_wp2
  clear hX ec0 ec1 ec2 ec3 ec4 ef0 ef1 ef2 ef3 ef4 yc0 yc1 yc2 yc3 yc4 rc0 rc1 rc2 rc3 rc4 rf0 rf1 rf2 rf3 rf4 ac0 ac1 af0 af1 yb rbE op hne hT ab rb rb3 hgne hgb hgs hlt4 hSz hsX
  go_loopw [33] (fun i wr => ∃ (k : Nat), k ≤ q ∧ i = .int .i64 k ∧ BoxF wr loP [.slice p0 m0 c0, .slice p1 m1 c1, .slice (some ⟨g1, 0, none⟩) q q, .slice none 0 0, .int .i64 0] ∧ BoxF wr w.heap.size [.slice none 0 0, .slice none 0 0, .slice none 0 0, .slice none 0 0, .int .i64 0] ∧ wr.ownsRow W3.heap.size 3 1 (.slice (some ⟨g1, 0, none⟩) q q) q ((mixP q k).flatMap encI) ∧ Below W3.heap.size W3 wr ∧ Below w.heap.size w wr ∧ X.heap.size ≤ wr.heap.size) (fun i _ => q - (intOf i).toNat)
  case atStart => exact ⟨0, by omega, rfl, ybX, rbX, opX, hBX, hBwX, Nat.le_refl _⟩
  case round =>
    clear ybX rbX opX hBX hBwX
    obtain ⟨k, hk, rfl, yb, rb, op, hB, hBw, hsz⟩ := hrel
    by_cases hlt : k < q
    · have hx := hid (show (mixP q k)[k]'(by rw [mixP_len]; exact hlt) = 0 by simp [mixP])
      have hel : CellsO wr g1 k [.int .i64 0] := CellsO.ofInts op k (by rw [mixP_len]; exact hlt) 0 hx (mixP_len q k)
      have ec := (hel.2 0 (by simp)).1
      have ef := (hel.2 0 (by simp)).2
      simp only [Nat.add_zero, List.getElem?_cons_zero] at ec ef
      have yc0 := yb.1.2 0 (by simp); have yc1 := yb.1.2 1 (by simp); have yc2 := yb.1.2 2 (by simp); have yc3 := yb.1.2 3 (by simp); have yc4 := yb.1.2 4 (by simp)
      simp only [List.getElem?_cons_zero, List.getElem?_cons_succ] at yc0 yc1 yc2 yc3 yc4
      have hki : (k : Int) < (q : Int) := by omega
      have S0 := hid (yb.other ⟨g1, k, none⟩ (.int .i64 (-1)) (by show g1 ≠ loP; have := HS.out; omega))
      have hg1r := (World.ownsRow.lt op g1 rfl).1
      have S1 := hid (rb.other ⟨g1, k, none⟩ (.int .i64 (-1)) (by show g1 ≠ w.heap.size; have := HS.out; omega))
      have S2 := owns_put op k (.int .i64 (-1))
      rw [mixP_set q k hlt] at S2
      have S2' := hid S2
      have S3 := hid (hB.setCell (p := ⟨g1, k, none⟩) (by show W3.heap.size ≤ g1; omega) (.int .i64 (-1)))
      have S4 := hid (hBw.setCell (p := ⟨g1, k, none⟩) (by show w.heap.size ≤ g1; have := HS.out; omega) (.int .i64 (-1)))
      have S5 := hid hsz
      clear yb rb op hB hBw S2 hel
      go_wp2
      go_roundw
      case rel => exact ⟨k+1, by omega, by go_num, S0.out, S1.out, S2'.out, S3.out, S4.out, by have := S5.out; simp [World.setCell]; omega⟩
      case measure => simp [intOf]; omega
    · obtain rfl : k = q := by omega
      have yc0 := yb.1.2 0 (by simp); have yc1 := yb.1.2 1 (by simp); have yc2 := yb.1.2 2 (by simp); have yc3 := yb.1.2 3 (by simp); have yc4 := yb.1.2 4 (by simp)
      have yf0 := yb.2 0 (by simp); have yf1 := yb.2 1 (by simp); have yf2 := yb.2 2 (by simp); have yf3 := yb.2 3 (by simp); have yf4 := yb.2 4 (by simp)
      simp only [List.getElem?_cons_zero, List.getElem?_cons_succ] at yc0 yc1 yc2 yc3 yc4
      have rc0 := rb.1.2 0 (by simp); have rc1 := rb.1.2 1 (by simp); have rc2 := rb.1.2 2 (by simp); have rc3 := rb.1.2 3 (by simp); have rc4 := rb.1.2 4 (by simp)
      have rf0 := rb.2 0 (by simp); have rf1 := rb.2 1 (by simp); have rf2 := rb.2 2 (by simp); have rf3 := rb.2 3 (by simp); have rf4 := rb.2 4 (by simp)
      simp only [List.getElem?_cons_zero, List.getElem?_cons_succ] at rc0 rc1 rc2 rc3 rc4
      rw [mixP_all] at op
      have Hp := hid op
      have HB := hid hB
      have HBw := hid hBw
      have apLP := apart R1.out (Nat.le_refl _) Hp.out
      have ap02' := apart R0.out (Nat.le_refl _) Hp.out
      clear op
      go_wp2
      refine bodyPost_ret (v := .tuple #[.agg #[.slice p0 m0 c0, .slice p1 m1 c1, .slice (some ⟨g1, 0, none⟩) k k, .slice none 0 0, .int .i64 0], .bool true]) ?_ rfl ⟨_, _, _, _, by rw [HY.out], ?_⟩
      · simp [results, Try.results13, go_sem, rc0, rc1, rc2, rc3, rc4]
      · rw [HY.out]
        dsimp only
        have hlt0 : w.heap.size < W3.heap.size := by have := HS.out; omega
        refine ⟨?_, L0.out, ?_, L1.out, ?_, by simp; omega, World.ownsRow_nil _ _ _ _, Nat.zero_le _, ap, ap02', apart_nil _, apLP, apart_nil _, apart_nil _, below_set5 HBw.out (Nat.le_refl _) _ _ _ _ _⟩
        · exact owns_mono (owns_set5 (owns_below R0.out HB.out) (by omega) _ _ _ _ _) (by omega)
        · exact owns_mono (owns_set5 (owns_below R1.out HB.out) (by omega) _ _ _ _ _) (by omega)
        · rw [List.length_replicate]
          exact owns_mono (owns_set5 Hp.out hlt0 _ _ _ _ _) (by omega)
end Go.Proofs.Ytdnfphpeleakcaa
