/- Chapter 1's program functions: ops merged by turns. -/
import Derived.Test.YtfhkngmankmehaaS1e
namespace Go.Proofs.Ytfhkngmankmehaa
open Go.RowKit Go.Proofs Go.Own

theorem mergedF_step (t : Bool) (ts : List Bool) (A B : List WordOp) (hA : 0 < A.length) (hB : 0 < B.length) :
    mergedF (t :: ts) A B = if t = true then B[0] :: mergedF ts A (B.drop 1) else A[0] :: mergedF ts (A.drop 1) B := by
  cases A with
  | nil => simp at hA
  | cons x A =>
    cases B with
    | nil => simp at hB
    | cons y B => cases t <;> simp [mergedF]
/-- The rest of a slice behind its first element. -/
theorem ops_tail {N : Nat} {w : World} {v : Value} {B : List WordOp} {ti : TypeInfo} (hi : Try.prog.info? 30 = some ti) (hs : ti.size = 4) (h : FlatB N w v B.length 4 (B.flatMap WordOp.enc)) (hB : 0 < B.length) :
    ∃ v', (∀ w', (Instr.slice 38 v (some (.int .i64 1)) none none).run Try.prog w' = .ok v' w') ∧ FlatB N w v' (B.drop 1).length 4 ((B.drop 1).flatMap WordOp.enc) := by
  obtain ⟨v', h1, h2⟩ := slice_from Try.underlying38 hi hs h 1 hB
  rw [drop_flatMap WordOp.enc 4 (fun _ => rfl)] at h2
  exact ⟨v', h1, by rw [List.length_drop]; exact h2⟩

set_option maxHeartbeats 2000000 in
theorem impl_Merged (v : Value) (a : List WordOp) (u1 : Value) (b : List WordOp) (u2 : Value) (ts : List Bool) (w : World) (h : WordOps w v a) (hx : a.length ≤ 1048576) (g1 : WordOps w u1 b) (hg1 : b.length ≤ 1048576) (g2 : Bools w u2 ts) (hg2 : ts.length ≤ 1048576) :
    Calls Try.prog 28 #[v, u1, u2] w fun e w' => ∃ v', e = .returned v' ∧ w'.ownsRow w.heap.size 30 4 v' (mergedF ts a b).length ((mergedF ts a b).flatMap WordOp.enc) ∧ (mergedF ts a b).length ≤ 1099511627776 ∧ Below w.heap.size w w' := by
  obtain ⟨i0, hi, hz0, hz1, hz2⟩ := info_parts infoWordOp
  have hml := hid (mergedF_len ts a b)
  have hv := Flat.form h
  have hu1 := Flat.form g1
  obtain ⟨ad2, cap2, rfl, hl2, hm2, hc2⟩ := g2.open
  obtain ⟨ad, cap, rfl, hl, hm⟩ := hv
  obtain ⟨ad1, cap1, rfl, hl1, hm1⟩ := hu1
  go_enter Try.func28, Try.ntmps28
  go_wp2_with (at_make; refine wpList_make_own _ rfl _ _ 38 rfl w.heap.size 30 i0 _ 4 Try.underlying38 hi hz0 hz1 _ _ _ (a.length + b.length) rfl rfl (by omega) (by rw [hz2]; omega) (by unfold maxLen; omega) (Nat.le_refl _) ?_)
  intro w1 ho1 hgr1
  have hB1 : Below w.heap.size w w1 := (Below.refl _ _).grown hgr1 (Nat.le_refl _) (by simp)
  go_wp2
  go_loopw [0, 1, 7, 18] (fun va vb o i wr => ∃ (A B L : List WordOp), L.length + A.length + B.length = a.length + b.length ∧ L.length ≤ ts.length ∧ o = .slice (some ⟨w.heap.size, 0, none⟩) L.length (a.length + b.length) ∧ i = .int .i64 L.length ∧
    wr.ownsRow w.heap.size 30 4 (.slice (some ⟨w.heap.size, 0, none⟩) L.length (a.length + b.length)) L.length (L.flatMap WordOp.enc) ∧ Same (mergedF ts a b) (L ++ mergedF (ts.drop L.length) A B) ∧ FlatB w.heap.size wr va A.length 4 (A.flatMap WordOp.enc) ∧ FlatB w.heap.size wr vb B.length 4 (B.flatMap WordOp.enc) ∧ Below w.heap.size w wr) (fun _ _ _ i _ => ts.length - (intOf i).toNat)
  case atStart => exact ⟨a, b, [], by simp, by simp, rfl, rfl, ho1, .mk rfl, FlatB.below h hB1, FlatB.below g1 hB1, hB1⟩
  case round =>
    clear ho1 hB1 hgr1 h g1
    obtain ⟨A, B, L, hsum, hLt, rfl, rfl, ho, hall, fA, fB, hBel⟩ := hrel
    have Hsum := hid hsum
    have hA := FlatB.flat fA hBel.size
    have hB := FlatB.flat fB hBel.size
    have hsz := hBel.size
    obtain ⟨pa, ca, rfl, hla, hma, hca⟩ := WordOps.open hA
    obtain ⟨pb, cb, rfl, hlb, hmb, hcb⟩ := WordOps.open hB
    have hfin : mergedF (ts.drop L.length) A B = A ++ B → Hid (mergedF ts a b = L ++ (A ++ B)) := fun h => by rw [hall.out, h]; exact rfl
    have Hfin := hid hfin
    clear hfin
    have honea := hid (oneCell_enc oneCell_W A)
    have honeb := hid (oneCell_enc oneCell_W B)
    by_cases hgo : L.length < ts.length ∧ 0 < A.length ∧ 0 < B.length
    case neg =>
      have hout : ¬ L.length < ts.length ∨ (L.length < ts.length ∧ A = []) ∨ (L.length < ts.length ∧ ¬ A = [] ∧ B = []) := by
        by_cases e1 : L.length < ts.length
        · by_cases e2 : A = []
          · exact .inr (.inl ⟨e1, e2⟩)
          · refine .inr (.inr ⟨e1, e2, ?_⟩)
            have := List.length_pos_iff.2 e2
            exact List.eq_nil_of_length_eq_zero (by omega)
        · exact .inl e1
      have hre : mergedF (ts.drop L.length) A B = A ++ B := by
        rcases hout with e | ⟨_, e⟩ | ⟨_, _, e⟩
        · rw [List.drop_eq_nil_of_le (by omega), mergedF_end]
        · rw [e, mergedF_nilL]; rfl
        · rw [e, mergedF_nilR, List.append_nil]
      have hF := Hfin.out hre
      have hcell : L.length < ts.length → ∃ x, ∃ bb off, ad2 = some ⟨bb, off, none⟩ ∧ wr.cell? ⟨bb, off + L.length, none⟩ = some (.bool x) := fun hq => by
        obtain ⟨bb, off, e, hbs, q1⟩ := hc2 _ hq
        rw [← hBel.cell (p := ⟨bb, off + L.length, none⟩) hbs] at q1
        exact ⟨_, bb, off, e, q1⟩
      clear hca hcb hc2 hre hgo
      have hl0 : ∀ X : List WordOp, X = [] → ((X.length : Int) == 0) = true := fun X h => by subst h; rfl
      have hl1 : ∀ X : List WordOp, ¬ X = [] → ((X.length : Int) == 0) = false := fun X h => by
        have := List.length_pos_iff.2 h
        rw [beq_eq_false_iff_ne]; omega
      rcases hout with e1 | ⟨e1, e2⟩ | ⟨e1, e2, e3⟩
      · clear hcell hl0 hl1
        go_wp2_with (at_builtin; refine wpList_append_flat rfl _ _ 38 rfl w.heap.size 30 i0 _ 4 32 Try.underlying38 hi hz0 hz1 hz2 rfl (by decide) _ _ _ rfl ho _ _ _ rfl hA honea.out (by unfold maxLen; omega) (by omega) (by omega) ?_)
        intro v1 w2 ho1 hgr1
        have bw2 := below_of_mark (N := w.heap.size) ho hgr1 (Nat.le_refl _) hsz
        have hBw := hBel.trans bw2
        have hB2 := FlatB.flat (FlatB.below fB bw2) hBw.size
        have hs1 := hBw.size
        go_wp2_with (at_builtin; refine wpList_append_flat rfl _ _ 38 rfl w.heap.size 30 i0 _ 4 32 Try.underlying38 hi hz0 hz1 hz2 rfl (by decide) _ _ _ rfl ho1 _ _ _ rfl hB2 honeb.out (by unfold maxLen; omega) (by omega) (by omega) ?_)
        intro v2 w3 ho2 hgr2
        have hBf := hBw.trans (below_of_mark (N := w.heap.size) ho1 hgr2 (Nat.le_refl _) hs1)
        go_wp2
        go_ret
        refine ⟨_, rfl, ?_, by rw [hml.out]; omega, hBf⟩
        rw [hml.out, hF.out]
        rw [← List.flatMap_append, ← List.flatMap_append] at ho2
        exact ho2
      · obtain ⟨x, bb, off, rfl, q1⟩ := hcell e1
        have n1 := hl0 A e2
        have He2 := hid e2
        clear hcell hl0 hl1 e2
        go_wp2_with (at_builtin; refine wpList_append_flat rfl _ _ 38 rfl w.heap.size 30 i0 _ 4 32 Try.underlying38 hi hz0 hz1 hz2 rfl (by decide) _ _ _ rfl ho _ _ _ rfl hA honea.out (by unfold maxLen; omega) (by omega) (by omega) ?_)
        intro v1 w2 ho1 hgr1
        have bw2 := below_of_mark (N := w.heap.size) ho hgr1 (Nat.le_refl _) hsz
        have hBw := hBel.trans bw2
        have hB2 := FlatB.flat (FlatB.below fB bw2) hBw.size
        have hs1 := hBw.size
        go_wp2_with (at_builtin; refine wpList_append_flat rfl _ _ 38 rfl w.heap.size 30 i0 _ 4 32 Try.underlying38 hi hz0 hz1 hz2 rfl (by decide) _ _ _ rfl ho1 _ _ _ rfl hB2 honeb.out (by unfold maxLen; omega) (by omega) (by omega) ?_)
        intro v2 w3 ho2 hgr2
        have hBf := hBw.trans (below_of_mark (N := w.heap.size) ho1 hgr2 (Nat.le_refl _) hs1)
        go_wp2
        go_ret
        refine ⟨_, rfl, ?_, by rw [hml.out]; omega, hBf⟩
        rw [hml.out, hF.out]
        rw [← List.flatMap_append, ← List.flatMap_append] at ho2
        exact ho2
      · obtain ⟨x, bb, off, rfl, q1⟩ := hcell e1
        have n1 := hl1 A e2
        have n2 := hl0 B e3
        have He2 := hid e2
        have He3 := hid e3
        clear hcell hl0 hl1 e2 e3
        go_wp2_with (at_builtin; refine wpList_append_flat rfl _ _ 38 rfl w.heap.size 30 i0 _ 4 32 Try.underlying38 hi hz0 hz1 hz2 rfl (by decide) _ _ _ rfl ho _ _ _ rfl hA honea.out (by unfold maxLen; omega) (by omega) (by omega) ?_)
        intro v1 w2 ho1 hgr1
        have bw2 := below_of_mark (N := w.heap.size) ho hgr1 (Nat.le_refl _) hsz
        have hBw := hBel.trans bw2
        have hB2 := FlatB.flat (FlatB.below fB bw2) hBw.size
        have hs1 := hBw.size
        go_wp2_with (at_builtin; refine wpList_append_flat rfl _ _ 38 rfl w.heap.size 30 i0 _ 4 32 Try.underlying38 hi hz0 hz1 hz2 rfl (by decide) _ _ _ rfl ho1 _ _ _ rfl hB2 honeb.out (by unfold maxLen; omega) (by omega) (by omega) ?_)
        intro v2 w3 ho2 hgr2
        have hBf := hBw.trans (below_of_mark (N := w.heap.size) ho1 hgr2 (Nat.le_refl _) hs1)
        go_wp2
        go_ret
        refine ⟨_, rfl, ?_, by rw [hml.out]; omega, hBf⟩
        rw [hml.out, hF.out]
        rw [← List.flatMap_append, ← List.flatMap_append] at ho2
        exact ho2
    obtain ⟨hq, hA0, hB0⟩ := hgo
    obtain ⟨bb, off, rfl, hbs, q1⟩ := hc2 _ hq
    rw [← hBel.cell (p := ⟨bb, off + L.length, none⟩) hbs] at q1
    have hne1 : ((A.length : Int) == 0) = false := by rw [beq_eq_false_iff_ne]; omega
    have hne2 : ((B.length : Int) == 0) = false := by rw [beq_eq_false_iff_ne]; omega
    cases ht : ts[L.length] with
    | true =>
      · have hre := hid (show mergedF (ts.drop L.length) A B = B[0] :: mergedF (ts.drop (L.length + 1)) A (B.drop 1) by rw [List.drop_eq_getElem_cons hq, mergedF_step _ _ _ _ hA0 hB0, ht]; rfl)
        rw [ht] at q1
        obtain ⟨b1, off1, rfl, hbs1, c0, c1, c2, c3⟩ := hcb 0 hB0
        rw [Nat.zero_mul, Nat.add_zero] at c0 c1 c2 c3
        obtain ⟨vt, hrun, ft⟩ := ops_tail hi hz1 fB hB0
        have hroom : L.length + 1 ≤ a.length + b.length := by omega
        clear hca hcb ht hc2
        go_wp2
        go_region_law (first | (refine step_append_fits rfl (.tmp 31) (.tmp 35) 38 rfl w.heap.size 30 i0 4 Try.underlying38 hi hz1 w.heap.size L.length (a.length + b.length) _ (by simp [Act.eval]) (World.ownsRow.alloc (w := wr.drew) ho _) ⟨wr.heap.size, 0, none⟩ 1 1 (WordOp.enc B[0]) (by simp [Act.eval]) rfl (opcells wr.drew _ _) (oneCell_W _) hroom ?_; intro w3 ho3 hg3))
        have bwr : Below w.heap.size wr w3 := (((Below.refl _ _).alloc hsz _).drew).trans (below_of_mark (N := w.heap.size) (w := (wr.alloc (.cells #[.int .i64 B[0].kind_, .int .i64 B[0].at_, .int .i64 B[0].old_, .int .i64 B[0].new_] 30)).drew) (World.ownsRow.alloc (w := wr) ho _) hg3 (Nat.le_refl _) (by simp; omega))
        have hB3 := hBel.trans bwr
        have ho4 : w3.ownsRow w.heap.size 30 4 (.slice (some ⟨w.heap.size, 0, none⟩) (L ++ [B[0]]).length (a.length + b.length)) (L ++ [B[0]]).length ((L ++ [B[0]]).flatMap WordOp.enc) := by
          rw [List.flatMap_append, List.length_append, List.length_singleton]; simpa using ho3
        have hlen : (L ++ [B[0]]).length = L.length + 1 := by simp
        have hdl : (B.drop 1).length = B.length - 1 := by simp
        have Hlen := hid hlen
        have Hdl := hid hdl
        have HL4 := hid ho4
        have Hs : Hid (Same (mergedF ts a b) (L ++ [B[0]] ++ mergedF (ts.drop (L ++ [B[0]]).length) A (B.drop 1))) := by
          show _ = _
          rw [hall.out, hre.out, hlen, List.append_assoc]; rfl
        clear hlen hdl ho3 hg3 ho4 hrun
        go_wp2
        go_roundw
        case rel => exact ⟨A, B.drop 1, L ++ [B[0]], by rw [Hlen.out, Hdl.out]; omega, by rw [Hlen.out]; omega, by rw [Hlen.out], by rw [Hlen.out]; go_num, HL4.out, Hs.out, FlatB.below fA bwr, FlatB.below ft bwr, hB3⟩
        case measure => simp [intOf]; omega
    | false =>
      · have hre := hid (show mergedF (ts.drop L.length) A B = A[0] :: mergedF (ts.drop (L.length + 1)) (A.drop 1) B by rw [List.drop_eq_getElem_cons hq, mergedF_step _ _ _ _ hA0 hB0, ht]; rfl)
        rw [ht] at q1
        obtain ⟨b1, off1, rfl, hbs1, c0, c1, c2, c3⟩ := hca 0 hA0
        rw [Nat.zero_mul, Nat.add_zero] at c0 c1 c2 c3
        obtain ⟨vt, hrun, ft⟩ := ops_tail hi hz1 fA hA0
        have hroom : L.length + 1 ≤ a.length + b.length := by omega
        clear hca hcb ht hc2
        go_wp2
        go_region_law (first | (refine step_append_fits rfl (.tmp 39) (.tmp 43) 38 rfl w.heap.size 30 i0 4 Try.underlying38 hi hz1 w.heap.size L.length (a.length + b.length) _ (by simp [Act.eval]) (World.ownsRow.alloc (w := wr.drew) ho _) ⟨wr.heap.size, 0, none⟩ 1 1 (WordOp.enc A[0]) (by simp [Act.eval]) rfl (opcells wr.drew _ _) (oneCell_W _) hroom ?_; intro w3 ho3 hg3))
        have bwr : Below w.heap.size wr w3 := (((Below.refl _ _).alloc hsz _).drew).trans (below_of_mark (N := w.heap.size) (w := (wr.alloc (.cells #[.int .i64 A[0].kind_, .int .i64 A[0].at_, .int .i64 A[0].old_, .int .i64 A[0].new_] 30)).drew) (World.ownsRow.alloc (w := wr) ho _) hg3 (Nat.le_refl _) (by simp; omega))
        have hB3 := hBel.trans bwr
        have ho4 : w3.ownsRow w.heap.size 30 4 (.slice (some ⟨w.heap.size, 0, none⟩) (L ++ [A[0]]).length (a.length + b.length)) (L ++ [A[0]]).length ((L ++ [A[0]]).flatMap WordOp.enc) := by
          rw [List.flatMap_append, List.length_append, List.length_singleton]; simpa using ho3
        have hlen : (L ++ [A[0]]).length = L.length + 1 := by simp
        have hdl : (A.drop 1).length = A.length - 1 := by simp
        have Hlen := hid hlen
        have Hdl := hid hdl
        have HL4 := hid ho4
        have Hs : Hid (Same (mergedF ts a b) (L ++ [A[0]] ++ mergedF (ts.drop (L ++ [A[0]]).length) (A.drop 1) B)) := by
          show _ = _
          rw [hall.out, hre.out, hlen, List.append_assoc]; rfl
        clear hlen hdl ho3 hg3 ho4 hrun
        go_wp2
        go_roundw
        case rel => exact ⟨A.drop 1, B, L ++ [A[0]], by rw [Hlen.out, Hdl.out]; omega, by rw [Hlen.out]; omega, by rw [Hlen.out], by rw [Hlen.out]; go_num, HL4.out, Hs.out, FlatB.below ft bwr, FlatB.below fB bwr, hB3⟩
        case measure => simp [intOf]; omega
end Go.Proofs.Ytfhkngmankmehaa
