/- Chapter 1's program functions, more: many ops. -/
import Derived.Test.YtfhkngmankmehaaI1b
namespace Go.Proofs.Ytfhkngmankmehaa
open Go.RowKit Go.Proofs Go.Own

theorem steps_kept {w w' : World} {v : Value} {base e sz n r : Nat} {cs : List Value} (h : w.heap[r]? = some stepsObj) (ho : w.ownsRow base e sz v n cs) (hg : w.grownBy w' v.ownBlock) : w'.heap[r]? = some stepsObj := by
  rw [hg.block r (Array.getElem?_eq_some_iff.1 h).1 ?_]
  · exact h
  · intro e
    rcases ho.2 with ⟨rfl, _⟩ | ⟨g, cap, cur, rfl, _, hh, _⟩
    · cases e
    · simp only [Value.ownBlock, Option.some.injEq] at e
      subst e
      rw [h] at hh
      cases hh
theorem steps_kept2 {w w' : World} {v : Value} {base e sz n r j : Nat} {l : List Value} (h : w.heap[r]? = some stepsObj) (ho : Fills w base e sz v n l j) (hg : w.grownBy w' v.ownBlock) : w'.heap[r]? = some stepsObj := by
  obtain ⟨z, _, ho⟩ := ho
  exact steps_kept h ho hg
theorem steps_below {w w' : World} {r : Nat} (h : w.heap[r]? = some stepsObj) (hb : Below w.heap.size w w') : w'.heap[r]? = some stepsObj := by
  rw [hb.block r (Array.getElem?_eq_some_iff.1 h).1]; exact h

set_option maxHeartbeats 1000000 in
theorem impl_Words (v : Value) (xs : List Int) (u : Value) (ops : List WordOp) (w : World) (h : Ints w v xs) (hx : xs.length ≤ 1048576) (g : WordOps w u ops) (hg : ops.length ≤ 1048576) :
    Calls Try.prog 21 #[v, u] w fun e w' => ∃ v' u', e = .returned (.tuple #[v', u', .bool (wordsF xs ops).2.2]) ∧
      w'.ownsRow w.heap.size 3 1 v' (wordsF xs ops).1.length ((wordsF xs ops).1.flatMap encI) ∧ (wordsF xs ops).1.length ≤ 1099511627776 ∧
      w'.ownsRow w.heap.size 3 1 u' (wordsF xs ops).2.1.length ((wordsF xs ops).2.1.flatMap encI) ∧ (wordsF xs ops).2.1.length ≤ 1099511627776 ∧
      ((v'.ownBlock = none ∨ v'.ownBlock ≠ u'.ownBlock) ∧ (u'.ownBlock = none ∨ u'.ownBlock ≠ v'.ownBlock)) ∧ Below w.heap.size w w' := by
  obtain ⟨i0, hi, hz0, hz1, hz2⟩ := info_parts infoInt
  obtain ⟨ad, cap, rfl, hl, hm⟩ := Flat.form h
  obtain ⟨ad2, cap2, rfl, hl2, hm2, hc⟩ := g.open
  have hlen : ops.length ≤ 9223372036854775807 := by omega
  have hL1 := hid (wordsF_len xs ops)
  have hL2 := hid (wordsF_told xs ops)
  clear g
  go_enter Try.func21, Try.ntmps21
  go_wp2_with fail
  refine (impl_copyCells _ xs _ h hx).mono ?_
  rintro e w1 ⟨v1, rfl, o1, b1⟩
  by_cases hbig : 200 < ops.length
  · have hF : wordsF xs ops = (xs, [], false) := by simp [wordsF, hbig]
    go_wp2
    go_ret3
    rw [hF]
    exact ⟨_, _, rfl, o1, by show xs.length ≤ _; omega, World.ownsRow_nil _ _ _ _, by simp, apart_nil _, b1⟩
  · have hF : Hid (wordsF xs ops = wordsAt xs ops ops.length) := by simp only [Hid, wordsF, if_neg hbig]
    go_wp2_with (at_make; refine wpList_make_full _ rfl _ _ 22 rfl w1.heap.size 3 i0 (.int .i64 0) 1 Try.underlying22 hi hz0 hz1 _ _ _ _ ops.length rfl rfl rfl rfl (by rw [hz2]; omega) (by unfold maxLen; omega) (Nat.le_refl _) ?_)
    intro w2 ho2 hg2
    have b2 : Below w1.heap.size w1 w2 := (Below.refl _ _).grown hg2 (Nat.le_refl _) (by simp)
    go_wp2_with fail
    refine (impl_wordSteps1 _).mono ?_
    rintro e w3 ⟨r, rfl, hr, b3⟩
    have hB := b1.trans ((b2.mono b1.size).trans (b3.mono (Nat.le_trans b1.size b2.size)))
    have hw01 := b1.size
    have hs13 := Nat.le_trans b2.size b3.size
    have o3 := owns_below (owns_below o1 b2) b3
    have t3 := owns_below ho2 b3
    have ap := apart o1 (Nat.le_refl _) ho2
    generalize hLL : (wordsAt xs ops ops.length).2.1.flatMap encI = L
    have hLl : L.length = ops.length * 1 := by rw [← hLL, flatMap_len encI 1 (fun _ => rfl), wordsAt_told _ _ _ (Nat.le_refl _)]
    have hLk : ∀ k, (hk : k < ops.length) → Hid (L[k]? = some (.int .i64 (wordF (wordsAt xs ops k).1 ops[k]).2.1)) := fun k hk => by
      have h1 := wordsAt_get xs ops k hk ops.length hk (Nat.le_refl _)
      show L[k]? = _
      rw [← hLL, encI_map, List.getElem?_map, h1]; rfl
    have F3 := Fills.start (l := L) t3 hLl
    have HLl := hid hLl
    have HLL := hid hLL
    clear hLl hLL ho2 hg2 t3 o1 b1 b2 b3
    go_wp2
    go_loopw [9, 27] (fun a i wr => ∃ k : Nat, k ≤ ops.length ∧ i = .int .i64 k ∧ a = .bool (wordsAt xs ops k).2.2 ∧ wr.ownsRow w.heap.size 3 1 v1 xs.length ((wordsAt xs ops k).1.flatMap encI) ∧
      Fills wr w1.heap.size 3 1 (.slice (some ⟨w1.heap.size, 0, none⟩) ops.length ops.length) ops.length L k ∧ wr.heap[r]? = some stepsObj ∧ Below w.heap.size w wr ∧ w1.heap.size ≤ wr.heap.size) (fun _ i _ => ops.length - (intOf i).toNat)
    case atStart => exact ⟨0, by omega, rfl, rfl, o3, F3, hr, hB, hs13⟩
    case round =>
      clear o3 F3 hr hB
      obtain ⟨k, hk, rfl, rfl, ho1, hF1, hr, hB, hs1⟩ := hrel
      by_cases hlt : k < ops.length
      · obtain ⟨bb, off, rfl, hbs, c0, c1, c2, c3⟩ := hc k hlt
        have hS := hid (wordsAt_succ xs ops k hlt)
        have hml := hid (wordsAt_len xs ops k)
        have hLk := hLk k hlt
        generalize hs : wordsAt xs ops k = s at *
        have Hs := hid hs
        have kc : ∀ o, wr.cell? ⟨bb, o, none⟩ = w.cell? ⟨bb, o, none⟩ := fun o => hB.cell (p := ⟨bb, o, none⟩) hbs
        rw [← kc] at c0 c1 c2 c3
        clear hc kc hs
        have hsz := hB.size
        go_wp2_with fail
        have hBx : Below wr.heap.size wr (wr.alloc (.cells #[.int .i64 ops[k].kind_, .int .i64 ops[k].at_, .int .i64 ops[k].old_, .int .i64 ops[k].new_] 30)) := (Below.refl _ _).alloc (Nat.le_refl _) _
        rw [← hml.out] at ho1
        have ho2 := owns_below ho1 hBx
        refine (impl_do _ r _ s.1 ops[k] _ ho2 (steps_below hr hBx)).mono ?_
        rintro e w4 ⟨rfl, o4, g4⟩
        have hr4 := steps_kept (steps_below hr hBx) ho2 g4
        have hF4 := (hF1.below hBx).kept g4 ap.2
        have hB4 := (hB.trans (hBx.mono hB.size)).trans (below_of_mark ho2 g4 (Nat.le_refl _) (by simp; omega))
        have hs4 : w1.heap.size ≤ w4.heap.size := by have := g4.size; simp at this; omega
        obtain ⟨gg, hgg, _, _, hcells⟩ := hF4.at HLl.out (by rw [HLl.out]; omega)
        obtain rfl := (Addr.mk.inj (Option.some.inj hgg)).1
        obtain ⟨⟨u0, hu0⟩, hf0⟩ := hcells k (by rw [HLl.out]; omega)
        have hF5 := hF4.store _ hLk.out
        have hB5 := hB4.setCell (p := ⟨w1.heap.size, k, none⟩) (by show w.heap.size ≤ w1.heap.size; exact hw01) (.int .i64 (wordF s.1 ops[k]).2.1)
        have o5 := o4.kept hF5.2 ap.1
        have hr5 := steps_kept2 hr4 hF4 hF5.2
        rw [hml.out] at o5
        have hs5 : w1.heap.size ≤ (w4.setCell ⟨w1.heap.size, k, none⟩ (.int .i64 (wordF s.1 ops[k]).2.1)).heap.size := by simpa using hs4
        clear hcells hgg hF4 hr4 o4 g4 ho2 hB4 hF1 ho1
        rcases bool_cases s.2.2 with ha | ha
        all_goals
          have ha' := ha.out
          go_wp2
          go_roundw
          case rel => exact ⟨k+1, by omega, by go_num, by rw [hS.out]; simp [ha'], by rw [hS.out]; exact o5, hF5.1, hr5, hB5, hs5⟩
          case measure => simp [intOf]; omega
      · obtain rfl : k = ops.length := by omega
        have hfin := hF1.done (by have := HLl.out; omega)
        rw [← HLL.out] at hfin
        have hl1 := wordsAt_len xs ops ops.length
        have hl2 := wordsAt_told xs ops ops.length (Nat.le_refl _)
        have Hl1 := hid hl1
        have Hl2 := hid hl2
        clear hl1 hl2
        go_wp2
        go_ret3
        rw [hF.out]
        exact ⟨_, _, rfl, by rw [Hl1.out]; exact ho1, by rw [Hl1.out]; omega, by rw [Hl2.out]; exact owns_mono hfin hw01, by rw [Hl2.out]; omega, ap, hB⟩
end Go.Proofs.Ytfhkngmankmehaa
