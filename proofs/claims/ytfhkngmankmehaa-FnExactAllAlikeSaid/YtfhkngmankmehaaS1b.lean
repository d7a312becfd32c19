/- Chapter 1's model functions, more. -/
import Derived.Test.YtfhkngmankmehaaS1
namespace Go.Proofs.Ytfhkngmankmehaa
open Go.RowKit Go.Proofs Go.Own

theorem spec_Words (v : Value) (xs : List Int) (u : Value) (ops : List WordOp) (w : World) (h : Ints w v xs) (hx : xs.length ≤ 1048576) (g : WordOps w u ops) (hg : ops.length ≤ 1048576) :
    Calls Try.prog 19 #[v, u] w fun e w' => ∃ v' u', e = .returned (.tuple #[v', u', .bool (wordsF xs ops).2.2]) ∧ Ints w' v' (wordsF xs ops).1 ∧ Ints w' u' (wordsF xs ops).2.1 ∧ Below w.heap.size w w' := by
  obtain ⟨i0, hi, hz0, hz1, hz2⟩ := info_parts infoInt
  obtain ⟨ad, cap, rfl, hl, hm⟩ := Flat.form h
  obtain ⟨ad2, cap2, rfl, hl2, hm2, hc⟩ := g.open
  have hlen : ops.length ≤ 9223372036854775807 := by omega
  clear g
  go_enter Try.func19, Try.ntmps19
  go_wp2_with fail
  refine (spec_l1Copy _ xs _ h hx).mono ?_
  rintro e w1 ⟨v1, rfl, o1, b1⟩
  have hown : (w1.alloc (.cells #[] 3)).ownsRow w.heap.size 3 1 (.slice (some ⟨w1.heap.size, 0, none⟩) 0 0) 0 [] := World.ownsRow_made _ _ _ b1.size (Nat.zero_le _) rfl
  have hBa : Below w1.heap.size w1 (w1.alloc (.cells #[] 3)) := (Below.refl _ _).alloc (Nat.le_refl _) _
  have hB : Below w.heap.size w (w1.alloc (.cells #[] 3)) := b1.trans (hBa.mono b1.size)
  have r1 : Ints (w1.alloc (.cells #[] 3)) v1 xs := Flat.below (Flat.of_owns o1) hBa
  by_cases hbig : 200 < ops.length
  · have hF : wordsF xs ops = (xs, [], false) := by simp [wordsF, hbig]
    have hu : Ints (w1.alloc (.cells #[] 3)) (.slice (some ⟨w1.heap.size, 0, none⟩) 0 0) [] := Flat.of_owns hown
    go_wp2
    go_ret3
    rw [hF]
    exact ⟨_, _, rfl, r1, hu, hB⟩
  · have hF : Hid (wordsF xs ops = wordsAt xs ops ops.length) := by simp only [Hid, wordsF, if_neg hbig]
    go_wp2
    generalize hW : w1.alloc (.cells #[] 3) = W0 at *
    go_loopw [7, 8, 9, 10] (fun m t a i wr => ∃ k : Nat, k ≤ ops.length ∧ i = .int .i64 k ∧ Ints wr m (wordsAt xs ops k).1 ∧ wr.ownsRow w.heap.size 3 1 t k ((wordsAt xs ops k).2.1.flatMap encI) ∧ a = .bool (wordsAt xs ops k).2.2 ∧ Below w.heap.size w wr) (fun _ _ _ i _ => ops.length - (intOf i).toNat)
    case atStart => exact ⟨0, by omega, rfl, r1, hown, rfl, hB⟩
    case round =>
      clear hown hBa hB r1 hW b1 o1
      obtain ⟨k, hk, rfl, hm1, ho1, rfl, hB⟩ := hrel
      by_cases hlt : k < ops.length
      · obtain ⟨bb, off, rfl, hbs, c0, c1, c2, c3⟩ := hc k hlt
        have hS := hid (wordsAt_succ xs ops k hlt)
        have hml := hid (wordsAt_len xs ops k)
        generalize hs : wordsAt xs ops k = s at *
        have Hs := hid hs
        have kc : ∀ o, wr.cell? ⟨bb, o, none⟩ = w.cell? ⟨bb, o, none⟩ := fun o => hB.cell (p := ⟨bb, o, none⟩) hbs
        rw [← kc] at c0 c1 c2 c3
        clear hc kc hs
        go_wp2_with fail
        refine (spec_Word_own _ s.1 ops[k] _ hm1 (by rw [hml.out]; omega)).mono ?_
        rintro e w2 ⟨v2, rfl, m2, b2⟩
        have ho2 := owns_below ho1 b2
        have hB2 := hB.trans (b2.mono hB.size)
        go_wp2_with (at_builtin; refine wpList_append_own _ rfl _ _ 22 rfl w.heap.size 3 i0 (.int .i64 0) 1 8 Try.underlying22 hi hz0 hz1 hz2 rfl (by decide) _ _ _ rfl (ho2.alloc _) ⟨w2.heap.size, 0, none⟩ 1 1 [.int .i64 (wordF s.1 ops[k]).2.1] rfl rfl ?c1 ?c2 ?c3 ?c4 ?c5 ?_)
        case c1 => intro j u hu; match j, hu with | 0, hu => simp at hu; subst hu; simp [Addr.add]
        case c2 => intro u hu; simp at hu; subst hu; rfl
        case c3 => unfold maxLen; omega
        case c4 => omega
        case c5 => simp; have := hB2.size; omega
        intro t3 w3 ho3 hg3 _
        have ap := apart ho1 (Nat.le_refl _) m2
        have hBx : Below w2.heap.size w2 (w2.alloc (.cells #[.int .i64 (wordF s.1 ops[k]).2.1] 3)) := (Below.refl _ _).alloc (Nat.le_refl _) _
        have m3 : Ints w3 v2 (wordF s.1 ops[k]).1 := Flat.of_owns ((owns_below m2 hBx).kept hg3 ap.2)
        have hB3 := (hB2.trans (hBx.mono hB2.size)).trans (below_of_mark (N := w.heap.size) (ho2.alloc _) hg3 (Nat.le_refl _) (by simp; have := hB2.size; omega))
        rw [encI_snoc] at ho3
        rcases bool_cases s.2.2 with ha | ha
        all_goals
          have ha' := ha.out
          go_wp2
          go_roundw
          case rel => exact ⟨k+1, by omega, by go_num, by rw [hS.out]; exact m3, by rw [hS.out]; exact ho3, by rw [hS.out]; simp [ha'], hB3⟩
          case measure => simp [intOf]; omega
      · obtain rfl : k = ops.length := by omega
        go_wp2
        go_ret3
        rw [hF.out]
        exact ⟨_, _, rfl, hm1, by unfold Ints; rw [wordsAt_told _ _ _ (Nat.le_refl _)]; exact Flat.of_owns ho1, hB⟩
end Go.Proofs.Ytfhkngmankmehaa
