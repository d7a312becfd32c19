/- Chapter 5's model: ReadSchedule. -/
import Derived.Test.YtjcoakgdhiiiaaaDoorS5f
namespace Go.Proofs.YtjcoakgdhiiiaaaDoor
set_option maxRecDepth 100000
open Go.RowKit Go.Proofs Go.Own
set_option linter.unusedVariables false
set_option linter.unusedSimpArgs false
/-- Where a word that begins at j ends: at a blank or the text's end. -/
def endFrom (s : ByteArray) : Nat → Nat → Nat
  | 0, j => j
  | f+1, j => if bt s j = 32 then j else endFrom s f (j+1)
def readFrom (s : ByteArray) : Nat → Nat → List Run → Int → List Run × Int × Int
  | 0, _, O, _ => (O, 0, 0)
  | f+1, A, O, T =>
    if A ≤ s.size then
      match wordC (s.extract A (endFrom s (s.size - A) A)) with
      | none => ([], 2, (A : Int))
      | some r => if O.length = 60 ∨ 1500 < T + r.many_ then ([], 3, (A : Int)) else readFrom s f (endFrom s (s.size - A) A + 1) (O ++ [r]) (T + r.many_)
    else (O, 0, 0)
def readC (s : ByteArray) : List Run × Int × Int := if 600 < s.size then ([], 1, 0) else if s.size = 0 then ([], 0, 0) else readFrom s (s.size + 1) 0 [] 0
theorem read_done (s : ByteArray) (f A : Nat) (O : List Run) (T : Int) (h : ¬ A ≤ s.size) : readFrom s f A O T = (O, 0, 0) := by
  cases f with
  | zero => rfl
  | succ f => exact if_neg h
theorem read_word {s : ByteArray} {f A E : Nat} {O : List Run} {T : Int} (h : A ≤ s.size) (hf : s.size + 1 ≤ A + f) (hE : endFrom s (s.size - A) A = E) (hw : wordC (s.extract A E) = none) : readFrom s f A O T = ([], 2, (A : Int)) := by
  obtain ⟨g, rfl⟩ : ∃ g, f = g + 1 := ⟨f - 1, by omega⟩
  show (if A ≤ s.size then _ else _) = _
  rw [if_pos h, hE, hw]
theorem read_many {s : ByteArray} {f A E : Nat} {O : List Run} {T : Int} {r : Run} (h : A ≤ s.size) (hf : s.size + 1 ≤ A + f) (hE : endFrom s (s.size - A) A = E) (hw : wordC (s.extract A E) = some r) (hm : O.length = 60 ∨ 1500 < T + r.many_) : readFrom s f A O T = ([], 3, (A : Int)) := by
  obtain ⟨g, rfl⟩ : ∃ g, f = g + 1 := ⟨f - 1, by omega⟩
  show (if A ≤ s.size then _ else _) = _
  rw [if_pos h, hE, hw]
  exact if_pos hm
theorem read_step {s : ByteArray} {f A E : Nat} {O : List Run} {T : Int} {r : Run} (h : A ≤ s.size) (hf : s.size + 1 ≤ A + f) (hE : endFrom s (s.size - A) A = E) (hw : wordC (s.extract A E) = some r) (hm : ¬ (O.length = 60 ∨ 1500 < T + r.many_)) : readFrom s f A O T = readFrom s (f - 1) (E + 1) (O ++ [r]) (T + r.many_) := by
  obtain ⟨g, rfl⟩ : ∃ g, f = g + 1 := ⟨f - 1, by omega⟩
  show (if A ≤ s.size then _ else _) = _
  rw [if_pos h, hE, hw]
  exact if_neg hm
theorem end_on {s : ByteArray} {E : Nat} (h : E < s.size) (hb : bt s E ≠ 32) : endFrom s (s.size - E) E = endFrom s (s.size - (E + 1)) (E + 1) := by
  rw [show s.size - E = (s.size - (E + 1)) + 1 by omega]
  exact if_neg hb
theorem end_blank {s : ByteArray} {E : Nat} (h : E < s.size) (hb : bt s E = 32) : endFrom s (s.size - E) E = E := by
  rw [show s.size - E = (s.size - (E + 1)) + 1 by omega]
  exact if_pos hb
theorem wordC_many {s : ByteArray} {r : Run} (h : wordC s = some r) : 1 ≤ r.many_ ∧ r.many_ ≤ 500 := by
  unfold wordC at h
  split at h; · cases h
  split at h; · cases h
  split at h
  · cases h; exact ⟨Int.le_refl 1, by simp⟩
  split at h; · cases h
  split at h; · cases h
  split at h; · cases h
  cases hd : digits s (s.size - 2) 2 0 with
  | none => rw [hd] at h; cases h
  | some n =>
    rw [hd] at h
    change (if 2 ≤ n ∧ n ≤ 500 then some _ else none) = some r at h
    split at h
    · cases h; simp only; omega
    · cases h
theorem infoRun5 : (Tryd.prog.info? 37).map (fun i => (i.zero, i.size, i.bytes)) = some (some (.agg #[.int .i64 0, .int .i64 0]), 2, 16) := by kernel_rfl
theorem encR_snoc (xs : List Run) (r : Run) : (xs ++ [r]).flatMap Run.enc = xs.flatMap Run.enc ++ [.int .i64 r.thread_, .int .i64 r.many_] := by simp [Run.enc]
def ReadR (N : Nat) (e : Ending) (w' : World) (x : List Run × Int × Int) : Prop := ∃ v' : Value, e = .returned (.tuple #[v', .int .i64 x.2.1, .int .i64 x.2.2]) ∧ w'.ownsRow N 37 2 v' x.1.length (x.1.flatMap Run.enc)
theorem readR_of {N : Nat} {e : Ending} {w' : World} {x : List Run × Int × Int} {L : List Run} {c p : Int} {v : Value} (hx : x = (L, c, p)) (he : e = .returned (.tuple #[v, .int .i64 c, .int .i64 p]))
    (ho : w'.ownsRow N 37 2 v L.length (L.flatMap Run.enc)) : ReadR N e w' x := by
  subst hx; exact ⟨v, he, ho⟩
theorem owns_none (w : World) (N b : Nat) (hb : w.heap.size = b) (hN : N ≤ w.heap.size) : (w.alloc (.cells #[] 37)).ownsRow N 37 2 (.slice (some ⟨b, 0, none⟩) 0 0) 0 [] := hb ▸ World.ownsRow_made _ _ _ hN (by decide) rfl
set_option maxHeartbeats 8000000 in
theorem spec_ReadSchedule (s : ByteArray) (w : World) (hs : s.size ≤ 1048576) :
    Calls Tryd.prog 10 #[.string s] w fun e w' => ReadR w.heap.size e w' (readC s) ∧ Below w.heap.size w w' := by
  obtain ⟨i0, hi, hz0, hz1, hz2⟩ := info_parts infoRun5
  obtain ⟨W1, hW1⟩ : ∃ X, w.alloc (.cells #[] 37) = X := ⟨_, rfl⟩
  have hB1 : Below w.heap.size w W1 := by rw [← hW1]; exact (Below.refl _ _).alloc (Nat.le_refl _) _
  have o1 : W1.ownsRow w.heap.size 37 2 (.slice (some ⟨w.heap.size, 0, none⟩) 0 0) 0 [] := by rw [← hW1]; exact World.ownsRow_made _ _ _ (Nat.le_refl _) (by decide) rfl
  by_cases s6 : (600 : Int) < (s.size : Int)
  · have Hy := hid (show readC s = ([], 1, 0) from if_pos (by omega))
    go_enter Tryd.func10, Tryd.ntmps10
    go_wp2
    go_ret3
    exact ⟨readR_of Hy.out rfl o1, hB1⟩
  by_cases s0 : (s.size : Int) = 0
  · have Hy := hid (show readC s = ([], 0, 0) by unfold readC; rw [if_neg (by omega), if_pos (by omega)])
    go_enter Tryd.func10, Tryd.ntmps10
    go_wp2
    go_loopw [5, 6, 7] (fun o t a wr => o = .slice (some ⟨w.heap.size, 0, none⟩) 0 0 ∧ wr = W1) (fun _ _ _ _ => 0)
    case atStart => exact ⟨rfl, rfl⟩
    case round =>
      obtain ⟨rfl, rfl⟩ := hrel
      go_wp2
      go_ret3
      exact ⟨readR_of Hy.out rfl o1, hB1⟩
  have sp : (0 : Int) < (s.size : Int) := by omega
  have hC := hid (show readC s = readFrom s (s.size + 1) 0 [] 0 by unfold readC; rw [if_neg (by omega), if_neg (by omega)])
  go_enter Tryd.func10, Tryd.ntmps10
  go_wp2
  clear hW1
  go_loopw [5, 6, 7] (fun o t a wr => ∃ (A f : Nat) (O : List Run) (T : Int), A ≤ s.size + 1 ∧ s.size + 1 ≤ A + f ∧ a = .int .i64 A ∧ t = .int .i64 T ∧ O.length ≤ 60 ∧ 0 ≤ T ∧ T ≤ 1500 ∧ wr.ownsRow w.heap.size 37 2 o O.length (O.flatMap Run.enc) ∧ Hid (readC s = readFrom s f A O T) ∧ Below w.heap.size w wr) (fun _ _ a _ => s.size + 2 - (intOf a).toNat)
  case atStart => exact ⟨0, s.size + 1, [], 0, by omega, by omega, rfl, rfl, by simp, by omega, by omega, o1, hC, hB1⟩
  case round =>
    clear o1 hB1 hC
    obtain ⟨A, f, O, T, hA, hf, rfl, rfl, hO, hT0, hT1, o, hR, hB⟩ := hrel
    by_cases hlt : (A : Int) ≤ (s.size : Int)
    · go_wp2
      go_loop [8] (fun e => ∃ E : Nat, A ≤ E ∧ E ≤ s.size ∧ e = .int .i64 E ∧ Hid (endFrom s (s.size - A) A = endFrom s (s.size - E) E)) (fun e => s.size - (intOf e).toNat)
      case atStart => exact ⟨A, by omega, by omega, rfl, hid rfl⟩
      case round =>
        obtain ⟨E, hAE, hE, rfl, hS⟩ := hrel
        have hAE' : (A : Int) ≤ (E : Int) := by omega
        have hE' : (E : Int) ≤ (s.size : Int) := by omega
        by_cases h1 : (E : Int) < (s.size : Int)
        · have h2 : E < s.size := by omega
          have bk := bt_eq h2
          by_cases h3 : bt s E = 32
          · have Hend := hid (hS.out.trans (end_blank h2 h3))
            have h4 : ((bt s E : Int) == 32) = true := by rw [h3]; rfl
            have h5 : ((bt s E : Int) != 32) = false := by rw [h3]; rfl
            clear h3
            have HC := hid hR.out
            clear hR hS
            try clear h4
            obtain ⟨ad, cap, rfl, hl, hm⟩ := (Flat.of_owns o).form
            go_wp2_with fail
            refine (spec_l5Run _ _ (by simp; omega)).mono ?_
            rintro e w2 ⟨⟨r, B, rfl, hwc⟩, b2⟩
            have hB2 := hB.trans (b2.mono hB.size)
            have o2 := owns_below o b2
            have z2 := hB2.size
            clear o hB
            cases B with
            | false =>
              have Hx := hid (HC.out.trans (read_word (T := T) (by omega) hf Hend.out hwc))
              clear hwc
              go_wp2
              go_ret3
              exact ⟨readR_of Hx.out rfl (owns_none (w2.alloc (.cells #[.int .i64 r.thread_, .int .i64 r.many_] 37)) w.heap.size (w2.heap.size + 1) (by simp) (by simp; omega)), (hB2.alloc z2 _).alloc (by simp; omega) _⟩
            | true =>
              have Hw := hid hwc
              have hmm := wordC_many hwc
              have m1 := hmm.1
              have m2 := hmm.2
              clear hmm hwc
              by_cases full : (O.length : Int) = 60
              · have full2 : ((O.length : Int) == 60) = true := by rw [full]; rfl
                have Hx := hid (HC.out.trans (read_many (T := T) (by omega) hf Hend.out Hw.out (Or.inl (by omega))))
                clear full
                go_wp2
                go_ret3
                exact ⟨readR_of Hx.out rfl (owns_none (w2.alloc (.cells #[.int .i64 r.thread_, .int .i64 r.many_] 37)) w.heap.size (w2.heap.size + 1) (by simp) (by simp; omega)), (hB2.alloc z2 _).alloc (by simp; omega) _⟩
              have full2 : ((O.length : Int) == 60) = false := beq_eq_false_iff_ne.mpr full
              by_cases over : (1500 : Int) < T + r.many_
              · have Hx := hid (HC.out.trans (read_many (T := T) (by omega) hf Hend.out Hw.out (Or.inr over)))
                clear full
                go_wp2
                go_ret3
                exact ⟨readR_of Hx.out rfl (owns_none (w2.alloc (.cells #[.int .i64 r.thread_, .int .i64 r.many_] 37)) w.heap.size (w2.heap.size + 1) (by simp) (by simp; omega)), (hB2.alloc z2 _).alloc (by simp; omega) _⟩
              have Hx := hid (HC.out.trans (read_step (T := T) (by omega) hf Hend.out Hw.out (by omega)))
              have Hfull := hid full
              clear full
              have oA := (World.ownsRow.alloc o2 (.cells #[.int .i64 r.thread_, .int .i64 r.many_] 37)).alloc (.cells #[.int .i64 r.thread_, .int .i64 r.many_] 37)
              have eA : (w2.alloc (.cells #[.int .i64 r.thread_, .int .i64 r.many_] 37)).heap.size = w2.heap.size + 1 := by simp
              have lit := Flat.of_owns (owns_litN (w2.alloc (.cells #[.int .i64 r.thread_, .int .i64 r.many_] 37)) 37 2 1 #[.int .i64 r.thread_, .int .i64 r.many_] 0 (Nat.zero_le _) rfl (by decide))
              rw [eA] at lit
              clear eA
              clear o2
              go_wp2_with (at_builtin; refine wpList_append_flat rfl _ _ 26 rfl w.heap.size 37 i0 (.agg #[.int .i64 0, .int .i64 0]) 2 16 Tryd.underlying26 hi hz0 hz1 hz2 rfl (by decide) _ _ _ rfl oA _ 1 [.int .i64 r.thread_, .int .i64 r.many_] rfl lit (by intro c hc; simp at hc; rcases hc with rfl | rfl <;> rfl) (by unfold maxLen; omega) (by omega) (by simp; omega) ?_)
              intro v3 w3 o3 g3
              have b3 := below_of_mark oA g3 (Nat.le_refl _) (by simp; omega)
              have hB3 := Below.trans ((hB2.alloc z2 _).alloc (by simp; omega) _) b3
              clear lit oA g3 b3
              go_wp2
              go_roundw
              case rel => exact ⟨E + 1, f - 1, O ++ [r], T + r.many_, by omega, by omega, by go_num, by go_num, by have := Hfull.out; simp; omega, by omega, by omega, by rw [encR_snoc, List.length_append]; exact o3, Hx, hB3⟩
              case measure => simp [intOf]; omega
          · have Hon := hid (hS.out.trans (end_on h2 h3))
            have h4 : ((bt s E : Int) == 32) = false := by simp; omega
            have h5 : ((bt s E : Int) != 32) = true := by simp; omega
            go_wp2
            go_round
            case rel => exact ⟨E + 1, by omega, by omega, by go_num, Hon⟩
            case measure => simp [intOf]; omega
        · obtain rfl : E = s.size := by omega
          have Hend := hid (show endFrom s (s.size - A) A = s.size by rw [hS.out, Nat.sub_self]; rfl)
          have HC := hid hR.out
          clear hR hS
          try clear h4
          obtain ⟨ad, cap, rfl, hl, hm⟩ := (Flat.of_owns o).form
          go_wp2_with fail
          refine (spec_l5Run _ _ (by simp; omega)).mono ?_
          rintro e w2 ⟨⟨r, B, rfl, hwc⟩, b2⟩
          have hB2 := hB.trans (b2.mono hB.size)
          have o2 := owns_below o b2
          have z2 := hB2.size
          clear o hB
          cases B with
          | false =>
            have Hx := hid (HC.out.trans (read_word (T := T) (by omega) hf Hend.out hwc))
            clear hwc
            go_wp2
            go_ret3
            exact ⟨readR_of Hx.out rfl (owns_none (w2.alloc (.cells #[.int .i64 r.thread_, .int .i64 r.many_] 37)) w.heap.size (w2.heap.size + 1) (by simp) (by simp; omega)), (hB2.alloc z2 _).alloc (by simp; omega) _⟩
          | true =>
            have Hw := hid hwc
            have hmm := wordC_many hwc
            have m1 := hmm.1
            have m2 := hmm.2
            clear hmm hwc
            by_cases full : (O.length : Int) = 60
            · have full2 : ((O.length : Int) == 60) = true := by rw [full]; rfl
              have Hx := hid (HC.out.trans (read_many (T := T) (by omega) hf Hend.out Hw.out (Or.inl (by omega))))
              clear full
              go_wp2
              go_ret3
              exact ⟨readR_of Hx.out rfl (owns_none (w2.alloc (.cells #[.int .i64 r.thread_, .int .i64 r.many_] 37)) w.heap.size (w2.heap.size + 1) (by simp) (by simp; omega)), (hB2.alloc z2 _).alloc (by simp; omega) _⟩
            have full2 : ((O.length : Int) == 60) = false := beq_eq_false_iff_ne.mpr full
            by_cases over : (1500 : Int) < T + r.many_
            · have Hx := hid (HC.out.trans (read_many (T := T) (by omega) hf Hend.out Hw.out (Or.inr over)))
              clear full
              go_wp2
              go_ret3
              exact ⟨readR_of Hx.out rfl (owns_none (w2.alloc (.cells #[.int .i64 r.thread_, .int .i64 r.many_] 37)) w.heap.size (w2.heap.size + 1) (by simp) (by simp; omega)), (hB2.alloc z2 _).alloc (by simp; omega) _⟩
            have Hx := hid (HC.out.trans (read_step (T := T) (by omega) hf Hend.out Hw.out (by omega)))
            have Hfull := hid full
            clear full
            have oA := (World.ownsRow.alloc o2 (.cells #[.int .i64 r.thread_, .int .i64 r.many_] 37)).alloc (.cells #[.int .i64 r.thread_, .int .i64 r.many_] 37)
            have eA : (w2.alloc (.cells #[.int .i64 r.thread_, .int .i64 r.many_] 37)).heap.size = w2.heap.size + 1 := by simp
            have lit := Flat.of_owns (owns_litN (w2.alloc (.cells #[.int .i64 r.thread_, .int .i64 r.many_] 37)) 37 2 1 #[.int .i64 r.thread_, .int .i64 r.many_] 0 (Nat.zero_le _) rfl (by decide))
            rw [eA] at lit
            clear eA
            clear o2
            go_wp2_with (at_builtin; refine wpList_append_flat rfl _ _ 26 rfl w.heap.size 37 i0 (.agg #[.int .i64 0, .int .i64 0]) 2 16 Tryd.underlying26 hi hz0 hz1 hz2 rfl (by decide) _ _ _ rfl oA _ 1 [.int .i64 r.thread_, .int .i64 r.many_] rfl lit (by intro c hc; simp at hc; rcases hc with rfl | rfl <;> rfl) (by unfold maxLen; omega) (by omega) (by simp; omega) ?_)
            intro v3 w3 o3 g3
            have b3 := below_of_mark oA g3 (Nat.le_refl _) (by simp; omega)
            have hB3 := Below.trans ((hB2.alloc z2 _).alloc (by simp; omega) _) b3
            clear lit oA g3 b3
            go_wp2
            go_roundw
            case rel => exact ⟨s.size + 1, f - 1, O ++ [r], T + r.many_, by omega, by omega, by go_num, by go_num, by have := Hfull.out; simp; omega, by omega, by omega, by rw [encR_snoc, List.length_append]; exact o3, Hx, hB3⟩
            case measure => simp [intOf]; omega
    · have Hd := hid (hR.out.trans (read_done s f A O T (by omega)))
      go_wp2
      go_ret3
      exact ⟨readR_of Hd.out rfl o, hB⟩
end Go.Proofs.YtjcoakgdhiiiaaaDoor
