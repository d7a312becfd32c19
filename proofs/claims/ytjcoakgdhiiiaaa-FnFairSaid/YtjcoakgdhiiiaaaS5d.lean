/- Chapter 5's model: Fair. -/
import Derived.Test.YtjcoakgdhiiiaaaS5
import Derived.Test.YtjcoakgdhiiiaaaBx
namespace Go.Proofs.Ytjcoakgdhiiiaaa
set_option maxRecDepth 100000
open Go.RowKit Go.Proofs Go.Own
set_option linter.unusedVariables false
set_option linter.unusedSimpArgs false
/-- The last place below i of a step of t's; -1 where there is none. -/
def lastIn (xs : List Int) (t : Int) : Nat → Int
  | 0 => -1
  | i+1 => if xs[i]? = some t then (i : Int) else lastIn xs t i
def badAt (xs : List Int) (th : Nat) (win : Int) (i : Nat) (t : Nat) : Bool := decide (win ≤ (i : Int) - lastIn xs (t : Int) (i+1))
/-- Whether at time i some thread from t on has had no step for so long. -/
def badFrom (xs : List Int) (th : Nat) (win : Int) (i : Nat) : Nat → Nat → Bool
  | 0, _ => false
  | n+1, t => if badAt xs th win i t = true then true else badFrom xs th win i n (t+1)
def fairFrom (xs : List Int) (th : Nat) (win : Int) : Nat → Nat → Int
  | 0, _ => -1
  | n+1, i => if badFrom xs th win i th 0 = true then (i : Int) - win + 1 else fairFrom xs th win n (i+1)
def fairOk (xs : List Int) (th win : Int) : Bool := decide (xs.length ≤ 1500) && (allIn xs 0 3 0 && (inB th 1 4 && inB win 1 1500))
def fairC (xs : List Int) (th win : Int) : Int := if fairOk xs th win = true then fairFrom xs th.toNat win xs.length 0 else -2
def lastRow (xs : List Int) (th i : Nat) : List Int := (List.range th).map fun (t : Nat) => lastIn xs (t : Int) i
theorem lastRow_len (xs : List Int) (th i : Nat) : (lastRow xs th i).length = th := by simp [lastRow]
theorem lastRow_get (xs : List Int) (th i t : Nat) (h : t < th) : (lastRow xs th i)[t]'(by rw [lastRow_len]; exact h) = lastIn xs (t : Int) i := by simp [lastRow]
theorem lastIn_bound (xs : List Int) (t : Int) : ∀ i, -1 ≤ lastIn xs t i ∧ lastIn xs t i < i
  | 0 => by simp [lastIn]
  | i+1 => by have := lastIn_bound xs t i; unfold lastIn; split <;> omega
theorem lastRow_set (xs : List Int) (th i a : Nat) (h : i < xs.length) (hx : xs[i] = (a : Int)) : (lastRow xs th i).set a (i : Int) = lastRow xs th (i+1) := by
  apply List.ext_getElem (by simp [lastRow_len])
  intro t h1 h2
  have ht : t < th := by simpa [lastRow_len] using h2
  rw [lastRow_get _ _ _ _ ht]
  unfold lastIn
  rw [List.getElem?_eq_getElem h, hx]
  by_cases he : a = t
  · subst he; simp
  · rw [List.getElem_set_ne he, lastRow_get _ _ _ _ ht, if_neg (by intro e; exact he (by have := Option.some.inj e; omega))]
theorem lastRow_same (xs : List Int) (th i : Nat) (h : i < xs.length) (hx : (th : Int) ≤ xs[i]) : lastRow xs th (i+1) = lastRow xs th i := by
  apply List.ext_getElem (by simp [lastRow_len])
  intro t h1 h2
  have ht : t < th := by simpa [lastRow_len] using h2
  rw [lastRow_get _ _ _ _ ht, lastRow_get _ _ _ _ ht]
  conv => lhs; unfold lastIn
  rw [List.getElem?_eq_getElem h, if_neg (by intro e; have := Option.some.inj e; omega)]
theorem encI_set : ∀ (l : List Int) (a : Nat) (x : Int), (l.flatMap encI).set a (.int .i64 x) = (l.set a x).flatMap encI
  | [], a, x => by simp
  | y :: l, 0, x => by simp [encI]
  | y :: l, a+1, x => by
    have ih := encI_set l a x
    simp only [List.flatMap_cons, List.set_cons_succ, ← ih]
    simp [encI]
theorem encI_get (l : List Int) (a : Nat) (h : a < l.length) : (l.flatMap encI)[a]? = some (.int .i64 l[a]) := by
  have h1 := flatMap_get encI 1 (fun _ => rfl) l a h 0 (by omega)
  rw [Nat.mul_one, Nat.add_zero] at h1
  rw [h1]; rfl
theorem infoInt5d : (Try.prog.info? 3).map (fun i => (i.zero, i.size, i.bytes)) = some (some (.int .i64 0), 1, 8) := by kernel_rfl
set_option maxHeartbeats 8000000 in
theorem spec_Fair (v : Value) (xs : List Int) (th win : Int) (w : World) (h : Ints w v xs) (hx : xs.length ≤ 1048576) :
    Calls Try.prog 12 #[v, .int .i64 th, .int .i64 win] w fun e w' => e = .returned (.tuple #[.int .i64 (fairC xs th win), .bool (fairOk xs th win)]) ∧ Below w.heap.size w w' := by
  have h0 := h
  obtain ⟨i0, hi, hz0, hz1, hz2⟩ := info_parts infoInt5d
  obtain ⟨ad, cap, rfl, hl, hm, hc⟩ := h.open
  clear h
  have hlen : xs.length ≤ 9223372036854775807 := by omega
  have HC := hid hc
  clear hc
  by_cases a1 : ¬ ((xs.length : Int) ≤ 1500)
  · have hno := hid (show fairOk xs th win = false by unfold fairOk; rw [decide_eq_false (by omega : ¬ xs.length ≤ 1500)]; rfl)
    go_enter Try.func12, Try.ntmps12
    go_wp2_with (first | (go_at_call 37; refine (spec_l1In _ _ _ _).mono ?_; rintro e w' ⟨rfl, rfl⟩) | (go_at_call 36; refine (spec_l1All _ xs _ _ _ h0).mono ?_; rintro e w' ⟨rfl, rfl⟩))
    go_ret2
    exact ⟨by rw [fairC, hno.out]; rfl, Below.refl _ _⟩
  have a1' := Decidable.not_not.1 a1
  have e1 : decide (xs.length ≤ 1500) = true := decide_eq_true (by omega)
  cases a2 : allIn xs 0 3 0 with
  | false =>
    have hno := hid (show fairOk xs th win = false by unfold fairOk; rw [e1, a2]; rfl)
    go_enter Try.func12, Try.ntmps12
    go_wp2_with (first | (go_at_call 37; refine (spec_l1In _ _ _ _).mono ?_; rintro e w' ⟨rfl, rfl⟩) | (go_at_call 36; refine (spec_l1All _ xs _ _ _ h0).mono ?_; rintro e w' ⟨rfl, rfl⟩))
    go_ret2
    exact ⟨by rw [fairC, hno.out]; rfl, Below.refl _ _⟩
  | true =>
  cases a3 : inB th 1 4 with
  | false =>
    have hno := hid (show fairOk xs th win = false by unfold fairOk; rw [e1, a2, a3]; rfl)
    go_enter Try.func12, Try.ntmps12
    go_wp2_with (first | (go_at_call 37; refine (spec_l1In _ _ _ _).mono ?_; rintro e w' ⟨rfl, rfl⟩) | (go_at_call 36; refine (spec_l1All _ xs _ _ _ h0).mono ?_; rintro e w' ⟨rfl, rfl⟩))
    go_ret2
    exact ⟨by rw [fairC, hno.out]; rfl, Below.refl _ _⟩
  | true =>
  cases a4 : inB win 1 1500 with
  | false =>
    have hno := hid (show fairOk xs th win = false by unfold fairOk; rw [e1, a2, a3, a4]; rfl)
    go_enter Try.func12, Try.ntmps12
    go_wp2_with (first | (go_at_call 37; refine (spec_l1In _ _ _ _).mono ?_; rintro e w' ⟨rfl, rfl⟩) | (go_at_call 36; refine (spec_l1All _ xs _ _ _ h0).mono ?_; rintro e w' ⟨rfl, rfl⟩))
    go_ret2
    exact ⟨by rw [fairC, hno.out]; rfl, Below.refl _ _⟩
  | true =>
  have hok := hid (show fairOk xs th win = true by unfold fairOk; rw [e1, a2, a3, a4]; rfl)
  have hth : 1 ≤ th ∧ th ≤ 4 := by simpa [inB] using a3
  have hwin : 1 ≤ win ∧ win ≤ 1500 := by simpa [inB] using a4
  obtain ⟨T, rfl⟩ := Int.eq_ofNat_of_zero_le (by omega : 0 ≤ th)
  have hfc := hid (show fairC xs T win = fairFrom xs T win xs.length 0 by rw [fairC, hok.out]; rfl)
  have T1 : 1 ≤ T := by omega
  have T4 : T ≤ 4 := by omega
  have w1 := hwin.1
  have w2 := hwin.2
  have hall := hid (show ∀ k, (hk : k < xs.length) → 0 ≤ xs[k] ∧ xs[k] ≤ 3 from fun k hk => by
    have h9 := a2
    simp only [allIn, List.drop_zero, List.all_eq_true] at h9
    have h8 := h9 xs[k] (List.getElem_mem hk)
    simpa [inB] using h8)
  have hL : ((lastRow xs T 0).flatMap encI).length = T * 1 := by rw [flatMap_len encI 1 (fun _ => rfl), lastRow_len]
  have HL := hid hL
  have hl0 := hid (show ∀ k, k < T → ((lastRow xs T 0).flatMap encI)[k]? = some (.int .i64 (-1)) from fun k hk => by
    rw [encI_get _ k (by rw [lastRow_len]; exact hk), lastRow_get _ _ _ _ hk]; rfl)
  clear hL hth hwin
  go_enter Try.func12, Try.ntmps12
  go_wp2_with (first | (first | (go_at_call 37; refine (spec_l1In _ _ _ _).mono ?_; rintro e w' ⟨rfl, rfl⟩) | (go_at_call 36; refine (spec_l1All _ xs _ _ _ h0).mono ?_; rintro e w' ⟨rfl, rfl⟩)) | (at_make; refine wpList_make_full _ rfl _ _ 24 rfl (w.heap.size) 3 i0 (.int .i64 0) 1 Try.underlying24 hi hz0 hz1 _ _ _ _ T rfl rfl rfl rfl (by rw [hz2]; omega) (by unfold maxLen; omega) (Nat.le_refl _) ?_))
  intro w1 hown hgrow
  have hB := (Below.refl w.heap.size w).grown hgrow (Nat.le_refl _) (by simp)
  have hF := Fills.start (l := (lastRow xs T 0).flatMap encI) hown HL.out
  clear hown hgrow
  go_wp2
  go_loopw [9] (fun i wr => ∃ k : Nat, k ≤ T ∧ i = .int .i64 k ∧ Fills wr w.heap.size 3 1 (.slice (some ⟨w.heap.size, 0, none⟩) T T) T ((lastRow xs T 0).flatMap encI) k ∧ Below w.heap.size w wr) (fun i _ => T - (intOf i).toNat)
  case atStart => exact ⟨0, by omega, rfl, hF, hB⟩
  case round =>
    clear hF hB
    obtain ⟨k, hk, rfl, hF, hB⟩ := hrel
    by_cases hlt : k < T
    · obtain ⟨g, hg, hbg, hgs, hcells⟩ := hF.at HL.out (by rw [HL.out]; omega)
      obtain rfl := (Addr.mk.inj (Option.some.inj hg)).1
      obtain ⟨⟨u0, hu0⟩, hf0⟩ := hcells k (by rw [HL.out]; omega)
      have hF2 := (hF.store _ (hl0.out k hlt)).1
      have hB2 := hB.setCell (p := ⟨w.heap.size, k, none⟩) (Nat.le_refl _) (.int .i64 (-1))
      clear hcells hF hg hl0
      go_wp2
      go_roundw
      case rel => exact ⟨k+1, by omega, by go_num, hF2, hB2⟩
      case measure => simp [intOf]; omega
    · have o1 := hF.done (by rw [HL.out]; omega)
      clear hF HL hl0
      go_wp2
      go_loopw [10] (fun i wr => ∃ k : Nat, k ≤ xs.length ∧ i = .int .i64 k ∧ wr.ownsRow w.heap.size 3 1 (.slice (some ⟨w.heap.size, 0, none⟩) T T) T ((lastRow xs T k).flatMap encI) ∧ Same (fairFrom xs T win (xs.length - k) k) (fairFrom xs T win xs.length 0) ∧ Below w.heap.size w wr) (fun i _ => xs.length - (intOf i).toNat)
      case atStart => exact ⟨0, by omega, rfl, o1, .rfl, hB⟩
      case round =>
        clear o1 hB
        obtain ⟨k, hk, rfl, o, hS, hB⟩ := hrel
        by_cases hlt : k < xs.length
        · obtain ⟨bb, off, rfl, hbs, c0⟩ := HC.out k hlt
          have hx0 := hall.out k hlt
          have e0 := (hB.cell (p := ⟨bb, off + k, none⟩) hbs).trans c0
          obtain ⟨A, hA⟩ := Int.eq_ofNat_of_zero_le hx0.1
          rw [hA] at e0
          have hgl := (owns_lt o).2
          have Hst := hid (show (if badFrom xs T win k T 0 = true then (k : Int) - win + 1 else fairFrom xs T win (xs.length - (k+1)) (k+1)) = fairFrom xs T win xs.length 0 by
            have h9 := hS.out
            rw [show xs.length - k = (xs.length - (k+1)) + 1 by omega] at h9
            exact h9)
          have inner : ∀ (W : World), W.ownsRow w.heap.size 3 1 (.slice (some ⟨w.heap.size, 0, none⟩) T T) T ((lastRow xs T (k+1)).flatMap encI) → ∀ t, t < T → W.cell? ⟨w.heap.size, t, none⟩ = some (.int .i64 (lastIn xs (t : Int) (k+1))) := fun W oW t ht => by
            rw [oW.cellAt t (by omega), encI_get _ t (by rw [lastRow_len]; exact ht), lastRow_get _ _ _ _ ht]
          clear c0 HC
          by_cases hAT : (A : Int) < (T : Int)
          · have hA0 : (0 : Int) ≤ (A : Int) := by omega
            have p0 := o.cellAt A (by omega)
            rw [encI_get _ A (by rw [lastRow_len]; omega)] at p0
            have f0 := World.ownsRow.frozenAt o A
            have o2 := owns_put o A (.int .i64 (k : Int))
            rw [encI_set, lastRow_set xs T k A hlt hA] at o2
            have hB2 := hB.setCell (p := ⟨w.heap.size, A, none⟩) (Nat.le_refl _) (.int .i64 (k : Int))
            obtain ⟨W9, hW9⟩ : ∃ X, wr.setCell ⟨w.heap.size, A, none⟩ (.int .i64 (k : Int)) = X := ⟨_, rfl⟩
            rw [hW9] at o2 hB2
            go_wp2
            clear hW9 p0 f0 e0 o hB
            go_loopw [11] (fun i wr => ∃ t : Nat, t ≤ T ∧ i = .int .i64 t ∧ Same (badFrom xs T win k (T - t) t) (badFrom xs T win k T 0) ∧ W9 = wr) (fun i _ => T - (intOf i).toNat)
            case atStart => exact ⟨0, by omega, rfl, .rfl, rfl⟩
            case round =>
              obtain ⟨t, ht, rfl, hbf, rfl⟩ := hrel
              by_cases ht2 : t < T
              · have ht3 : (t : Int) < (T : Int) := by omega
                have ht0 : (0 : Int) ≤ (t : Int) := by omega
                have q0 := inner _ o2 t ht2
                have q1 := lastIn_bound xs (t : Int) (k+1)
                have q2 := q1.1
                have q3 : lastIn xs (t : Int) (k+1) ≤ k := by have := q1.2; omega
                have Hb := hid (show (if badAt xs T win k t = true then true else badFrom xs T win k (T - (t+1)) (t+1)) = badFrom xs T win k T 0 by
                  have h9 := hbf.out
                  rw [show T - t = (T - (t+1)) + 1 by omega] at h9
                  exact h9)
                clear inner q1
                by_cases hb : win ≤ (k : Int) - lastIn xs (t : Int) (k+1)
                · have hfin := hid (show fairC xs T win = (k : Int) - win + 1 by
                    have h8 : badFrom xs T win k T 0 = true := by rw [← Hb.out, if_pos (show badAt xs T win k t = true from decide_eq_true hb)]
                    rw [hfc.out, ← Hst.out, if_pos h8])
                  go_wp2
                  go_ret2
                  exact ⟨by rw [hfin.out, hok.out]; rfl, hB2⟩
                · have hn : badAt xs T win k t = false := decide_eq_false hb
                  go_wp2
                  go_roundw
                  case rel => exact ⟨t+1, by omega, by go_num, Same.mk (by have h9 := Hb.out; rw [hn] at h9; exact h9), trivial⟩
                  case measure => simp [intOf]; omega
              · have h8 := hid (show badFrom xs T win k T 0 = false by have h9 := hbf.out; rw [show T - t = 0 by omega] at h9; exact h9.symm)
                clear inner
                go_wp2
                go_roundw
                case rel => exact ⟨k+1, by omega, by go_num, o2, Same.mk (by have h9 := Hst.out; rw [h8.out] at h9; exact h9), hB2⟩
                case measure => simp [intOf]; omega
          · have o2 := o
            rw [← lastRow_same xs T k hlt (by omega)] at o2
            obtain ⟨W9, hW9⟩ : ∃ X, X = wr := ⟨_, rfl⟩
            subst hW9
            go_wp2
            clear e0 o
            go_loopw [11] (fun i wr => ∃ t : Nat, t ≤ T ∧ i = .int .i64 t ∧ Same (badFrom xs T win k (T - t) t) (badFrom xs T win k T 0) ∧ W9 = wr) (fun i _ => T - (intOf i).toNat)
            case atStart => exact ⟨0, by omega, rfl, .rfl, rfl⟩
            case round =>
              obtain ⟨t, ht, rfl, hbf, rfl⟩ := hrel
              by_cases ht2 : t < T
              · have ht3 : (t : Int) < (T : Int) := by omega
                have ht0 : (0 : Int) ≤ (t : Int) := by omega
                have q0 := inner _ o2 t ht2
                have q1 := lastIn_bound xs (t : Int) (k+1)
                have q2 := q1.1
                have q3 : lastIn xs (t : Int) (k+1) ≤ k := by have := q1.2; omega
                have Hb := hid (show (if badAt xs T win k t = true then true else badFrom xs T win k (T - (t+1)) (t+1)) = badFrom xs T win k T 0 by
                  have h9 := hbf.out
                  rw [show T - t = (T - (t+1)) + 1 by omega] at h9
                  exact h9)
                clear inner q1
                by_cases hb : win ≤ (k : Int) - lastIn xs (t : Int) (k+1)
                · have hfin := hid (show fairC xs T win = (k : Int) - win + 1 by
                    have h8 : badFrom xs T win k T 0 = true := by rw [← Hb.out, if_pos (show badAt xs T win k t = true from decide_eq_true hb)]
                    rw [hfc.out, ← Hst.out, if_pos h8])
                  go_wp2
                  go_ret2
                  exact ⟨by rw [hfin.out, hok.out]; rfl, hB⟩
                · have hn : badAt xs T win k t = false := decide_eq_false hb
                  go_wp2
                  go_roundw
                  case rel => exact ⟨t+1, by omega, by go_num, Same.mk (by have h9 := Hb.out; rw [hn] at h9; exact h9), trivial⟩
                  case measure => simp [intOf]; omega
              · have h8 := hid (show badFrom xs T win k T 0 = false by have h9 := hbf.out; rw [show T - t = 0 by omega] at h9; exact h9.symm)
                clear inner
                go_wp2
                go_roundw
                case rel => exact ⟨k+1, by omega, by go_num, o2, Same.mk (by have h9 := Hst.out; rw [h8.out] at h9; exact h9), hB⟩
                case measure => simp [intOf]; omega
        · have h9 := hid (show fairC xs T win = -1 by have h8 := hS.out; rw [show xs.length - k = 0 by omega] at h8; rw [hfc.out, ← h8]; rfl)
          go_wp2
          go_ret2
          exact ⟨by rw [h9.out, hok.out]; rfl, hB⟩
end Go.Proofs.Ytjcoakgdhiiiaaa
