/- Chapter 6's model: an entry that is so, OpenOk, Opened, a list's copy. -/
import Derived.Test.YtbbdchlabdilcaaGreatM2
import Derived.Test.YtbbdchlabdilcaaGreatProg
import Derived.Test.YtbbdchlabdilcaaGreatF6
import Derived.Test.YtbbdchlabdilcaaGreatBx
import Derived.Test.YtbbdchlabdilcaaGreatM4
import Derived.Test.YtbbdchlabdilcaaGreatBase2
import Derived.Deep.QuietTactic
import Derived.BigQuiet
/- The contracts of the model's small functions. -/
namespace Go.Proofs.YtbbdchlabdilcaaGreat
set_option maxRecDepth 100000
open Go.RowKit Go.Proofs Go.Own

theorem spec_l1In (x a b : Int) (w : World) :
    Calls Tryz.prog 128 #[.int .i64 x, .int .i64 a, .int .i64 b] w fun e w' => e = .returned (.bool (inB x a b)) ∧ w = w' := by
  go_enter Tryz.func128, Tryz.ntmps128
  go_wp2
  all_goals go_ret
  all_goals (simp [inB, *]; try omega)

theorem spec_l1Value (x : Int) (w : World) :
    Calls Tryz.prog 157 #[.int .i64 x] w fun e w' => e = .returned (.bool (isVal x)) ∧ w = w' := by
  go_enter Tryz.func157, Tryz.ntmps157
  go_wp2_with (go_at_call 128; refine (spec_l1In _ _ _ _).mono ?_; rintro e w' ⟨rfl, rfl⟩)
  go_ret
  exact ⟨rfl, rfl⟩

theorem infoInt0 : (Tryz.prog.info? 3).map (fun i => (i.zero, i.size, i.bytes)) = some (some (.int .i64 0), 1, 8) := by kernel_rfl
theorem spec_l1Copy (v : Value) (xs : List Int) (w : World) (h : Ints w v xs) (hx : xs.length ≤ 1048576) :
    Calls Tryz.prog 180 #[v] w fun e w' => ∃ v', e = .returned v' ∧ w'.ownsRow w.heap.size 3 1 v' xs.length (xs.flatMap encI) ∧ Below w.heap.size w w' := by
  obtain ⟨i0, hi, hz0, hz1, hz2⟩ := info_parts infoInt0
  have hone := hid (oneCell_enc oneCell_I xs)
  obtain ⟨ad, cap, rfl, hl, hm⟩ := Flat.form h
  have hown : (w.alloc (.cells #[] 3)).ownsRow w.heap.size 3 1 (.slice (some ⟨w.heap.size, 0, none⟩) 0 0) 0 [] := World.ownsRow_made _ _ _ (Nat.le_refl _) (Nat.zero_le _) rfl
  have hB : Below w.heap.size w (w.alloc (.cells #[] 3)) := (Below.refl _ _).alloc (Nat.le_refl _) _
  have h2 := Flat.below h hB
  go_enter Tryz.func180, Tryz.ntmps180
  go_wp2_with (at_builtin; refine wpList_append_flat rfl _ _ 24 rfl w.heap.size 3 i0 (.int .i64 0) 1 8 Tryz.underlying24 hi hz0 hz1 hz2 rfl (by decide) _ _ _ rfl hown _ _ _ rfl h2 hone.out (by unfold maxLen; omega) (by omega) (by simp) ?_)
  intro v' w1 ho hg
  have hB1 := hB.trans (below_of_mark hown hg (Nat.le_refl _) (by simp))
  go_wp2
  go_ret
  exact ⟨_, rfl, ho, hB1⟩


theorem quiet_eq {P : Program} {f : FuncId} {args : Array Value} {w : World} {n : Nat} {v : Value}
    (h : Calls P f args (w.drewN n) fun e w' => e = .returned v ∧ w.drewN n = w') : Calls P f args (w.drewN n) fun e w'' => e = .returned v ∧ ∃ m, w'' = w.drewN m :=
  h.mono fun _ _ ⟨he, hm⟩ => ⟨he, n, hm.symm⟩


/-- A slice cut at k from its beginning. -/
theorem Ints.cut {w : World} {v : Value} {xs : List Int} {b off cap : Nat} (h : Ints w v xs) (hv : v = .slice (some ⟨b, off, none⟩) xs.length cap) (k : Nat) (hk : k ≤ xs.length) : Ints w (.slice (some ⟨b, off, none⟩) k cap) (xs.take k) := by
  obtain ⟨_, a, c, e, h1, h2, _, h3⟩ := h
  rw [hv] at e
  obtain ⟨rfl, rfl⟩ : a = some ⟨b, off, none⟩ ∧ c = cap := by simp at e; exact ⟨e.1.symm, e.2.symm⟩
  have hl : (xs.take k).length = k := by simp; omega
  refine ⟨flatMap_len encI 1 (fun _ => rfl) _, _, _, by rw [hl], by omega, h2, (by intro e; cases e), ?_⟩
  by_cases h0 : k = 0
  · exact .inl (by omega)
  · rcases h3 with h3 | ⟨b', off', ha, hs, hc⟩
    · omega
    · simp only [Option.some.injEq, Addr.mk.injEq, and_true] at ha
      obtain ⟨rfl, rfl⟩ := ha
      refine .inr ⟨b, off, rfl, hs, fun j hj => ?_⟩
      have hj' : j < k := by rw [flatMap_len encI 1 (fun _ => rfl)] at hj; omega
      have hjx : j < (xs.flatMap encI).length := by rw [flatMap_len encI 1 (fun _ => rfl)]; omega
      rw [hc j hjx]
      congr 1
      simp only [encI_map, List.getElem_map, List.getElem_take]

end Go.Proofs.YtbbdchlabdilcaaGreat
namespace Go.Proofs.YtbbdchlabdilcaaGreat
set_option maxRecDepth 100000
open Go.RowKit Go.Proofs Go.Own
set_option linter.unusedVariables false
set_option linter.unusedSimpArgs false
set_option maxHeartbeats 2000000 in
theorem spec_l6Entry (e : Entry) (w : World) :
    Calls Tryz.prog 216 #[.agg #[.int .i64 e.object_, .int .i64 e.version_, .int .i64 e.old_, .int .i64 e.new_, .bool e.write_]] w fun r w' => r = .returned (.bool (entryOk e)) ∧ Below w.heap.size w w' := by
  obtain ⟨a0, a1, a2, a3, a4⟩ := e
  have hE := hid (show entryOk ⟨a0, a1, a2, a3, a4⟩ = (inB a0 0 7 && inB a1 0 1000000 && isVal a2 && isVal a3 && (a4 || a3 == a2)) from rfl)
  dsimp only
  go_enter Tryz.func216, Tryz.ntmps216
  go_wp2_with (first | (go_at_call 128; refine (spec_l1In _ _ _ _).mono ?_; rintro e w' ⟨rfl, rfl⟩) | (go_at_call 157; refine (spec_l1Value _ _).mono ?_; rintro e w' ⟨rfl, rfl⟩))
  all_goals go_ret
  all_goals refine ⟨ret_bool (by rw [hE.out]; simp [*]), (Below.refl _ _).alloc (Nat.le_refl _) _⟩
/-- The cells of an entry behind a step. -/
theorem cells5 {w wr : World} {b o : Nat} {v0 v1 v2 v3 v4 : Value} (hB : Below w.heap.size w wr) (hb : b < w.heap.size) (c0 : w.cell? ⟨b, o, none⟩ = some v0) (c1 : w.cell? ⟨b, o + 1, none⟩ = some v1) (c2 : w.cell? ⟨b, o + 2, none⟩ = some v2) (c3 : w.cell? ⟨b, o + 3, none⟩ = some v3) (c4 : w.cell? ⟨b, o + 4, none⟩ = some v4) :
    wr.cell? ⟨b, o, none⟩ = some v0 ∧ wr.cell? ⟨b, o + 1, none⟩ = some v1 ∧ wr.cell? ⟨b, o + 2, none⟩ = some v2 ∧ wr.cell? ⟨b, o + 3, none⟩ = some v3 ∧ wr.cell? ⟨b, o + 4, none⟩ = some v4 :=
  ⟨(hB.cell (p := ⟨b, o, none⟩) hb).trans c0, (hB.cell (p := ⟨b, o + 1, none⟩) hb).trans c1, (hB.cell (p := ⟨b, o + 2, none⟩) hb).trans c2, (hB.cell (p := ⟨b, o + 3, none⟩) hb).trans c3, (hB.cell (p := ⟨b, o + 4, none⟩) hb).trans c4⟩
set_option maxHeartbeats 8000000 in
theorem spec_OpenOk (v : Value) (xs : List Entry) (w : World) (h : Entrys w v xs) :
    Calls Tryz.prog 156 #[v] w fun e w' => e = .returned (.bool (openOk xs)) ∧ Below w.heap.size w w' := by
  obtain ⟨ad, cap, rfl, hl, hm, hc⟩ := h.open
  clear h
  have hlen : xs.length ≤ 9223372036854775807 := by omega
  have HC := hid hc
  clear hc
  go_enter Tryz.func156, Tryz.ntmps156
  go_wp2
  go_loopw [3] (fun i wr => ∃ k : Nat, k ≤ xs.length ∧ i = .int .i64 k ∧ Same (openAt xs 0) (openAt xs k) ∧ Below w.heap.size w wr) (fun i _ => xs.length - (intOf i).toNat)
  case atStart => exact ⟨0, by omega, rfl, .rfl, Below.refl _ _⟩
  case round =>
    obtain ⟨k, hk, rfl, hS, hB⟩ := hrel
    by_cases hlt : k < xs.length
    · obtain ⟨bb, off, rfl, hbs, c0, c1, c2, c3, c4⟩ := HC.out k hlt
      obtain ⟨e0, e1, e2, e3, e4⟩ := cells5 hB hbs c0 c1 c2 c3 c4
      have hst := hid (openAt_step xs k hlt)
      clear c0 c1 c2 c3 c4
      cases hE : entryOk xs[k] with
      | false =>
        have Hn := hid (openOk_of_bad k hS.out (by rw [hst.out, hE]; rfl))
        go_wp2_with fail
        refine (spec_l6Entry xs[k] _).mono ?_
        rintro e w2 ⟨rfl, hB1⟩
        rw [hE]
        have hB2 := hB.trans (hB1.mono hB.size)
        go_wp2
        go_ret
        exact ⟨ret_bool Hn.out.symm, hB2⟩
      | true =>
        go_wp2_with fail
        refine (spec_l6Entry xs[k] _).mono ?_
        rintro e w2 ⟨rfl, hB1⟩
        rw [hE]
        have hB2 := hB.trans (hB1.mono hB.size)
        have f0 := (hB2.cell (p := ⟨bb, off + k * 5, none⟩) hbs).trans (HC.out k hlt |> fun ⟨_, _, q, _, c, _⟩ => by cases q; exact c)
        clear e0 e1 e2 e3 e4 hB1 hB f0
        go_wp2
        go_loopw [4] (fun i wq => ∃ m : Nat, m ≤ k ∧ i = .int .i64 m ∧ Same (placeFrom (xs.take k) xs[k].object_ m) (placeC (xs.take k) xs[k].object_) ∧ Below w.heap.size w wq) (fun i _ => k - (intOf i).toNat)
        case atStart => exact ⟨0, by omega, rfl, .rfl, hB2⟩
        case round =>
          clear hB2
          obtain ⟨m, hmk, rfl, hP, hB2⟩ := hrel
          by_cases hlt2 : m < k
          · have hml : m < xs.length := by omega
            have f0 := (hB2.cell (p := ⟨bb, off + k * 5, none⟩) hbs).trans (HC.out k hlt |> fun ⟨_, _, q, _, c, _⟩ => by cases q; exact c)
            have g0 := (hB2.cell (p := ⟨bb, off + m * 5, none⟩) hbs).trans (HC.out m hml |> fun ⟨_, _, q, _, c, _⟩ => by cases q; exact c)
            have hmt : m < (xs.take k).length := by simp; omega
            have hget : (xs.take k)[m] = xs[m] := by simp
            have hst2 := hid (placeFrom_step (xs.take k) xs[k].object_ m hmt)
            rw [hget] at hst2
            clear hget
            by_cases heq : xs[m].object_ = xs[k].object_
            · have Hn := hid (openOk_of_bad k hS.out (by
                rw [hst.out, hE, ← hP.out, hst2.out, if_pos heq, decide_eq_false (by omega)]; rfl))
              go_wp2
              go_quiet (fail)
              go_wp2
              go_ret
              exact ⟨ret_bool Hn.out.symm, below_drewN hB2 _⟩
            · go_wp2
              go_quiet (fail)
              go_wp2
              go_roundw
              case rel => exact ⟨m+1, by omega, by go_num, Same.mk (by have h9 := hst2.out; rw [if_neg heq] at h9; rw [← h9]; exact hP.out), below_drewN hB2 _⟩
              case measure => simp [intOf]; omega
          · have Hp := hid (show placeC (xs.take k) xs[k].object_ < 0 by
              rw [← hP.out, placeFrom_end _ _ _ (by simp; omega)]; omega)
            go_wp2
            go_roundw
            case rel => exact ⟨k+1, by omega, by go_num, Same.mk (by rw [hS.out, hst.out, hE, decide_eq_true Hp.out]; rfl), hB2⟩
            case measure => simp [intOf]; omega
    · have Hy := hid (show openOk xs = decide (xs.length ≤ 6) by unfold openOk; rw [hS.out, openAt_end xs k hlt, Bool.and_true])
      by_cases h6 : (xs.length : Int) ≤ 6
      · go_wp2
        go_ret
        exact ⟨ret_bool (by rw [Hy.out, decide_eq_true (by omega : xs.length ≤ 6)]), hB⟩
      · go_wp2
        go_ret
        exact ⟨ret_bool (by rw [Hy.out, decide_eq_false (by omega : ¬ xs.length ≤ 6)]), hB⟩
set_option maxHeartbeats 8000000 in
theorem spec_Opened0 (v : Value) (xs : List Entry) (o : Int) (w : World) (h : Entrys w v xs) :
    Calls Tryz.prog 239 #[v, .int .i64 o] w fun e w' => e = .returned (.int .i64 (openedC xs o)) ∧ Below w.heap.size w w' := by
  have h0 := h
  obtain ⟨ad, cap, rfl, hl, hm, hc⟩ := h.open
  clear h
  have hlen : xs.length ≤ 9223372036854775807 := by omega
  have HC := hid hc
  clear hc
  cases hO : openOk xs with
  | false =>
    have Hn := hid (show openedC xs o = -1 by unfold openedC; rw [hO]; rfl)
    go_enter Tryz.func239, Tryz.ntmps239
    go_wp2
    go_loopw [5] (fun i wr => i = .int .i64 0 ∧ Below w.heap.size w wr) (fun i _ => xs.length - (intOf i).toNat)
    case atStart => exact ⟨rfl, Below.refl _ _⟩
    case round =>
      obtain ⟨rfl, hB⟩ := hrel
      by_cases hlt : (0 : Int) < (xs.length : Int)
      · have h1 := Entrys.below h0 hB
        go_wp2_with fail
        refine (spec_OpenOk _ xs _ h1).mono ?_
        rintro e w2 ⟨rfl, hB1⟩
        rw [hO]
        have hB2 := hB.trans (hB1.mono hB.size)
        go_wp2
        go_ret
        exact ⟨ret_int Hn.out.symm, hB2⟩
      · go_wp2
        go_ret
        exact ⟨ret_int Hn.out.symm, hB⟩
  | true =>
    have Hy := hid (show openedC xs o = placeC xs o by unfold openedC; rw [hO]; rfl)
    go_enter Tryz.func239, Tryz.ntmps239
    go_wp2
    go_loopw [5] (fun i wr => ∃ k : Nat, k ≤ xs.length ∧ i = .int .i64 k ∧ Same (placeFrom xs o k) (placeC xs o) ∧ Below w.heap.size w wr) (fun i _ => xs.length - (intOf i).toNat)
    case atStart => exact ⟨0, by omega, rfl, .rfl, Below.refl _ _⟩
    case round =>
      obtain ⟨k, hk, rfl, hS, hB⟩ := hrel
      by_cases hlt : k < xs.length
      · have h1 := Entrys.below h0 hB
        have hst := hid (placeFrom_step xs o k hlt)
        go_wp2_with fail
        refine (spec_OpenOk _ xs _ h1).mono ?_
        rintro e w2 ⟨rfl, hB1⟩
        rw [hO]
        have hB2 := hB.trans (hB1.mono hB.size)
        obtain ⟨bb, off, rfl, hbs, c0, -⟩ := HC.out k hlt
        have g0 := (hB2.cell (p := ⟨bb, off + k * 5, none⟩) hbs).trans c0
        clear c0 HC h0 h1
        by_cases heq : xs[k].object_ = o
        · go_wp2
          go_ret
          exact ⟨ret_int (by rw [Hy.out, ← hS.out, hst.out, if_pos heq]), hB2⟩
        · go_wp2
          go_roundw
          case rel => exact ⟨k+1, by omega, by go_num, Same.mk (by have h9 := hst.out; rw [if_neg heq] at h9; rw [← h9]; exact hS.out), hB2⟩
          case measure => simp [intOf]; omega
      · have He := hid (placeFrom_end xs o k hlt)
        go_wp2
        go_ret
        exact ⟨ret_int (by rw [Hy.out, ← hS.out, He.out]), hB⟩
set_option maxHeartbeats 2000000 in
theorem spec_l6Copy (v : Value) (xs : List Entry) (w : World) (h : Entrys w v xs) (hx : xs.length ≤ 1048576) :
    Calls Tryz.prog 152 #[v] w fun e w' => ∃ v', e = .returned v' ∧ w'.ownsRow w.heap.size 123 5 v' xs.length (xs.flatMap Entry.enc) ∧ Below w.heap.size w w' := by
  obtain ⟨i0, hi, hz0, hz1, hz2⟩ := info_parts infoEntry
  have hone := hid (oneCell_enc (f := Entry.enc) (by intro x c hc; simp [Entry.enc] at hc; rcases hc with rfl | rfl | rfl | rfl | rfl <;> rfl) xs)
  obtain ⟨ad, cap, rfl, hl, hm⟩ := Flat.form h
  have hown : (w.alloc (.cells #[] 123)).ownsRow w.heap.size 123 5 (.slice (some ⟨w.heap.size, 0, none⟩) 0 0) 0 [] := World.ownsRow_made _ _ _ (Nat.le_refl _) (Nat.zero_le _) rfl
  have hB : Below w.heap.size w (w.alloc (.cells #[] 123)) := (Below.refl _ _).alloc (Nat.le_refl _) _
  have h2 := Flat.below h hB
  go_enter Tryz.func152, Tryz.ntmps152
  go_wp2_with (at_builtin; refine wpList_append_flat rfl _ _ 48 rfl w.heap.size 123 i0 (.agg #[.int .i64 0, .int .i64 0, .int .i64 0, .int .i64 0, .bool false]) 5 40 Tryz.underlying48 hi hz0 hz1 hz2 rfl (by decide) _ _ _ rfl hown _ _ _ rfl h2 hone.out (by unfold maxLen; omega) (by omega) (by simp) ?_)
  intro v' w1 ho hg
  have hB1 := hB.trans (below_of_mark hown hg (Nat.le_refl _) (by simp))
  go_wp2
  go_ret
  exact ⟨_, rfl, by simpa using ho, hB1⟩
end Go.Proofs.YtbbdchlabdilcaaGreat
/- Chapter 6's model: SetNew, DescOk. -/
namespace Go.Proofs.YtbbdchlabdilcaaGreat
set_option maxRecDepth 100000
open Go.RowKit Go.Proofs Go.Own
set_option linter.unusedVariables false
set_option linter.unusedSimpArgs false
theorem oneCell_E (x : Entry) : ∀ c ∈ Entry.enc x, c.oneCell' = true := by intro c hc; simp [Entry.enc] at hc; rcases hc with rfl | rfl | rfl | rfl | rfl <;> rfl
/-- Two cells of a row of the call's own: an entry's New and Write. -/
theorem owns_wr6 {w : World} {base e g c : Nat} {xs : List Entry} (h : w.ownsRow base e 5 (.slice (some ⟨g, 0, none⟩) xs.length c) xs.length (xs.flatMap Entry.enc)) (k : Nat) (hk : k < xs.length) (x : Int) :
    ((w.setCell ⟨g, k * 5 + 3, none⟩ (.int .i64 x)).setCell ⟨g, k * 5 + 4, none⟩ (.bool true)).ownsRow base e 5 (.slice (some ⟨g, 0, none⟩) xs.length c) (setAt xs k x).length ((setAt xs k x).flatMap Entry.enc) := by
  rw [setAt_len, ← setAt_cells xs k x hk]
  exact owns_put (owns_put h _ _) _ _
set_option maxHeartbeats 2000000 in
theorem spec_SetNew0 (v : Value) (xs : List Entry) (o x : Int) (w : World) (h : Entrys w v xs) (hx : xs.length ≤ 1048576) :
    Calls Tryz.prog 249 #[v, .int .i64 o, .int .i64 x] w fun e w' => ∃ v' : Value, e = .returned (.tuple #[v', .bool (setOkC xs o x)]) ∧ w'.ownsRow w.heap.size 123 5 v' (setL xs o x).length ((setL xs o x).flatMap Entry.enc) ∧ Below w.heap.size w w' := by
  have hge := openedC_ge xs o
  have hlt := openedC_lt xs o
  have H0 := hid h
  go_enter Tryz.func249, Tryz.ntmps249
  clear h
  go_wp2_with fail
  refine (spec_l6Copy v xs _ H0.out hx).mono ?_
  rintro e w2 ⟨u, rfl, o2, b2⟩
  have h2 := hid (Entrys.below H0.out b2)
  go_wp2_with fail
  refine (spec_Opened0 v xs o _ h2.out).mono ?_
  rintro e w3 ⟨rfl, b3⟩
  have o3 := owns_below o2 b3
  have b4 := b2.trans (b3.mono b2.size)
  clear H0 h2
  by_cases hk : openedC xs o < 0
  · have Hn := hid (show setOkC xs o x = false by unfold setOkC; rw [decide_eq_false (by omega)]; rfl)
    clear o2
    go_wp2
    go_ret2
    exact ⟨_, by rw [Hn.out]; rfl, by rw [setL, Hn.out, if_neg (by simp)]; exact o3, b4⟩
  · cases hv : isVal x with
    | false =>
      have Hn := hid (show setOkC xs o x = false by unfold setOkC; rw [hv, Bool.and_false])
      go_wp2_with (go_at_call 157; refine (spec_l1Value _ _).mono ?_; rintro e w' ⟨rfl, rfl⟩)
      go_ret2
      exact ⟨_, by rw [Hn.out]; rfl, by rw [setL, Hn.out, if_neg (by simp)]; exact o3, b4⟩
    | true =>
      have Hy := hid (show setOkC xs o x = true by unfold setOkC; rw [hv, decide_eq_true (by omega)]; rfl)
      have HL := hid (show setL xs o x = setAt xs (openedC xs o).toNat x by rw [setL, if_pos Hy.out])
      generalize openedC xs o = K at *
      obtain ⟨k, rfl⟩ := Int.eq_ofNat_of_zero_le (by omega : 0 ≤ K)
      have hkl : k < xs.length := by omega
      have hkl2 : (k : Int) < (xs.length : Int) := by omega
      have hk0 : (0 : Int) ≤ (k : Int) := by omega
      rw [Int.toNat_natCast] at HL
      clear o2 hge hlt
      obtain ⟨a, cap, rfl, hc1, hc2⟩ := owns_form o3
      obtain ⟨g, rfl⟩ : ∃ g, a = some ⟨g, 0, none⟩ := by
        rcases o3.2 with ⟨e1, e2⟩ | ⟨g, c2, cur, e1, _⟩
        · omega
        · simp only [Value.slice.injEq, true_and] at e1; exact ⟨g, e1.1⟩
      have g3 := o3.cellAt (k * 5 + 3) (by omega)
      have g4 := o3.cellAt (k * 5 + 4) (by omega)
      rw [flatMap_get Entry.enc 5 (fun _ => rfl) xs k hkl 3 (by omega)] at g3
      rw [flatMap_get Entry.enc 5 (fun _ => rfl) xs k hkl 4 (by omega)] at g4
      have f3 := World.ownsRow.frozenAt o3 (k * 5 + 3)
      have f4 := World.ownsRow.frozenAt o3 (k * 5 + 4)
      have hg := (owns_lt o3).1
      simp only [Entry.enc, List.getElem?_cons_succ, List.getElem?_cons_zero] at g3 g4
      have o4 := hid (owns_wr6 o3 k hkl x)
      have b5 := hid ((b4.setCell (p := ⟨g, k * 5 + 3, none⟩) hg (.int .i64 x)).setCell (p := ⟨g, k * 5 + 4, none⟩) hg (.bool true))
      go_wp2_with (go_at_call 157; refine (spec_l1Value _ _).mono ?_; rintro e w' ⟨rfl, rfl⟩)
      go_ret2
      exact ⟨_, by rw [Hy.out]; rfl, by rw [HL.out]; exact o4.out, b5.out⟩
set_option maxHeartbeats 8000000 in
theorem spec_DescOk0 (ow st : Int) (v : Value) (xs : List Entry) (w : World) (h : Entrys w v xs) :
    Calls Tryz.prog 238 #[.agg #[.int .i64 ow, .int .i64 st, v]] w fun e w' => e = .returned (.bool (descOk ow st xs)) ∧ Below w.heap.size w w' := by
  have H0 := hid h
  obtain ⟨ad, cap, rfl, hl, hm, hc⟩ := h.open
  clear h
  have hlen : xs.length ≤ 9223372036854775807 := by omega
  have HC := hid hc
  clear hc
  obtain ⟨W1, hW1⟩ : ∃ X, w.alloc (.cells #[.int .i64 ow, .int .i64 st, Value.slice ad xs.length cap] 54) = X := ⟨_, rfl⟩
  have hB1 : Below w.heap.size w W1 := by rw [← hW1]; exact (Below.refl _ _).alloc (Nat.le_refl _) _
  have hN : w.heap.size < W1.heap.size := by rw [← hW1]; simp
  have k0 : W1.cell? ⟨w.heap.size, 0, none⟩ = some (.int .i64 ow) := by rw [← hW1]; simp [go_sem]
  have k1 : W1.cell? ⟨w.heap.size, 1, none⟩ = some (.int .i64 st) := by rw [← hW1]; simp [go_sem]
  have k2 : W1.cell? ⟨w.heap.size, 2, none⟩ = some (Value.slice ad xs.length cap) := by rw [← hW1]; simp [go_sem]
  go_enter Tryz.func238, Tryz.ntmps238
  go_wp2
  clear hW1
  go_loopw [3] (fun i wr => ∃ k : Nat, (k ≤ xs.length ∨ k = 0) ∧ i = .int .i64 ((k : Int) + 1) ∧ Same (ascGo (xs.drop k)) (ascGo xs) ∧ Below W1.heap.size W1 wr) (fun i _ => xs.length + 1 - (intOf i).toNat)
  case atStart => exact ⟨0, .inr rfl, rfl, .rfl, Below.refl _ _⟩
  case round =>
    obtain ⟨k, hk, rfl, hS, hB⟩ := hrel
    have q0 := (hB.cell (p := ⟨w.heap.size, 0, none⟩) hN).trans k0
    have q1 := (hB.cell (p := ⟨w.heap.size, 1, none⟩) hN).trans k1
    have q2 := (hB.cell (p := ⟨w.heap.size, 2, none⟩) hN).trans k2
    have hB2 := hB1.trans (hB.mono hB1.size)
    clear k0 k1 k2
    by_cases hlt : k + 1 < xs.length
    · have hlt' : (k : Int) + 1 < (xs.length : Int) := by omega
      obtain ⟨bb, off, rfl, hbs, c0, -⟩ := HC.out k (by omega)
      have c1 := (HC.out (k+1) hlt |> fun ⟨_, _, q, _, c, _⟩ => by cases q; exact c : w.cell? ⟨bb, off + (k+1) * 5, none⟩ = some (.int .i64 xs[k+1].object_))
      have e0 := (hB2.cell (p := ⟨bb, off + k * 5, none⟩) hbs).trans c0
      have e1 := (hB2.cell (p := ⟨bb, off + (k+1) * 5, none⟩) hbs).trans c1
      have hst := hid (asc_step xs k hlt)
      have hix : ((k : Int) + 1).toNat = k + 1 := by omega
      have hix2 : ((k : Int) + 1 - 1).toNat = k := by omega
      clear c0 c1 HC
      by_cases heq : xs[k+1].object_ ≤ xs[k].object_
      · have Hn := hid (show descOk ow st xs = false by
          unfold descOk; rw [← hS.out, hst.out, decide_eq_false (by omega : ¬ xs[k].object_ < xs[k+1].object_)]; simp)
        go_wp2
        go_quiet (fail)
        go_wp2
        go_ret
        exact ⟨ret_bool Hn.out.symm, below_drewN hB2 _⟩
      · go_wp2
        go_quiet (fail)
        go_wp2
        go_roundw
        case rel => exact ⟨k+1, by omega, by go_num, Same.mk (by have h9 := hS.out; rw [hst.out, decide_eq_true (by omega : xs[k].object_ < xs[k+1].object_), Bool.true_and] at h9; exact h9), below_drewN hB _⟩
        case measure => simp [intOf]; omega
    · have Hy := hid (show descOk ow st xs = (inB ow 0 3 && inB st 0 2 && decide (0 < xs.length) && openOk xs) by
        unfold descOk; rw [← hS.out, asc_end xs k hlt, Bool.and_true])
      have h2 := hid (Entrys.below H0.out hB2)
      have hlt' : ¬ (k : Int) + 1 < (xs.length : Int) := by omega
      clear HC H0 hB hB1 hS
      cases hA : inB ow 0 3 with
      | false =>
        go_wp2_with (go_at_call 128; refine (spec_l1In _ _ _ _).mono ?_; rintro e w' ⟨rfl, rfl⟩)
        go_ret
        exact ⟨ret_bool (by rw [Hy.out, hA]; rfl), hB2⟩
      | true =>
      cases hA2 : inB st 0 2 with
      | false =>
        go_wp2_with (go_at_call 128; refine (spec_l1In _ _ _ _).mono ?_; rintro e w' ⟨rfl, rfl⟩)
        go_ret
        exact ⟨ret_bool (by rw [Hy.out, hA, hA2]; rfl), hB2⟩
      | true =>
      by_cases h0 : (0 : Int) < (xs.length : Int)
      · go_wp2_with (go_at_call 128; refine (spec_l1In _ _ _ _).mono ?_; rintro e w' ⟨rfl, rfl⟩)
        refine (spec_OpenOk _ xs _ h2.out).mono ?_
        rintro e w3 ⟨rfl, b3⟩
        have hB3 := hB2.trans (b3.mono hB2.size)
        go_wp2
        go_ret
        exact ⟨ret_bool (by rw [Hy.out, hA, hA2, decide_eq_true (by omega : 0 < xs.length)]; rfl), hB3⟩
      · go_wp2_with (go_at_call 128; refine (spec_l1In _ _ _ _).mono ?_; rintro e w' ⟨rfl, rfl⟩)
        go_ret
        exact ⟨ret_bool (by rw [Hy.out, decide_eq_false (by omega : ¬ 0 < xs.length)]; simp), hB2⟩
end Go.Proofs.YtbbdchlabdilcaaGreat
/- Worlds that grow out of a world: facts said once of all of them; a region that draws its order, walked once, in a class of such worlds. -/
namespace Go.Own
open Go.RowKit
/-- A world that has grown out of W: what W has is there as it was. -/
structure Ext (W : World) where
  w : World
  h : Below W.heap.size W w
theorem Ext.size {W : World} (e : Ext W) : W.heap.size ≤ e.w.heap.size := e.h.size
/-- This very world. -/
def Ext.here (W : World) : Ext W := ⟨W, Below.refl _ _⟩
instance (W : World) : Nonempty (Ext W) := ⟨Ext.here W⟩
/-- A world that grows on from a grown one. -/
def Ext.on {W : World} (e : Ext W) {w' : World} (h : Below e.w.heap.size e.w w') : Ext W := ⟨w', e.h.trans (h.mono e.size)⟩
theorem Ext.ex {W : World} (e : Ext W) {w' : World} (h : Below e.w.heap.size e.w w') : ∃ E : Ext W, w' = E.w := ⟨e.on h, rfl⟩
theorem Ext.of {W w' : World} (h : Below W.heap.size W w') : ∃ E : Ext W, w' = E.w := ⟨⟨w', h⟩, rfl⟩
/-- A world grown out of a grown one has grown out of the first. -/
def Ext.back {W V : World} (h : Below W.heap.size W V) (e : Ext V) : Ext W := ⟨e.w, h.trans (e.h.mono h.size)⟩
theorem Ext.back_w {W V : World} (h : Below W.heap.size W V) (e : Ext V) : (e.back h).w = e.w := rfl
theorem Ext.cell {W : World} {b o : Nat} {v : Value} (hb : b < W.heap.size) (h : W.cell? ⟨b, o, none⟩ = some v) : ∀ e : Ext W, e.w.cell? ⟨b, o, none⟩ = some v := fun e => (e.h.cell (p := ⟨b, o, none⟩) hb).trans h
theorem Ext.froz {W : World} {b o : Nat} {v : Bool} (hb : b < W.heap.size) (h : W.frozen? ⟨b, o, none⟩ = v) : ∀ e : Ext W, e.w.frozen? ⟨b, o, none⟩ = v := fun e => (e.h.frozen (p := ⟨b, o, none⟩) hb).trans h
theorem Ext.flat {W : World} {v : Value} {n sz : Nat} {cs : List Value} (h : Flat W v n sz cs) : ∀ e : Ext W, Flat e.w v n sz cs := fun e => Flat.below h e.h
theorem Ext.now {W : World} {p : Addr} {v : Option Value} (h : ∀ e : Ext W, e.w.cell? p = v) : W.cell? p = v := h (Ext.here W)
theorem Ext.lt {W : World} {b : Nat} (h : b < W.heap.size) : ∀ e : Ext W, b < e.w.heap.size := fun e => Nat.lt_of_lt_of_le h e.size
theorem Ext.ne {W : World} {b : Nat} (h : b < W.heap.size) : ∀ e : Ext W, (b == e.w.heap.size) = false := fun e => by have := e.size; simp; omega
/-- A region that draws its order: one walk of the text's order, in all worlds grown out of W. -/
theorem wp_region_ext {P : Program} {id : Nat} {Q : Exit → Act → World → Prop} {a : Act} {w : World} {l : List Oper} (W : World) (hW : Below W.heap.size W w) (hm : P.follows .mixedOrders = true) (hB : Region.lexB .any l.toArray = true)
    (h : wpQuiet P l.toArray (fun w' => ∃ e : Ext W, w' = e.w) (fun a' => ∀ w', (∃ e : Ext W, w' = e.w) → Q .normal a' w') l a) : (Code.region id l.toArray true).wp P Q a w :=
  wp_region_quiet (C := fun w' => ∃ e : Ext W, w' = e.w) hm hB ⟨⟨_, hW.drew⟩, rfl⟩ (by simpa using h)
theorem call_ext {P : Program} {f : FuncId} {args : Array Value} {W : World} (E : Ext W) {v : Value} (h : Calls P f args E.w fun e w' => e = .returned v ∧ Below E.w.heap.size E.w w') : Calls P f args E.w fun e w'' => e = .returned v ∧ ∃ e2 : Ext W, w'' = e2.w :=
  h.mono fun _ _ ⟨he, hb⟩ => ⟨he, E.ex hb⟩
theorem call_ext_same {P : Program} {f : FuncId} {args : Array Value} {W : World} (E : Ext W) {v : Value} (h : Calls P f args E.w fun e w' => e = .returned v ∧ E.w = w') : Calls P f args E.w fun e w'' => e = .returned v ∧ ∃ e2 : Ext W, w'' = e2.w :=
  h.mono fun _ _ ⟨he, hb⟩ => ⟨he, E, hb.symm⟩
/-- A box that is made anew. -/
theorem Ext.alloc {W : World} (e : Ext W) (o : Obj) : Below W.heap.size W (e.w.alloc o) := e.h.alloc (by have := e.size; omega) _
end Go.Own
/- Chapter 6's model: Meets. -/
namespace Go.Proofs.YtbbdchlabdilcaaGreat
set_option maxRecDepth 100000
open Go.RowKit Go.Proofs Go.Own
open Go Go.BigFrame
set_option linter.unusedVariables false
set_option linter.unusedSimpArgs false
theorem spec_OpenedIs (v : Value) (xs : List Entry) (o : Int) (r : Int) (w : World) (h : Entrys w v xs) (e : openedC xs o = r) :
    Calls Tryz.prog 239 #[v, .int .i64 o] w fun e w' => e = .returned (.int .i64 r) ∧ Below w.heap.size w w' := by
  subst e; exact spec_Opened0 v xs o w h
end Go.Proofs.YtbbdchlabdilcaaGreat
