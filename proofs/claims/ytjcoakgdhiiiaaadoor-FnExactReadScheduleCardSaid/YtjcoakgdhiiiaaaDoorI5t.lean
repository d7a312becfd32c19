/- Chapter 5's program: a run's text, WriteSchedule. -/
import Derived.Test.YtjcoakgdhiiiaaaDoorShelf
import Derived.Test.YtjcoakgdhiiiaaaDoorI5
import Derived.Test.YtjcoakgdhiiiaaaDoorF5r
import Derived.Lib.AppendIntMem
import Derived.Lib.Join
import Derived.Deep.RegionLaw
import Derived.Deep.RegionHeld3
namespace Go.Proofs.YtjcoakgdhiiiaaaDoor
set_option maxRecDepth 100000
open Go.RowKit Go.Proofs Go.Own
set_option linter.unusedVariables false
set_option linter.unusedSimpArgs false
/-- The table that Itoa reads. -/
abbrev Tab (w : World) : Prop := Lib.TabIs Tryd.prog w "internal/strconv.uint64pow10" .u64 Lib.pow10Tab
theorem tab_below {w w' : World} (h : Tab w) (hb : Below w.heap.size w w') : Tab w' := Lib.tabBelow_of_tabIs h w' hb
theorem itoaT (n : Nat) (x : Int) (w : World) (hx : x = (n : Int)) (hn : n < 1000) (ht : Tab w) :
    Calls Tryd.prog 26 #[.int .i64 x] w fun e w' => e = .returned (.string (digS n)) ∧ Below w.heap.size w w' := by
  subst hx
  refine (Tryd.strconv_Itoa (n : Int) (by omega) (by omega) w ht).mono ?_
  rintro e w' ⟨rfl, k, os, rfl⟩
  have h1 : Lib.itoa (n : Int) = Lib.decDigits n := by unfold Lib.itoa; rw [if_neg (by omega), Int.toNat_natCast]
  exact ⟨by rw [h1]; rfl, Lib.below_grow _ _ (Nat.le_refl _) _ _⟩
set_option maxHeartbeats 4000000 in
theorem impl_runText (T M : Nat) (hT : T ≤ 3) (hM : 1 ≤ M) (hM2 : M ≤ 500) (w : World) (ht : Tab w) :
    Calls Tryd.prog 18 #[.agg #[.int .i64 T, .int .i64 M]] w fun e w' => e = .returned (.string (runS ⟨T, M⟩)) ∧ Below w.heap.size w w' := by
  obtain ⟨W1, hW1⟩ : ∃ X, w.alloc (.cells #[Value.int .i64 T, Value.int .i64 M] 37) = X := ⟨_, rfl⟩
  have hB1 : Below w.heap.size w W1 := by rw [← hW1]; exact (Below.refl _ _).alloc (Nat.le_refl _) _
  have bx : BoxF W1 w.heap.size [Value.int .i64 T, Value.int .i64 M] := by rw [← hW1]; exact BoxF.alloc w #[Value.int .i64 T, Value.int .i64 M] 37
  have g0 := bx.1.2 0 (by simp)
  have g1 := bx.1.2 1 (by simp)
  have z1 := digS_sizeB T (by omega)
  have z2 := digS_sizeB M (by omega)
  have t1 := tab_below ht hB1
  go_enter Tryd.func18, Tryd.ntmps18
  go_wp2_with fail
  refine (itoaT T _ _ rfl (by omega) t1).mono ?_
  rintro e w2 ⟨rfl, b2⟩
  have hB2 := hB1.trans (b2.mono hB1.size)
  have bx2 := bx.below b2
  have k0 := bx2.1.2 0 (by simp)
  have k1 := bx2.1.2 1 (by simp)
  have t2 := tab_below t1 b2
  clear hW1 g0 g1 bx
  by_cases mm : (1 : Int) < (M : Int)
  · have y1 : ¬ (9223372036854775807 < 1 + (digS M).size) := by omega
    have y2 : ¬ (9223372036854775807 < (digS T).size + (1 + (digS M).size)) := by omega
    go_wp2_with fail
    refine (itoaT M _ _ rfl (by omega) t2).mono ?_
    rintro e w3 ⟨rfl, b3⟩
    have hB3 := hB2.trans (b3.mono hB2.size)
    go_wp2
    go_ret
    exact ⟨ret_str (by rw [runS, if_pos (show (1 : Int) < (⟨(T : Int), (M : Int)⟩ : Run).many_ from mm)]; rfl), hB3⟩
  · go_wp2
    go_ret
    exact ⟨ret_str (by rw [runS, if_neg (show ¬ (1 : Int) < (⟨(T : Int), (M : Int)⟩ : Run).many_ from Int.not_lt.2 mm)]; rfl), hB2⟩
theorem impl_runTextI (t m : Int) (h : inB t 0 3 = true) (h2 : inB m 1 500 = true) (w : World) (ht : Tab w) :
    Calls Tryd.prog 18 #[.agg #[.int .i64 t, .int .i64 m]] w fun e w' => e = .returned (.string (runS ⟨t, m⟩)) ∧ Below w.heap.size w w' := by
  have h3 : 0 ≤ t ∧ t ≤ 3 := by simpa [inB] using h
  have h4 : 1 ≤ m ∧ m ≤ 500 := by simpa [inB] using h2
  obtain ⟨T, rfl⟩ := Int.eq_ofNat_of_zero_le h3.1
  obtain ⟨M, rfl⟩ := Int.eq_ofNat_of_zero_le (by omega : 0 ≤ m)
  exact impl_runText T M (by omega) (by omega) (by omega) w ht
end Go.Proofs.YtjcoakgdhiiiaaaDoor
