/- Floats of this program: the conversions at its types; when two floats are the same. -/
import Derived.Test.YtjcnoogloncbbaaProg
import Derived.Test.YtjcnoogloncbbaaBase2
import Derived.Test.YtjcnoogloncbbaaFl2
import Derived.Test.YtjcnoogloncbbaaFw
namespace Go.Proofs.Ytjcnoogloncbbaa
set_option maxRecDepth 100000
open Go.RowKit Go.Proofs Go.Own
set_option linter.unusedVariables false
set_option linter.unusedSimpArgs false
@[go_sem] theorem conv_6432 (b : Nat) (w : World) : (convert 22 25 (.float .f64 b)).run Try.prog w = .ok (.float .f32 (fc .f64 .f32 b w)) (w.drewN (fm .f64 .f32 b)) := run_convert_ff _ _ _ _ _ _ (by kernel_rfl) (by kernel_rfl)
@[go_sem] theorem conv_3264 (b : Nat) (w : World) : (convert 25 22 (.float .f32 b)).run Try.prog w = .ok (.float .f64 (fc .f32 .f64 b w)) (w.drewN (fm .f32 .f64 b)) := run_convert_ff _ _ _ _ _ _ (by kernel_rfl) (by kernel_rfl)
@[go_sem] theorem conv_c12864 (a b : Nat) (w : World) : (convert 68 67 (.complex .f64 a b)).run Try.prog w = .ok (.complex .f32 (fc .f64 .f32 a w) (fc .f64 .f32 b (w.drewN (fm .f64 .f32 a)))) (w.drewN (fm .f64 .f32 a + fm .f64 .f32 b)) := run_convert_cc _ _ _ _ _ _ _ (by kernel_rfl) (by kernel_rfl)
@[go_sem] theorem conv_c64128 (a b : Nat) (w : World) : (convert 67 68 (.complex .f32 a b)).run Try.prog w = .ok (.complex .f64 (fc .f32 .f64 a w) (fc .f32 .f64 b (w.drewN (fm .f32 .f64 a)))) (w.drewN (fm .f32 .f64 a + fm .f32 .f64 b)) := run_convert_cc _ _ _ _ _ _ _ (by kernel_rfl) (by kernel_rfl)
@[go_sem] theorem conv_i64f (n : Int) (w : World) : (convert 3 22 (.int .i64 n)).run Try.prog w = .ok (.float .f64 (floatOfInt .f64 n)) w := run_convert_if _ _ _ _ _ _ (by kernel_rfl) (by kernel_rfl)
/-- A part of an object, whatever its NaN. -/
abbrev R := Option Nat
abbrev rd : Nat → R := rdF .f64
theorem sameFloat_c (x y : Nat) (h : rd x = rd y) (w : World) :
    Calls Try.prog 42 #[.float .f64 x, .float .f64 y] w fun e w' => e = .returned (.bool true) ∧ Below w.heap.size w w' := by
  rcases rdF_same h with ⟨hx, hy⟩ | ⟨rfl, hx⟩
  · have ox : ∀ z, FloatKind.f64.format.order x z = none := fun z => order_nan (.inl hx)
    have oy : ∀ z, FloatKind.f64.format.order y z = none := fun z => order_nan (.inl hy)
    go_enter Try.func42, Try.ntmps42
    go_wp2
    go_ret
    exact ⟨ret_bool (by decide), Below.refl _ _⟩
  · have ox : FloatKind.f64.format.order x x = some .eq := order_self hx
    have oq : ∀ c z w, FloatKind.f64.format.order (fr .quo .f64 c x w) z = ford .f64 (fop .quo .f64 (rdF .f64 c) (rdF .f64 x)) (rdF .f64 z) := fun c z w => by rw [← rdF_fr, ford_rd]
    by_cases hz : FloatKind.f64.format.order x 0 = some .eq
    · go_enter Try.func42, Try.ntmps42
      go_wp2
      go_ret
      exact ⟨ret_bool (by simp [oq]), below_drewN (Below.refl _ _) _⟩
    · have hz2 : (FloatKind.f64.format.order x 0 == some .eq) = false := by simpa using hz
      go_enter Try.func42, Try.ntmps42
      go_wp2
      go_ret
      exact ⟨ret_bool (by simp), Below.refl _ _⟩
/-- A float32, widened. -/
def wide (b : Nat) : Nat := match FloatKind.f32.decode b with
  | .number g m e => FloatKind.f64.encode (.number g m e)
  | .infinity g => FloatKind.f64.encode (.infinity g)
  | .nan _ _ => 0
theorem dec64 (x : Nat) : FloatKind.f64.decode x = Ieee.double.read x := rfl
theorem dec32 (x : Nat) : FloatKind.f32.decode x = Ieee.single.read x := rfl
theorem enc64 (d : Ieee.Datum) : FloatKind.f64.encode d = Ieee.double.write d := rfl
theorem nan64 (x : Nat) : nanB .f64 x = (Ieee.double.read x).isNaN := rfl
theorem nan32 (x : Nat) : nanB .f32 x = (Ieee.single.read x).isNaN := rfl
theorem conv_nan (b t : Nat) : nanB .f64 ((Question.nanConv .f64 b).cut t) = true := by
  have h := nan_cut .f64 0 0 t
  simp only [Question.cut] at h ⊢
  exact h
theorem wide_is {b : Nat} (hn : nanB .f32 b = false) (w : World) : fc .f32 .f64 b w = wide b := by
  unfold fc wide
  rw [if_neg (by decide)]
  rw [nan32] at hn
  rw [dec32]
  cases hd : Ieee.single.read b with
  | nan a c => rw [hd] at hn; cases hn
  | infinity g => rfl
  | number g m e =>
    obtain ⟨h1, h2, h3⟩ := single_read hd
    have h4 := widen_fits (s := g) h1 h2 h3
    simp only [dec64, enc64, h4, Bool.false_eq_true, if_false]
theorem wide_num {b : Nat} (hn : nanB .f32 b = false) : nanB .f64 (wide b) = false := by
  unfold wide
  rw [nan32] at hn
  rw [dec32]
  cases hd : Ieee.single.read b with
  | nan a c => rw [hd] at hn; cases hn
  | infinity g => simp only [enc64, nan64]; exact read_write Ieee.double (by simp only [Ieee.Datum.isNaN])
  | number g m e => simp only [enc64, nan64]; exact read_write Ieee.double (by simp only [Ieee.Datum.isNaN])
theorem wide_nan {b : Nat} (hn : nanB .f32 b = true) (w : World) : nanB .f64 (fc .f32 .f64 b w) = true := by
  unfold fc
  rw [if_neg (by decide)]
  rw [nan32] at hn
  rw [dec32]
  cases hd : Ieee.single.read b with
  | nan a c => simp only []; exact conv_nan _ _
  | infinity g => rw [hd] at hn; cases hn
  | number g m e => rw [hd] at hn; cases hn
theorem fc_wide (b : Nat) (w : World) : rd (fc .f32 .f64 b w) = (rdF .f32 b).map wide := by
  cases hn : nanB .f32 b
  · rw [rdF_some hn, wide_is hn]; exact rdF_some (wide_num hn)
  · rw [rdF_none hn]; exact rdF_none (wide_nan hn w)
theorem rd_widen {a b : Nat} (h : rdF .f32 a = rdF .f32 b) (w w' : World) : rd (fc .f32 .f64 a w) = rd (fc .f32 .f64 b w') := by rw [fc_wide, fc_wide, h]
end Go.Proofs.Ytjcnoogloncbbaa
