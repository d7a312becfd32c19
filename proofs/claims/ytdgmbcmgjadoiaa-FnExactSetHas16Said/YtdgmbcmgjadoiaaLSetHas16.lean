/- FnExactSetHas16, walked. -/
import Derived.Test.YtdgmbcmgjadoiaaW16
import Derived.Test.YtdgmbcmgjadoiaaBx
import Derived.Test.YtdgmbcmgjadoiaaEnc4
import Derived.Test.YtdgmbcmgjadoiaaHop
import Derived.Test.YtdgmbcmgjadoiaaWr3
import Derived.Test.YtdgmbcmgjadoiaaKeep
import Derived.Deep.RegionHeld3
import Derived.Deep.Cut
import Derived.StillTailTactics
namespace Go.Proofs.Ytdgmbcmgjadoiaa
set_option maxRecDepth 100000
open Go.RowKit Go.Proofs Go.Own
set_option linter.unusedVariables false

set_option maxRecDepth 100000 in
set_option maxHeartbeats 8000000 in
theorem law_SetHas16 (d_aS : List RowD) (v_aS0 : Value) (s_aX : Int) (w : World) (h_aS0 : rdsL w v_aS0 d_aS) (hi_aX : InI s_aX) :
    Calls Try.prog 6 #[v_aS0, (.int .i64 s_aX)] w fun e w' => e = .returned (.bool true) ∧ Below w.heap.size w w' := by
  obtain ⟨a_aS0, c_aS0, rfl, -, -, -⟩ := rdsL_open h_aS0
  have hB0 : Below w.heap.size w w := Below.refl _ _
  have tt0 : Below w.heap.size w w := Below.refl _ _
  have zb0 : w.heap.size ≤ w.heap.size := Nat.le_refl _
  go_enter Try.func6, Try.ntmps6
  go_wp2_with fail
  have hl0_aS : 0 ≤ (1048576 : Int) := by omega
  refine (szIntSS_o d_aS (Value.slice a_aS0 d_aS.length c_aS0) _ _ (by omega) (by omega) (rdsL.below h_aS0 tt0)).mono ?_
  rintro e w1 ⟨rfl, b2⟩
  have t3 := Below.trans tt0 (Below.mono b2 zb0)
  have z4 := Below.size b2
  replace zb0 : w.heap.size ≤ w1.heap.size := by omega
  by_cases big_aS : (1048576 : Int) < (szIntSSD d_aS : Int)
  · rw [szR_of, if_pos big_aS]
    go_wp2
    go_ret
    exact ⟨rfl, hB0.trans (Below.mono t3 hB0.size)⟩
  rw [szR_of, if_neg big_aS]
  go_wp2_with fail
  have hb_aS : IntSSB d_aS := by show _ ≤ 1048576; have := big_aS; unfold szIntSSD at *; omega
  refine (toIntSS_o d_aS (Value.slice a_aS0 d_aS.length c_aS0) _ (rdsL.below h_aS0 t3) hb_aS).mono ?_
  rintro e w5 ⟨u7, S8, rfl, o9, r10, b6⟩
  have t12 := Below.trans t3 (Below.mono b6 zb0)
  have z13 := Below.size b6
  replace zb0 : w.heap.size ≤ w5.heap.size := by omega
  obtain ⟨a14, m15, c16, rfl⟩ := ownL_shape o9
  have hs11 := fun q hq => (r10 q hq).2
  go_wp2_with fail
  refine (spec_SetHas16W d_aS (Value.slice a14 m15 c16) s_aX _ (ownL.rds o9) hb_aS).mono ?_
  rintro e w17 ⟨rfl, b18⟩
  have t19 := Below.trans t12 (Below.mono b18 zb0)
  have z20 := Below.size b18
  replace zb0 : w.heap.size ≤ w17.heap.size := by omega
  have s21 : Below w17.heap.size w17 w17 := Below.refl _ _
  have za0 : w17.heap.size ≤ w17.heap.size := Nat.le_refl _
  go_wp2_with fail
  refine (toIntSS_o d_aS (Value.slice a_aS0 d_aS.length c_aS0) _ (rdsL.below h_aS0 t19) hb_aS).mono ?_
  rintro e w22 ⟨u24, S25, rfl, o26, r27, b23⟩
  have t29 := Below.trans t19 (Below.mono b23 zb0)
  have s30 := Below.trans s21 (Below.mono b23 za0)
  have z31 := Below.size b23
  replace zb0 : w.heap.size ≤ w22.heap.size := by omega
  replace za0 : w17.heap.size ≤ w22.heap.size := by omega
  obtain ⟨a32, m33, c34, rfl⟩ := ownL_shape o26
  have hs28 := fun q hq => (r27 q hq).2
  go_wp2_with fail
  refine (impl_SetHas16W d_aS (Value.slice a32 m33 c34) s_aX _ (ownL.rds o26) hb_aS).mono ?_
  rintro e w35 ⟨rfl, b36⟩
  have t37 := Below.trans t29 (Below.mono b36 zb0)
  have s38 := Below.trans s30 (Below.mono b36 za0)
  replace o26 := ownL.keep o26 (fun q hq => Below.block b36 q (hs28 q hq))
  replace hs28 := fun q hq => Nat.lt_of_lt_of_le (hs28 q hq) (Below.size b36)
  have z39 := Below.size b36
  replace zb0 : w.heap.size ≤ w35.heap.size := by omega
  replace za0 : w17.heap.size ≤ w35.heap.size := by omega
  go_wp2_with fail
  refine (toIntSS_o d_aS (Value.slice a_aS0 d_aS.length c_aS0) _ (rdsL.below h_aS0 t37) hb_aS).mono ?_
  rintro e w40 ⟨u42, S43, rfl, o44, r45, b41⟩
  have t47 := Below.trans t37 (Below.mono b41 zb0)
  have s48 := Below.trans s38 (Below.mono b41 za0)
  replace o26 := ownL.keep o26 (fun q hq => Below.block b41 q (hs28 q hq))
  replace hs28 := fun q hq => Nat.lt_of_lt_of_le (hs28 q hq) (Below.size b41)
  have z49 := Below.size b41
  replace zb0 : w.heap.size ≤ w40.heap.size := by omega
  replace za0 : w17.heap.size ≤ w40.heap.size := by omega
  obtain ⟨a50, m51, c52, rfl⟩ := ownL_shape o44
  have hs46 := fun q hq => (r45 q hq).2
  go_wp2_with fail
  refine (eqIntSS_o _ _ _ _ (ownL.rds o26) (ownL.rds o44)).mono ?_
  rintro e w53 ⟨rfl, b54⟩
  have t55 := Below.trans t47 (Below.mono b54 zb0)
  have s56 := Below.trans s48 (Below.mono b54 za0)
  replace o26 := ownL.keep o26 (fun q hq => Below.block b54 q (hs28 q hq))
  replace hs28 := fun q hq => Nat.lt_of_lt_of_le (hs28 q hq) (Below.size b54)
  have z57 := Below.size b54
  replace zb0 : w.heap.size ≤ w53.heap.size := by omega
  replace za0 : w17.heap.size ≤ w53.heap.size := by omega
  go_wp2_with fail
  try go_wp2
  go_ret
  exact ⟨rfl, hB0.trans (Below.mono t55 hB0.size)⟩

end Go.Proofs.Ytdgmbcmgjadoiaa
