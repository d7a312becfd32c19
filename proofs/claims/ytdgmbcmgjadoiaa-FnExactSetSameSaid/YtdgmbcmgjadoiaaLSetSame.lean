/- FnExactSetSame, walked. -/
import Derived.Test.YtdgmbcmgjadoiaaW16s
import Derived.Test.YtdgmbcmgjadoiaaBx
import Derived.Test.YtdgmbcmgjadoiaaEnc4
import Derived.Test.YtdgmbcmgjadoiaaHop
import Derived.Test.YtdgmbcmgjadoiaaWr3
import Derived.Test.YtdgmbcmgjadoiaaKeep
import Derived.Deep.RegionHeld3
import Derived.Deep.Cut
import Derived.StillTailTactics
namespace Go.Proofs.Ytdgmbcmgjadoiaa
set_option maxRecDepth 100000
open Go.RowKit Go.Proofs Go.Own
set_option linter.unusedVariables false

set_option maxRecDepth 100000 in
set_option maxHeartbeats 8000000 in
theorem law_SetSame (d_aA : List RowD) (v_aA0 : Value) (d_aB : List RowD) (v_aB0 : Value) (w : World) (h_aA0 : rdsL w v_aA0 d_aA) (h_aB0 : rdsL w v_aB0 d_aB) :
    Calls Try.prog 11 #[v_aA0, v_aB0] w fun e w' => e = .returned (.bool true) ∧ Below w.heap.size w w' := by
  obtain ⟨a_aA0, c_aA0, rfl, -, -, -⟩ := rdsL_open h_aA0
  obtain ⟨a_aB0, c_aB0, rfl, -, -, -⟩ := rdsL_open h_aB0
  have hB0 : Below w.heap.size w w := Below.refl _ _
  have tt0 : Below w.heap.size w w := Below.refl _ _
  have zb0 : w.heap.size ≤ w.heap.size := Nat.le_refl _
  go_enter Try.func11, Try.ntmps11
  go_wp2_with fail
  have hl0_aA : 0 ≤ (1048576 : Int) := by omega
  refine (szIntSS_o d_aA (Value.slice a_aA0 d_aA.length c_aA0) _ _ (by omega) (by omega) (rdsL.below h_aA0 tt0)).mono ?_
  rintro e w1 ⟨rfl, b2⟩
  have t3 := Below.trans tt0 (Below.mono b2 zb0)
  have z4 := Below.size b2
  replace zb0 : w.heap.size ≤ w1.heap.size := by omega
  by_cases big_aA : (1048576 : Int) < (szIntSSD d_aA : Int)
  · rw [szR_of, if_pos big_aA]
    go_wp2
    go_ret
    exact ⟨rfl, hB0.trans (Below.mono t3 hB0.size)⟩
  rw [szR_of, if_neg big_aA]
  go_wp2_with fail
  have hl0_aB : 0 ≤ (1048576 : Int) - (szIntSSD d_aA : Int) := by omega
  refine (szIntSS_o d_aB (Value.slice a_aB0 d_aB.length c_aB0) _ _ (by omega) (by omega) (rdsL.below h_aB0 t3)).mono ?_
  rintro e w5 ⟨rfl, b6⟩
  have t7 := Below.trans t3 (Below.mono b6 zb0)
  have z8 := Below.size b6
  replace zb0 : w.heap.size ≤ w5.heap.size := by omega
  by_cases big_aB : (1048576 : Int) - (szIntSSD d_aA : Int) < (szIntSSD d_aB : Int)
  · rw [szR_of, if_pos big_aB]
    go_wp2
    go_ret
    exact ⟨rfl, hB0.trans (Below.mono t7 hB0.size)⟩
  rw [szR_of, if_neg big_aB]
  go_wp2_with fail
  have hb_aA : IntSSB d_aA := by show _ ≤ 1048576; have := big_aA; unfold szIntSSD at *; omega
  have hb_aB : IntSSB d_aB := by show _ ≤ 1048576; have := big_aB; unfold szIntSSD at *; omega
  refine (toIntSS_o d_aA (Value.slice a_aA0 d_aA.length c_aA0) _ (rdsL.below h_aA0 t7) hb_aA).mono ?_
  rintro e w9 ⟨u11, S12, rfl, o13, r14, b10⟩
  have t16 := Below.trans t7 (Below.mono b10 zb0)
  have z17 := Below.size b10
  replace zb0 : w.heap.size ≤ w9.heap.size := by omega
  obtain ⟨a18, m19, c20, rfl⟩ := ownL_shape o13
  have hs15 := fun q hq => (r14 q hq).2
  go_wp2_with fail
  refine (toIntSS_o d_aB (Value.slice a_aB0 d_aB.length c_aB0) _ (rdsL.below h_aB0 t16) hb_aB).mono ?_
  rintro e w21 ⟨u23, S24, rfl, o25, r26, b22⟩
  have t28 := Below.trans t16 (Below.mono b22 zb0)
  replace o13 := ownL.keep o13 (fun q hq => Below.block b22 q (hs15 q hq))
  replace hs15 := fun q hq => Nat.lt_of_lt_of_le (hs15 q hq) (Below.size b22)
  have z29 := Below.size b22
  replace zb0 : w.heap.size ≤ w21.heap.size := by omega
  obtain ⟨a30, m31, c32, rfl⟩ := ownL_shape o25
  have hs27 := fun q hq => (r26 q hq).2
  go_wp2_with fail
  refine (spec_SetSameW d_aA (Value.slice a18 m19 c20) d_aB (Value.slice a30 m31 c32) _ (ownL.rds o13) hb_aA (ownL.rds o25) hb_aB).mono ?_
  rintro e w33 ⟨rfl, b34⟩
  have t35 := Below.trans t28 (Below.mono b34 zb0)
  have z36 := Below.size b34
  replace zb0 : w.heap.size ≤ w33.heap.size := by omega
  have s37 : Below w33.heap.size w33 w33 := Below.refl _ _
  have za0 : w33.heap.size ≤ w33.heap.size := Nat.le_refl _
  go_wp2_with fail
  refine (toIntSS_o d_aA (Value.slice a_aA0 d_aA.length c_aA0) _ (rdsL.below h_aA0 t35) hb_aA).mono ?_
  rintro e w38 ⟨u40, S41, rfl, o42, r43, b39⟩
  have t45 := Below.trans t35 (Below.mono b39 zb0)
  have s46 := Below.trans s37 (Below.mono b39 za0)
  have z47 := Below.size b39
  replace zb0 : w.heap.size ≤ w38.heap.size := by omega
  replace za0 : w33.heap.size ≤ w38.heap.size := by omega
  obtain ⟨a48, m49, c50, rfl⟩ := ownL_shape o42
  have hs44 := fun q hq => (r43 q hq).2
  go_wp2_with fail
  refine (toIntSS_o d_aB (Value.slice a_aB0 d_aB.length c_aB0) _ (rdsL.below h_aB0 t45) hb_aB).mono ?_
  rintro e w51 ⟨u53, S54, rfl, o55, r56, b52⟩
  have t58 := Below.trans t45 (Below.mono b52 zb0)
  have s59 := Below.trans s46 (Below.mono b52 za0)
  replace o42 := ownL.keep o42 (fun q hq => Below.block b52 q (hs44 q hq))
  replace hs44 := fun q hq => Nat.lt_of_lt_of_le (hs44 q hq) (Below.size b52)
  have z60 := Below.size b52
  replace zb0 : w.heap.size ≤ w51.heap.size := by omega
  replace za0 : w33.heap.size ≤ w51.heap.size := by omega
  obtain ⟨a61, m62, c63, rfl⟩ := ownL_shape o55
  have hs57 := fun q hq => (r56 q hq).2
  go_wp2_with fail
  refine (impl_SetSameW d_aA (Value.slice a48 m49 c50) d_aB (Value.slice a61 m62 c63) _ (ownL.rds o42) hb_aA (ownL.rds o55) hb_aB).mono ?_
  rintro e w64 ⟨rfl, b65⟩
  have t66 := Below.trans t58 (Below.mono b65 zb0)
  have s67 := Below.trans s59 (Below.mono b65 za0)
  replace o42 := ownL.keep o42 (fun q hq => Below.block b65 q (hs44 q hq))
  replace hs44 := fun q hq => Nat.lt_of_lt_of_le (hs44 q hq) (Below.size b65)
  replace o55 := ownL.keep o55 (fun q hq => Below.block b65 q (hs57 q hq))
  replace hs57 := fun q hq => Nat.lt_of_lt_of_le (hs57 q hq) (Below.size b65)
  have z68 := Below.size b65
  replace zb0 : w.heap.size ≤ w64.heap.size := by omega
  replace za0 : w33.heap.size ≤ w64.heap.size := by omega
  go_wp2_with fail
  refine (toIntSS_o d_aA (Value.slice a_aA0 d_aA.length c_aA0) _ (rdsL.below h_aA0 t66) hb_aA).mono ?_
  rintro e w69 ⟨u71, S72, rfl, o73, r74, b70⟩
  have t76 := Below.trans t66 (Below.mono b70 zb0)
  have s77 := Below.trans s67 (Below.mono b70 za0)
  replace o42 := ownL.keep o42 (fun q hq => Below.block b70 q (hs44 q hq))
  replace hs44 := fun q hq => Nat.lt_of_lt_of_le (hs44 q hq) (Below.size b70)
  replace o55 := ownL.keep o55 (fun q hq => Below.block b70 q (hs57 q hq))
  replace hs57 := fun q hq => Nat.lt_of_lt_of_le (hs57 q hq) (Below.size b70)
  have z78 := Below.size b70
  replace zb0 : w.heap.size ≤ w69.heap.size := by omega
  replace za0 : w33.heap.size ≤ w69.heap.size := by omega
  obtain ⟨a79, m80, c81, rfl⟩ := ownL_shape o73
  have hs75 := fun q hq => (r74 q hq).2
  go_wp2_with fail
  refine (eqIntSS_o _ _ _ _ (ownL.rds o42) (ownL.rds o73)).mono ?_
  rintro e w82 ⟨rfl, b83⟩
  have t84 := Below.trans t76 (Below.mono b83 zb0)
  have s85 := Below.trans s77 (Below.mono b83 za0)
  replace o42 := ownL.keep o42 (fun q hq => Below.block b83 q (hs44 q hq))
  replace hs44 := fun q hq => Nat.lt_of_lt_of_le (hs44 q hq) (Below.size b83)
  replace o55 := ownL.keep o55 (fun q hq => Below.block b83 q (hs57 q hq))
  replace hs57 := fun q hq => Nat.lt_of_lt_of_le (hs57 q hq) (Below.size b83)
  have z86 := Below.size b83
  replace zb0 : w.heap.size ≤ w82.heap.size := by omega
  replace za0 : w33.heap.size ≤ w82.heap.size := by omega
  go_wp2_with fail
  refine (toIntSS_o d_aB (Value.slice a_aB0 d_aB.length c_aB0) _ (rdsL.below h_aB0 t84) hb_aB).mono ?_
  rintro e w87 ⟨u89, S90, rfl, o91, r92, b88⟩
  have t94 := Below.trans t84 (Below.mono b88 zb0)
  have s95 := Below.trans s85 (Below.mono b88 za0)
  replace o42 := ownL.keep o42 (fun q hq => Below.block b88 q (hs44 q hq))
  replace hs44 := fun q hq => Nat.lt_of_lt_of_le (hs44 q hq) (Below.size b88)
  replace o55 := ownL.keep o55 (fun q hq => Below.block b88 q (hs57 q hq))
  replace hs57 := fun q hq => Nat.lt_of_lt_of_le (hs57 q hq) (Below.size b88)
  have z96 := Below.size b88
  replace zb0 : w.heap.size ≤ w87.heap.size := by omega
  replace za0 : w33.heap.size ≤ w87.heap.size := by omega
  obtain ⟨a97, m98, c99, rfl⟩ := ownL_shape o91
  have hs93 := fun q hq => (r92 q hq).2
  go_wp2_with fail
  refine (eqIntSS_o _ _ _ _ (ownL.rds o55) (ownL.rds o91)).mono ?_
  rintro e w100 ⟨rfl, b101⟩
  have t102 := Below.trans t94 (Below.mono b101 zb0)
  have s103 := Below.trans s95 (Below.mono b101 za0)
  replace o42 := ownL.keep o42 (fun q hq => Below.block b101 q (hs44 q hq))
  replace hs44 := fun q hq => Nat.lt_of_lt_of_le (hs44 q hq) (Below.size b101)
  replace o55 := ownL.keep o55 (fun q hq => Below.block b101 q (hs57 q hq))
  replace hs57 := fun q hq => Nat.lt_of_lt_of_le (hs57 q hq) (Below.size b101)
  have z104 := Below.size b101
  replace zb0 : w.heap.size ≤ w100.heap.size := by omega
  replace za0 : w33.heap.size ≤ w100.heap.size := by omega
  go_wp2_with fail
  try go_wp2
  go_ret
  exact ⟨rfl, hB0.trans (Below.mono t102 hB0.size)⟩

end Go.Proofs.Ytdgmbcmgjadoiaa
