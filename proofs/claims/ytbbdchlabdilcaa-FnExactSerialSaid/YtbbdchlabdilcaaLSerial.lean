/- FnExactSerial, walked. -/
import Derived.Test.YtbbdchlabdilcaaW12e
import Derived.Test.YtbbdchlabdilcaaBx
import Derived.Test.YtbbdchlabdilcaaEnc4
import Derived.Test.YtbbdchlabdilcaaHop
import Derived.Test.YtbbdchlabdilcaaWr3
import Derived.Test.YtbbdchlabdilcaaKeep2
import Derived.Deep.RegionHeld3
import Derived.Deep.Cut
import Derived.StillTailTactics
namespace Go.Proofs.Ytbbdchlabdilcaa
set_option maxRecDepth 100000
open Go.RowKit Go.Proofs Go.Own
set_option linter.unusedVariables false

set_option maxRecDepth 100000 in
set_option maxHeartbeats 8000000 in
theorem law_Serial (d_aFirst : List Int) (v_aFirst0 : Value) (d_aDescs : List DescD) (v_aDescs0 : Value) (w : World) (h_aFirst0 : rdsL w v_aFirst0 d_aFirst) (h_aDescs0 : rdsL w v_aDescs0 d_aDescs) :
    Calls Try.prog 3 #[v_aFirst0, v_aDescs0] w fun e w' => e = .returned (.bool true) ∧ Below w.heap.size w w' := by
  obtain ⟨a_aFirst0, c_aFirst0, rfl, -, -, -⟩ := rdsL_open h_aFirst0
  obtain ⟨a_aDescs0, c_aDescs0, rfl, -, -, -⟩ := rdsL_open h_aDescs0
  have hB0 : Below w.heap.size w w := Below.refl _ _
  have tt0 : Below w.heap.size w w := Below.refl _ _
  have zb0 : w.heap.size ≤ w.heap.size := Nat.le_refl _
  go_enter Try.func3, Try.ntmps3
  have hlen_aFirst : d_aFirst.length ≤ 9223372036854775807 := by obtain ⟨_, _, _, z1, z2, _⟩ := rdsL_open h_aFirst0; omega
  by_cases big_aFirst : (1048576 : Int) < (d_aFirst.length : Int)
  · go_wp2
    go_ret
    exact ⟨rfl, hB0.trans (Below.mono tt0 hB0.size)⟩
  have hb_aFirst : IntSB d_aFirst := by show _ ≤ 1048576; omega
  go_wp2_with fail
  have hl0_aDescs : 0 ≤ (1048576 : Int) := by omega
  refine (szDescS_o d_aDescs (Value.slice a_aDescs0 d_aDescs.length c_aDescs0) _ _ (by omega) (by omega) (rdsL.below h_aDescs0 tt0)).mono ?_
  rintro e w1 ⟨rfl, b2⟩
  have t3 := Below.trans tt0 (Below.mono b2 zb0)
  have z4 := Below.size b2
  replace zb0 : w.heap.size ≤ w1.heap.size := by omega
  by_cases big_aDescs : (1048576 : Int) < (szDescSD d_aDescs : Int)
  · rw [szR_of, if_pos big_aDescs]
    go_wp2
    go_ret
    exact ⟨rfl, hB0.trans (Below.mono t3 hB0.size)⟩
  rw [szR_of, if_neg big_aDescs]
  go_wp2_with fail
  have hb_aDescs : DescSB d_aDescs := by show _ ≤ 1048576; have := big_aDescs; unfold szDescSD at *; omega
  refine (toIntS_o d_aFirst (Value.slice a_aFirst0 d_aFirst.length c_aFirst0) _ (rdsL.below h_aFirst0 t3) hb_aFirst).mono ?_
  rintro e w5 ⟨u7, S8, rfl, o9, r10, b6⟩
  have t12 := Below.trans t3 (Below.mono b6 zb0)
  have z13 := Below.size b6
  replace zb0 : w.heap.size ≤ w5.heap.size := by omega
  obtain ⟨a14, m15, c16, rfl⟩ := ownL_shape o9
  have hs11 := fun q hq => (r10 q hq).2
  go_wp2_with fail
  refine (toDescS_o d_aDescs (Value.slice a_aDescs0 d_aDescs.length c_aDescs0) _ (rdsL.below h_aDescs0 t12) hb_aDescs).mono ?_
  rintro e w17 ⟨u19, S20, rfl, o21, r22, b18⟩
  have t24 := Below.trans t12 (Below.mono b18 zb0)
  replace o9 := ownL.keep o9 (fun q hq => Below.block b18 q (hs11 q hq))
  replace hs11 := fun q hq => Nat.lt_of_lt_of_le (hs11 q hq) (Below.size b18)
  have z25 := Below.size b18
  replace zb0 : w.heap.size ≤ w17.heap.size := by omega
  obtain ⟨a26, m27, c28, rfl⟩ := ownL_shape o21
  have hs23 := fun q hq => (r22 q hq).2
  go_wp2_with fail
  refine (spec_SerialW d_aFirst (Value.slice a14 m15 c16) d_aDescs (Value.slice a26 m27 c28) _ (ownL.rds o9) hb_aFirst (ownL.rds o21) hb_aDescs).mono ?_
  rintro e w29 ⟨u31, rfl, o33, b30⟩
  have t36 := Below.trans t24 (Below.mono b30 zb0)
  have z37 := Below.size b30
  replace zb0 : w.heap.size ≤ w29.heap.size := by omega
  obtain ⟨a38, m39, c40, rfl⟩ := rdsL_shape o33
  have s41 : Below w29.heap.size w29 w29 := Below.refl _ _
  have za0 : w29.heap.size ≤ w29.heap.size := Nat.le_refl _
  go_wp2_with fail
  refine (toIntS_o d_aFirst (Value.slice a_aFirst0 d_aFirst.length c_aFirst0) _ (rdsL.below h_aFirst0 t36) hb_aFirst).mono ?_
  rintro e w42 ⟨u44, S45, rfl, o46, r47, b43⟩
  have t49 := Below.trans t36 (Below.mono b43 zb0)
  have s50 := Below.trans s41 (Below.mono b43 za0)
  have z51 := Below.size b43
  replace zb0 : w.heap.size ≤ w42.heap.size := by omega
  replace za0 : w29.heap.size ≤ w42.heap.size := by omega
  obtain ⟨a52, m53, c54, rfl⟩ := ownL_shape o46
  have hs48 := fun q hq => (r47 q hq).2
  go_wp2_with fail
  refine (toDescS_o d_aDescs (Value.slice a_aDescs0 d_aDescs.length c_aDescs0) _ (rdsL.below h_aDescs0 t49) hb_aDescs).mono ?_
  rintro e w55 ⟨u57, S58, rfl, o59, r60, b56⟩
  have t62 := Below.trans t49 (Below.mono b56 zb0)
  have s63 := Below.trans s50 (Below.mono b56 za0)
  replace o46 := ownL.keep o46 (fun q hq => Below.block b56 q (hs48 q hq))
  replace hs48 := fun q hq => Nat.lt_of_lt_of_le (hs48 q hq) (Below.size b56)
  have z64 := Below.size b56
  replace zb0 : w.heap.size ≤ w55.heap.size := by omega
  replace za0 : w29.heap.size ≤ w55.heap.size := by omega
  obtain ⟨a65, m66, c67, rfl⟩ := ownL_shape o59
  have hs61 := fun q hq => (r60 q hq).2
  go_wp2_with fail
  refine (impl_SerialW d_aFirst (Value.slice a52 m53 c54) d_aDescs (Value.slice a65 m66 c67) _ (ownL.rds o46) hb_aFirst (ownL.rds o59) hb_aDescs).mono ?_
  rintro e w68 ⟨u70, S71, rfl, o72, r73, hb75, b69⟩
  have t76 := Below.trans t62 (Below.mono b69 zb0)
  have s77 := Below.trans s63 (Below.mono b69 za0)
  replace o46 := ownL.keep o46 (fun q hq => Below.block b69 q (hs48 q hq))
  replace hs48 := fun q hq => Nat.lt_of_lt_of_le (hs48 q hq) (Below.size b69)
  replace o59 := ownL.keep o59 (fun q hq => Below.block b69 q (hs61 q hq))
  replace hs61 := fun q hq => Nat.lt_of_lt_of_le (hs61 q hq) (Below.size b69)
  have z78 := Below.size b69
  replace zb0 : w.heap.size ≤ w68.heap.size := by omega
  replace za0 : w29.heap.size ≤ w68.heap.size := by omega
  obtain ⟨a79, m80, c81, rfl⟩ := ownL_shape o72
  have hs74 := fun q hq => (r73 q hq).2
  go_wp2_with fail
  refine (eqIntS_o _ _ _ _ (ownL.rds o72) (rdsL.below o33 s77)).mono ?_
  rintro e w82 ⟨rfl, b83⟩
  have t84 := Below.trans t76 (Below.mono b83 zb0)
  have s85 := Below.trans s77 (Below.mono b83 za0)
  replace o46 := ownL.keep o46 (fun q hq => Below.block b83 q (hs48 q hq))
  replace hs48 := fun q hq => Nat.lt_of_lt_of_le (hs48 q hq) (Below.size b83)
  replace o59 := ownL.keep o59 (fun q hq => Below.block b83 q (hs61 q hq))
  replace hs61 := fun q hq => Nat.lt_of_lt_of_le (hs61 q hq) (Below.size b83)
  replace o72 := ownL.keep o72 (fun q hq => Below.block b83 q (hs74 q hq))
  replace hs74 := fun q hq => Nat.lt_of_lt_of_le (hs74 q hq) (Below.size b83)
  have z86 := Below.size b83
  replace zb0 : w.heap.size ≤ w82.heap.size := by omega
  replace za0 : w29.heap.size ≤ w82.heap.size := by omega
  go_wp2_with fail
  refine (toIntS_o d_aFirst (Value.slice a_aFirst0 d_aFirst.length c_aFirst0) _ (rdsL.below h_aFirst0 t84) hb_aFirst).mono ?_
  rintro e w87 ⟨u89, S90, rfl, o91, r92, b88⟩
  have t94 := Below.trans t84 (Below.mono b88 zb0)
  have s95 := Below.trans s85 (Below.mono b88 za0)
  replace o46 := ownL.keep o46 (fun q hq => Below.block b88 q (hs48 q hq))
  replace hs48 := fun q hq => Nat.lt_of_lt_of_le (hs48 q hq) (Below.size b88)
  replace o59 := ownL.keep o59 (fun q hq => Below.block b88 q (hs61 q hq))
  replace hs61 := fun q hq => Nat.lt_of_lt_of_le (hs61 q hq) (Below.size b88)
  replace o72 := ownL.keep o72 (fun q hq => Below.block b88 q (hs74 q hq))
  replace hs74 := fun q hq => Nat.lt_of_lt_of_le (hs74 q hq) (Below.size b88)
  have z96 := Below.size b88
  replace zb0 : w.heap.size ≤ w87.heap.size := by omega
  replace za0 : w29.heap.size ≤ w87.heap.size := by omega
  obtain ⟨a97, m98, c99, rfl⟩ := ownL_shape o91
  have hs93 := fun q hq => (r92 q hq).2
  go_wp2_with fail
  refine (eqIntS_o _ _ _ _ (ownL.rds o46) (ownL.rds o91)).mono ?_
  rintro e w100 ⟨rfl, b101⟩
  have t102 := Below.trans t94 (Below.mono b101 zb0)
  have s103 := Below.trans s95 (Below.mono b101 za0)
  replace o46 := ownL.keep o46 (fun q hq => Below.block b101 q (hs48 q hq))
  replace hs48 := fun q hq => Nat.lt_of_lt_of_le (hs48 q hq) (Below.size b101)
  replace o59 := ownL.keep o59 (fun q hq => Below.block b101 q (hs61 q hq))
  replace hs61 := fun q hq => Nat.lt_of_lt_of_le (hs61 q hq) (Below.size b101)
  replace o72 := ownL.keep o72 (fun q hq => Below.block b101 q (hs74 q hq))
  replace hs74 := fun q hq => Nat.lt_of_lt_of_le (hs74 q hq) (Below.size b101)
  have z104 := Below.size b101
  replace zb0 : w.heap.size ≤ w100.heap.size := by omega
  replace za0 : w29.heap.size ≤ w100.heap.size := by omega
  go_wp2_with fail
  refine (toDescS_o d_aDescs (Value.slice a_aDescs0 d_aDescs.length c_aDescs0) _ (rdsL.below h_aDescs0 t102) hb_aDescs).mono ?_
  rintro e w105 ⟨u107, S108, rfl, o109, r110, b106⟩
  have t112 := Below.trans t102 (Below.mono b106 zb0)
  have s113 := Below.trans s103 (Below.mono b106 za0)
  replace o46 := ownL.keep o46 (fun q hq => Below.block b106 q (hs48 q hq))
  replace hs48 := fun q hq => Nat.lt_of_lt_of_le (hs48 q hq) (Below.size b106)
  replace o59 := ownL.keep o59 (fun q hq => Below.block b106 q (hs61 q hq))
  replace hs61 := fun q hq => Nat.lt_of_lt_of_le (hs61 q hq) (Below.size b106)
  replace o72 := ownL.keep o72 (fun q hq => Below.block b106 q (hs74 q hq))
  replace hs74 := fun q hq => Nat.lt_of_lt_of_le (hs74 q hq) (Below.size b106)
  have z114 := Below.size b106
  replace zb0 : w.heap.size ≤ w105.heap.size := by omega
  replace za0 : w29.heap.size ≤ w105.heap.size := by omega
  obtain ⟨a115, m116, c117, rfl⟩ := ownL_shape o109
  have hs111 := fun q hq => (r110 q hq).2
  go_wp2_with fail
  refine (eqDescS_o _ _ _ _ (ownL.rds o59) (ownL.rds o109)).mono ?_
  rintro e w118 ⟨rfl, b119⟩
  have t120 := Below.trans t112 (Below.mono b119 zb0)
  have s121 := Below.trans s113 (Below.mono b119 za0)
  replace o46 := ownL.keep o46 (fun q hq => Below.block b119 q (hs48 q hq))
  replace hs48 := fun q hq => Nat.lt_of_lt_of_le (hs48 q hq) (Below.size b119)
  replace o59 := ownL.keep o59 (fun q hq => Below.block b119 q (hs61 q hq))
  replace hs61 := fun q hq => Nat.lt_of_lt_of_le (hs61 q hq) (Below.size b119)
  replace o72 := ownL.keep o72 (fun q hq => Below.block b119 q (hs74 q hq))
  replace hs74 := fun q hq => Nat.lt_of_lt_of_le (hs74 q hq) (Below.size b119)
  have z122 := Below.size b119
  replace zb0 : w.heap.size ≤ w118.heap.size := by omega
  replace za0 : w29.heap.size ≤ w118.heap.size := by omega
  go_wp2_with fail
  have le126 := cntIntS_le hb_aFirst
  refine (markIntS_o S45 _ _ _ _ hs48  hb_aFirst (by omega) (by omega) o46).mono ?_
  rintro e w123 ⟨rfl, o125, C124⟩
  have t127 := below_chg t120 C124 zb0 (by intro q hx; have y := r47 q hx; have y1 := y.1; have y2 := y.2; omega)
  have s128 := below_chg s121 C124 za0 (by intro q hx; have y := r47 q hx; have y1 := y.1; have y2 := y.2; omega)
  replace hs48 := fun q hq => Nat.lt_of_lt_of_le (hs48 q hq) (ChgS.size C124)
  replace o59 := ownL.keep o59 (fun q hq => ChgS.block C124 q (hs61 q hq) (by intro hx; have x0 := r60 q hq; have x1 := x0.1; have x2 := x0.2; have y := r47 q hx; have y1 := y.1; have y2 := y.2; omega))
  replace hs61 := fun q hq => Nat.lt_of_lt_of_le (hs61 q hq) (ChgS.size C124)
  replace o72 := ownL.keep o72 (fun q hq => ChgS.block C124 q (hs74 q hq) (by intro hx; have x0 := r73 q hq; have x1 := x0.1; have x2 := x0.2; have y := r47 q hx; have y1 := y.1; have y2 := y.2; omega))
  replace hs74 := fun q hq => Nat.lt_of_lt_of_le (hs74 q hq) (ChgS.size C124)
  have z129 := ChgS.size C124
  replace zb0 : w.heap.size ≤ w123.heap.size := by omega
  replace za0 : w29.heap.size ≤ w123.heap.size := by omega
  go_wp2_with fail
  have le133 := cntDescS_le hb_aDescs
  refine (markDescS_o S58 _ _ _ _ hs61  hb_aDescs (by omega) (by omega) o59).mono ?_
  rintro e w130 ⟨rfl, o132, C131⟩
  have t134 := below_chg t127 C131 zb0 (by intro q hx; have y := r60 q hx; have y1 := y.1; have y2 := y.2; omega)
  have s135 := below_chg s128 C131 za0 (by intro q hx; have y := r60 q hx; have y1 := y.1; have y2 := y.2; omega)
  replace o125 := ownL.keep o125 (fun q hq => ChgS.block C131 q (hs48 q hq) (by intro hx; have x0 := r47 q hq; have x1 := x0.1; have x2 := x0.2; have y := r60 q hx; have y1 := y.1; have y2 := y.2; omega))
  replace hs48 := fun q hq => Nat.lt_of_lt_of_le (hs48 q hq) (ChgS.size C131)
  replace hs61 := fun q hq => Nat.lt_of_lt_of_le (hs61 q hq) (ChgS.size C131)
  replace o72 := ownL.keep o72 (fun q hq => ChgS.block C131 q (hs74 q hq) (by intro hx; have x0 := r73 q hq; have x1 := x0.1; have x2 := x0.2; have y := r60 q hx; have y1 := y.1; have y2 := y.2; omega))
  replace hs74 := fun q hq => Nat.lt_of_lt_of_le (hs74 q hq) (ChgS.size C131)
  have z136 := ChgS.size C131
  replace zb0 : w.heap.size ≤ w130.heap.size := by omega
  replace za0 : w29.heap.size ≤ w130.heap.size := by omega
  go_wp2_with fail
  refine (eqIntS_o _ _ _ _ (ownL.rds o72) (rdsL.below o33 s135)).mono ?_
  rintro e w137 ⟨rfl, b138⟩
  have t139 := Below.trans t134 (Below.mono b138 zb0)
  have s140 := Below.trans s135 (Below.mono b138 za0)
  replace o125 := ownL.keep o125 (fun q hq => Below.block b138 q (hs48 q hq))
  replace hs48 := fun q hq => Nat.lt_of_lt_of_le (hs48 q hq) (Below.size b138)
  replace o132 := ownL.keep o132 (fun q hq => Below.block b138 q (hs61 q hq))
  replace hs61 := fun q hq => Nat.lt_of_lt_of_le (hs61 q hq) (Below.size b138)
  replace o72 := ownL.keep o72 (fun q hq => Below.block b138 q (hs74 q hq))
  replace hs74 := fun q hq => Nat.lt_of_lt_of_le (hs74 q hq) (Below.size b138)
  have z141 := Below.size b138
  replace zb0 : w.heap.size ≤ w137.heap.size := by omega
  replace za0 : w29.heap.size ≤ w137.heap.size := by omega
  go_wp2_with fail
  have le145 := cntIntS_le hb75
  refine (markIntS_o S71 _ _ _ _ hs74  hb75 (by omega) (by omega) o72).mono ?_
  rintro e w142 ⟨rfl, o144, C143⟩
  have t146 := below_chg t139 C143 zb0 (by intro q hx; have y := r73 q hx; have y1 := y.1; have y2 := y.2; omega)
  have s147 := below_chg s140 C143 za0 (by intro q hx; have y := r73 q hx; have y1 := y.1; have y2 := y.2; omega)
  replace o125 := ownL.keep o125 (fun q hq => ChgS.block C143 q (hs48 q hq) (by intro hx; have x0 := r47 q hq; have x1 := x0.1; have x2 := x0.2; have y := r73 q hx; have y1 := y.1; have y2 := y.2; omega))
  replace hs48 := fun q hq => Nat.lt_of_lt_of_le (hs48 q hq) (ChgS.size C143)
  replace o132 := ownL.keep o132 (fun q hq => ChgS.block C143 q (hs61 q hq) (by intro hx; have x0 := r60 q hq; have x1 := x0.1; have x2 := x0.2; have y := r73 q hx; have y1 := y.1; have y2 := y.2; omega))
  replace hs61 := fun q hq => Nat.lt_of_lt_of_le (hs61 q hq) (ChgS.size C143)
  replace hs74 := fun q hq => Nat.lt_of_lt_of_le (hs74 q hq) (ChgS.size C143)
  have z148 := ChgS.size C143
  replace zb0 : w.heap.size ≤ w142.heap.size := by omega
  replace za0 : w29.heap.size ≤ w142.heap.size := by omega
  go_wp2_with fail
  refine (heldIntS_o _ _ _ _ hb75 (by omega) (by omega) (ownL.rds o144)).mono ?_
  rintro e w149 ⟨rfl, b150⟩
  have t151 := Below.trans t146 (Below.mono b150 zb0)
  have s152 := Below.trans s147 (Below.mono b150 za0)
  replace o125 := ownL.keep o125 (fun q hq => Below.block b150 q (hs48 q hq))
  replace hs48 := fun q hq => Nat.lt_of_lt_of_le (hs48 q hq) (Below.size b150)
  replace o132 := ownL.keep o132 (fun q hq => Below.block b150 q (hs61 q hq))
  replace hs61 := fun q hq => Nat.lt_of_lt_of_le (hs61 q hq) (Below.size b150)
  replace o144 := ownL.keep o144 (fun q hq => Below.block b150 q (hs74 q hq))
  replace hs74 := fun q hq => Nat.lt_of_lt_of_le (hs74 q hq) (Below.size b150)
  have z153 := Below.size b150
  replace zb0 : w.heap.size ≤ w149.heap.size := by omega
  replace za0 : w29.heap.size ≤ w149.heap.size := by omega
  go_wp2_with fail
  refine (toIntS_o d_aFirst (Value.slice a_aFirst0 d_aFirst.length c_aFirst0) _ (rdsL.below h_aFirst0 t151) hb_aFirst).mono ?_
  rintro e w154 ⟨u156, S157, rfl, o158, r159, b155⟩
  have t161 := Below.trans t151 (Below.mono b155 zb0)
  have s162 := Below.trans s152 (Below.mono b155 za0)
  replace o125 := ownL.keep o125 (fun q hq => Below.block b155 q (hs48 q hq))
  replace hs48 := fun q hq => Nat.lt_of_lt_of_le (hs48 q hq) (Below.size b155)
  replace o132 := ownL.keep o132 (fun q hq => Below.block b155 q (hs61 q hq))
  replace hs61 := fun q hq => Nat.lt_of_lt_of_le (hs61 q hq) (Below.size b155)
  replace o144 := ownL.keep o144 (fun q hq => Below.block b155 q (hs74 q hq))
  replace hs74 := fun q hq => Nat.lt_of_lt_of_le (hs74 q hq) (Below.size b155)
  have z163 := Below.size b155
  replace zb0 : w.heap.size ≤ w154.heap.size := by omega
  replace za0 : w29.heap.size ≤ w154.heap.size := by omega
  obtain ⟨a164, m165, c166, rfl⟩ := ownL_shape o158
  have hs160 := fun q hq => (r159 q hq).2
  go_wp2_with fail
  refine (toDescS_o d_aDescs (Value.slice a_aDescs0 d_aDescs.length c_aDescs0) _ (rdsL.below h_aDescs0 t161) hb_aDescs).mono ?_
  rintro e w167 ⟨u169, S170, rfl, o171, r172, b168⟩
  have t174 := Below.trans t161 (Below.mono b168 zb0)
  have s175 := Below.trans s162 (Below.mono b168 za0)
  replace o125 := ownL.keep o125 (fun q hq => Below.block b168 q (hs48 q hq))
  replace hs48 := fun q hq => Nat.lt_of_lt_of_le (hs48 q hq) (Below.size b168)
  replace o132 := ownL.keep o132 (fun q hq => Below.block b168 q (hs61 q hq))
  replace hs61 := fun q hq => Nat.lt_of_lt_of_le (hs61 q hq) (Below.size b168)
  replace o144 := ownL.keep o144 (fun q hq => Below.block b168 q (hs74 q hq))
  replace hs74 := fun q hq => Nat.lt_of_lt_of_le (hs74 q hq) (Below.size b168)
  replace o158 := ownL.keep o158 (fun q hq => Below.block b168 q (hs160 q hq))
  replace hs160 := fun q hq => Nat.lt_of_lt_of_le (hs160 q hq) (Below.size b168)
  have z176 := Below.size b168
  replace zb0 : w.heap.size ≤ w167.heap.size := by omega
  replace za0 : w29.heap.size ≤ w167.heap.size := by omega
  obtain ⟨a177, m178, c179, rfl⟩ := ownL_shape o171
  have hs173 := fun q hq => (r172 q hq).2
  go_wp2_with fail
  refine (impl_SerialW d_aFirst (Value.slice a164 m165 c166) d_aDescs (Value.slice a177 m178 c179) _ (ownL.rds o158) hb_aFirst (ownL.rds o171) hb_aDescs).mono ?_
  rintro e w180 ⟨u182, S183, rfl, o184, r185, hb187, b181⟩
  have t188 := Below.trans t174 (Below.mono b181 zb0)
  have s189 := Below.trans s175 (Below.mono b181 za0)
  replace o125 := ownL.keep o125 (fun q hq => Below.block b181 q (hs48 q hq))
  replace hs48 := fun q hq => Nat.lt_of_lt_of_le (hs48 q hq) (Below.size b181)
  replace o132 := ownL.keep o132 (fun q hq => Below.block b181 q (hs61 q hq))
  replace hs61 := fun q hq => Nat.lt_of_lt_of_le (hs61 q hq) (Below.size b181)
  replace o144 := ownL.keep o144 (fun q hq => Below.block b181 q (hs74 q hq))
  replace hs74 := fun q hq => Nat.lt_of_lt_of_le (hs74 q hq) (Below.size b181)
  have z190 := Below.size b181
  replace zb0 : w.heap.size ≤ w180.heap.size := by omega
  replace za0 : w29.heap.size ≤ w180.heap.size := by omega
  obtain ⟨a191, m192, c193, rfl⟩ := ownL_shape o184
  have hs186 := fun q hq => (r185 q hq).2
  go_wp2_with fail
  refine (eqIntS_o _ _ _ _ (ownL.rds o184) (rdsL.below o33 s189)).mono ?_
  rintro e w194 ⟨rfl, b195⟩
  have t196 := Below.trans t188 (Below.mono b195 zb0)
  have s197 := Below.trans s189 (Below.mono b195 za0)
  replace o125 := ownL.keep o125 (fun q hq => Below.block b195 q (hs48 q hq))
  replace hs48 := fun q hq => Nat.lt_of_lt_of_le (hs48 q hq) (Below.size b195)
  replace o132 := ownL.keep o132 (fun q hq => Below.block b195 q (hs61 q hq))
  replace hs61 := fun q hq => Nat.lt_of_lt_of_le (hs61 q hq) (Below.size b195)
  replace o144 := ownL.keep o144 (fun q hq => Below.block b195 q (hs74 q hq))
  replace hs74 := fun q hq => Nat.lt_of_lt_of_le (hs74 q hq) (Below.size b195)
  replace o184 := ownL.keep o184 (fun q hq => Below.block b195 q (hs186 q hq))
  replace hs186 := fun q hq => Nat.lt_of_lt_of_le (hs186 q hq) (Below.size b195)
  have z198 := Below.size b195
  replace zb0 : w.heap.size ≤ w194.heap.size := by omega
  replace za0 : w29.heap.size ≤ w194.heap.size := by omega
  go_wp2_with fail
  refine (heldIntS_o _ _ _ _ hb75 (by omega) (by omega) (ownL.rds o144)).mono ?_
  rintro e w199 ⟨rfl, b200⟩
  have t201 := Below.trans t196 (Below.mono b200 zb0)
  have s202 := Below.trans s197 (Below.mono b200 za0)
  replace o125 := ownL.keep o125 (fun q hq => Below.block b200 q (hs48 q hq))
  replace hs48 := fun q hq => Nat.lt_of_lt_of_le (hs48 q hq) (Below.size b200)
  replace o132 := ownL.keep o132 (fun q hq => Below.block b200 q (hs61 q hq))
  replace hs61 := fun q hq => Nat.lt_of_lt_of_le (hs61 q hq) (Below.size b200)
  replace o144 := ownL.keep o144 (fun q hq => Below.block b200 q (hs74 q hq))
  replace hs74 := fun q hq => Nat.lt_of_lt_of_le (hs74 q hq) (Below.size b200)
  replace o184 := ownL.keep o184 (fun q hq => Below.block b200 q (hs186 q hq))
  replace hs186 := fun q hq => Nat.lt_of_lt_of_le (hs186 q hq) (Below.size b200)
  have z203 := Below.size b200
  replace zb0 : w.heap.size ≤ w199.heap.size := by omega
  replace za0 : w29.heap.size ≤ w199.heap.size := by omega
  go_wp2_with fail
  try go_wp2
  go_ret
  exact ⟨rfl, hB0.trans (Below.mono t201 hB0.size)⟩

end Go.Proofs.Ytbbdchlabdilcaa
