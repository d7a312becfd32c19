/- FnExactOrdersOf, walked. -/
import Derived.Test.YtbbdchlabdilcaaM3
import Derived.Test.YtbbdchlabdilcaaBx
import Derived.Test.YtbbdchlabdilcaaEnc4
import Derived.Test.YtbbdchlabdilcaaHop
import Derived.Test.YtbbdchlabdilcaaWr3
import Derived.Test.YtbbdchlabdilcaaKeep2
import Derived.Deep.RegionHeld3
import Derived.Deep.Cut
import Derived.StillTailTactics
namespace Go.Proofs.Ytbbdchlabdilcaa
set_option maxRecDepth 100000
open Go.RowKit Go.Proofs Go.Own
set_option linter.unusedVariables false

set_option maxRecDepth 100000 in
set_option maxHeartbeats 8000000 in
theorem law_OrdersOf (d_aFirst : List Int) (v_aFirst0 : Value) (d_aDescs : List DescD) (v_aDescs0 : Value) (w : World) (h_aFirst0 : rdsL w v_aFirst0 d_aFirst) (h_aDescs0 : rdsL w v_aDescs0 d_aDescs) :
    Calls Try.prog 4 #[v_aFirst0, v_aDescs0] w fun e w' => e = .returned (.bool true) ∧ Below w.heap.size w w' := by
  obtain ⟨a_aFirst0, c_aFirst0, rfl, -, -, -⟩ := rdsL_open h_aFirst0
  obtain ⟨a_aDescs0, c_aDescs0, rfl, -, -, -⟩ := rdsL_open h_aDescs0
  have hB0 : Below w.heap.size w w := Below.refl _ _
  have tt0 : Below w.heap.size w w := Below.refl _ _
  have zb0 : w.heap.size ≤ w.heap.size := Nat.le_refl _
  go_enter Try.func4, Try.ntmps4
  have hlen_aFirst : d_aFirst.length ≤ 9223372036854775807 := by obtain ⟨_, _, _, z1, z2, _⟩ := rdsL_open h_aFirst0; omega
  by_cases big_aFirst : (1048576 : Int) < (d_aFirst.length : Int)
  · go_wp2
    go_ret
    exact ⟨rfl, hB0.trans (Below.mono tt0 hB0.size)⟩
  have hb_aFirst : IntSB d_aFirst := by show _ ≤ 1048576; omega
  go_wp2_with fail
  have hl0_aDescs : 0 ≤ (1048576 : Int) := by omega
  refine (szDescS_o d_aDescs (Value.slice a_aDescs0 d_aDescs.length c_aDescs0) _ _ (by omega) (by omega) (rdsL.below h_aDescs0 tt0)).mono ?_
  rintro e w1 ⟨rfl, b2⟩
  have t3 := Below.trans tt0 (Below.mono b2 zb0)
  have z4 := Below.size b2
  replace zb0 : w.heap.size ≤ w1.heap.size := by omega
  by_cases big_aDescs : (1048576 : Int) < (szDescSD d_aDescs : Int)
  · rw [szR_of, if_pos big_aDescs]
    go_wp2
    go_ret
    exact ⟨rfl, hB0.trans (Below.mono t3 hB0.size)⟩
  rw [szR_of, if_neg big_aDescs]
  go_wp2_with fail
  have hb_aDescs : DescSB d_aDescs := by show _ ≤ 1048576; have := big_aDescs; unfold szDescSD at *; omega
  refine (toIntS_o d_aFirst (Value.slice a_aFirst0 d_aFirst.length c_aFirst0) _ (rdsL.below h_aFirst0 t3) hb_aFirst).mono ?_
  rintro e w5 ⟨u7, S8, rfl, o9, r10, b6⟩
  have t12 := Below.trans t3 (Below.mono b6 zb0)
  have z13 := Below.size b6
  replace zb0 : w.heap.size ≤ w5.heap.size := by omega
  obtain ⟨a14, m15, c16, rfl⟩ := ownL_shape o9
  have hs11 := fun q hq => (r10 q hq).2
  go_wp2_with fail
  refine (toDescS_o d_aDescs (Value.slice a_aDescs0 d_aDescs.length c_aDescs0) _ (rdsL.below h_aDescs0 t12) hb_aDescs).mono ?_
  rintro e w17 ⟨u19, S20, rfl, o21, r22, b18⟩
  have t24 := Below.trans t12 (Below.mono b18 zb0)
  replace o9 := ownL.keep o9 (fun q hq => Below.block b18 q (hs11 q hq))
  replace hs11 := fun q hq => Nat.lt_of_lt_of_le (hs11 q hq) (Below.size b18)
  have z25 := Below.size b18
  replace zb0 : w.heap.size ≤ w17.heap.size := by omega
  obtain ⟨a26, m27, c28, rfl⟩ := ownL_shape o21
  have hs23 := fun q hq => (r22 q hq).2
  go_wp2_with fail
  refine (spec_OrdersOfW d_aFirst (Value.slice a14 m15 c16) d_aDescs (Value.slice a26 m27 c28) _ (ownL.rds o9) hb_aFirst (ownL.rds o21) hb_aDescs).mono ?_
  rintro e w29 ⟨rfl, b30⟩
  have t31 := Below.trans t24 (Below.mono b30 zb0)
  have z32 := Below.size b30
  replace zb0 : w.heap.size ≤ w29.heap.size := by omega
  have s33 : Below w29.heap.size w29 w29 := Below.refl _ _
  have za0 : w29.heap.size ≤ w29.heap.size := Nat.le_refl _
  go_wp2_with fail
  refine (toIntS_o d_aFirst (Value.slice a_aFirst0 d_aFirst.length c_aFirst0) _ (rdsL.below h_aFirst0 t31) hb_aFirst).mono ?_
  rintro e w34 ⟨u36, S37, rfl, o38, r39, b35⟩
  have t41 := Below.trans t31 (Below.mono b35 zb0)
  have s42 := Below.trans s33 (Below.mono b35 za0)
  have z43 := Below.size b35
  replace zb0 : w.heap.size ≤ w34.heap.size := by omega
  replace za0 : w29.heap.size ≤ w34.heap.size := by omega
  obtain ⟨a44, m45, c46, rfl⟩ := ownL_shape o38
  have hs40 := fun q hq => (r39 q hq).2
  go_wp2_with fail
  refine (toDescS_o d_aDescs (Value.slice a_aDescs0 d_aDescs.length c_aDescs0) _ (rdsL.below h_aDescs0 t41) hb_aDescs).mono ?_
  rintro e w47 ⟨u49, S50, rfl, o51, r52, b48⟩
  have t54 := Below.trans t41 (Below.mono b48 zb0)
  have s55 := Below.trans s42 (Below.mono b48 za0)
  replace o38 := ownL.keep o38 (fun q hq => Below.block b48 q (hs40 q hq))
  replace hs40 := fun q hq => Nat.lt_of_lt_of_le (hs40 q hq) (Below.size b48)
  have z56 := Below.size b48
  replace zb0 : w.heap.size ≤ w47.heap.size := by omega
  replace za0 : w29.heap.size ≤ w47.heap.size := by omega
  obtain ⟨a57, m58, c59, rfl⟩ := ownL_shape o51
  have hs53 := fun q hq => (r52 q hq).2
  go_wp2_with fail
  refine (impl_OrdersOfW d_aFirst (Value.slice a44 m45 c46) d_aDescs (Value.slice a57 m58 c59) _ (ownL.rds o38) hb_aFirst (ownL.rds o51) hb_aDescs).mono ?_
  rintro e w60 ⟨rfl, b61⟩
  have t62 := Below.trans t54 (Below.mono b61 zb0)
  have s63 := Below.trans s55 (Below.mono b61 za0)
  replace o38 := ownL.keep o38 (fun q hq => Below.block b61 q (hs40 q hq))
  replace hs40 := fun q hq => Nat.lt_of_lt_of_le (hs40 q hq) (Below.size b61)
  replace o51 := ownL.keep o51 (fun q hq => Below.block b61 q (hs53 q hq))
  replace hs53 := fun q hq => Nat.lt_of_lt_of_le (hs53 q hq) (Below.size b61)
  have z64 := Below.size b61
  replace zb0 : w.heap.size ≤ w60.heap.size := by omega
  replace za0 : w29.heap.size ≤ w60.heap.size := by omega
  go_wp2_with fail
  refine (toIntS_o d_aFirst (Value.slice a_aFirst0 d_aFirst.length c_aFirst0) _ (rdsL.below h_aFirst0 t62) hb_aFirst).mono ?_
  rintro e w65 ⟨u67, S68, rfl, o69, r70, b66⟩
  have t72 := Below.trans t62 (Below.mono b66 zb0)
  have s73 := Below.trans s63 (Below.mono b66 za0)
  replace o38 := ownL.keep o38 (fun q hq => Below.block b66 q (hs40 q hq))
  replace hs40 := fun q hq => Nat.lt_of_lt_of_le (hs40 q hq) (Below.size b66)
  replace o51 := ownL.keep o51 (fun q hq => Below.block b66 q (hs53 q hq))
  replace hs53 := fun q hq => Nat.lt_of_lt_of_le (hs53 q hq) (Below.size b66)
  have z74 := Below.size b66
  replace zb0 : w.heap.size ≤ w65.heap.size := by omega
  replace za0 : w29.heap.size ≤ w65.heap.size := by omega
  obtain ⟨a75, m76, c77, rfl⟩ := ownL_shape o69
  have hs71 := fun q hq => (r70 q hq).2
  go_wp2_with fail
  refine (eqIntS_o _ _ _ _ (ownL.rds o38) (ownL.rds o69)).mono ?_
  rintro e w78 ⟨rfl, b79⟩
  have t80 := Below.trans t72 (Below.mono b79 zb0)
  have s81 := Below.trans s73 (Below.mono b79 za0)
  replace o38 := ownL.keep o38 (fun q hq => Below.block b79 q (hs40 q hq))
  replace hs40 := fun q hq => Nat.lt_of_lt_of_le (hs40 q hq) (Below.size b79)
  replace o51 := ownL.keep o51 (fun q hq => Below.block b79 q (hs53 q hq))
  replace hs53 := fun q hq => Nat.lt_of_lt_of_le (hs53 q hq) (Below.size b79)
  have z82 := Below.size b79
  replace zb0 : w.heap.size ≤ w78.heap.size := by omega
  replace za0 : w29.heap.size ≤ w78.heap.size := by omega
  go_wp2_with fail
  refine (toDescS_o d_aDescs (Value.slice a_aDescs0 d_aDescs.length c_aDescs0) _ (rdsL.below h_aDescs0 t80) hb_aDescs).mono ?_
  rintro e w83 ⟨u85, S86, rfl, o87, r88, b84⟩
  have t90 := Below.trans t80 (Below.mono b84 zb0)
  have s91 := Below.trans s81 (Below.mono b84 za0)
  replace o38 := ownL.keep o38 (fun q hq => Below.block b84 q (hs40 q hq))
  replace hs40 := fun q hq => Nat.lt_of_lt_of_le (hs40 q hq) (Below.size b84)
  replace o51 := ownL.keep o51 (fun q hq => Below.block b84 q (hs53 q hq))
  replace hs53 := fun q hq => Nat.lt_of_lt_of_le (hs53 q hq) (Below.size b84)
  have z92 := Below.size b84
  replace zb0 : w.heap.size ≤ w83.heap.size := by omega
  replace za0 : w29.heap.size ≤ w83.heap.size := by omega
  obtain ⟨a93, m94, c95, rfl⟩ := ownL_shape o87
  have hs89 := fun q hq => (r88 q hq).2
  go_wp2_with fail
  refine (eqDescS_o _ _ _ _ (ownL.rds o51) (ownL.rds o87)).mono ?_
  rintro e w96 ⟨rfl, b97⟩
  have t98 := Below.trans t90 (Below.mono b97 zb0)
  have s99 := Below.trans s91 (Below.mono b97 za0)
  replace o38 := ownL.keep o38 (fun q hq => Below.block b97 q (hs40 q hq))
  replace hs40 := fun q hq => Nat.lt_of_lt_of_le (hs40 q hq) (Below.size b97)
  replace o51 := ownL.keep o51 (fun q hq => Below.block b97 q (hs53 q hq))
  replace hs53 := fun q hq => Nat.lt_of_lt_of_le (hs53 q hq) (Below.size b97)
  have z100 := Below.size b97
  replace zb0 : w.heap.size ≤ w96.heap.size := by omega
  replace za0 : w29.heap.size ≤ w96.heap.size := by omega
  go_wp2_with fail
  try go_wp2
  go_ret
  exact ⟨rfl, hB0.trans (Below.mono t98 hB0.size)⟩

end Go.Proofs.Ytbbdchlabdilcaa
