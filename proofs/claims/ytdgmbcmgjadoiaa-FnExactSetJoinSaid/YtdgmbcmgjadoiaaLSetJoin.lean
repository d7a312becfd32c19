/- FnExactSetJoin, walked. -/
import Derived.Test.YtdgmbcmgjadoiaaW16j
import Derived.Test.YtdgmbcmgjadoiaaBx
import Derived.Test.YtdgmbcmgjadoiaaEnc4
import Derived.Test.YtdgmbcmgjadoiaaHop
import Derived.Test.YtdgmbcmgjadoiaaWr3
import Derived.Test.YtdgmbcmgjadoiaaKeep
import Derived.Deep.RegionHeld3
import Derived.Deep.Cut
import Derived.StillTailTactics
namespace Go.Proofs.Ytdgmbcmgjadoiaa
set_option maxRecDepth 100000
open Go.RowKit Go.Proofs Go.Own
set_option linter.unusedVariables false

set_option maxRecDepth 100000 in
set_option maxHeartbeats 8000000 in
theorem law_SetJoin (d_aA : List RowD) (v_aA0 : Value) (d_aB : List RowD) (v_aB0 : Value) (w : World) (h_aA0 : rdsL w v_aA0 d_aA) (h_aB0 : rdsL w v_aB0 d_aB) :
    Calls Try.prog 10 #[v_aA0, v_aB0] w fun e w' => e = .returned (.bool true) ∧ Below w.heap.size w w' := by
  obtain ⟨a_aA0, c_aA0, rfl, -, -, -⟩ := rdsL_open h_aA0
  obtain ⟨a_aB0, c_aB0, rfl, -, -, -⟩ := rdsL_open h_aB0
  have hB0 : Below w.heap.size w w := Below.refl _ _
  have tt0 : Below w.heap.size w w := Below.refl _ _
  have zb0 : w.heap.size ≤ w.heap.size := Nat.le_refl _
  go_enter Try.func10, Try.ntmps10
  go_wp2_with fail
  have hl0_aA : 0 ≤ (1048576 : Int) := by omega
  refine (szIntSS_o d_aA (Value.slice a_aA0 d_aA.length c_aA0) _ _ (by omega) (by omega) (rdsL.below h_aA0 tt0)).mono ?_
  rintro e w1 ⟨rfl, b2⟩
  have t3 := Below.trans tt0 (Below.mono b2 zb0)
  have z4 := Below.size b2
  replace zb0 : w.heap.size ≤ w1.heap.size := by omega
  by_cases big_aA : (1048576 : Int) < (szIntSSD d_aA : Int)
  · rw [szR_of, if_pos big_aA]
    go_wp2
    go_ret
    exact ⟨rfl, hB0.trans (Below.mono t3 hB0.size)⟩
  rw [szR_of, if_neg big_aA]
  go_wp2_with fail
  have hl0_aB : 0 ≤ (1048576 : Int) - (szIntSSD d_aA : Int) := by omega
  refine (szIntSS_o d_aB (Value.slice a_aB0 d_aB.length c_aB0) _ _ (by omega) (by omega) (rdsL.below h_aB0 t3)).mono ?_
  rintro e w5 ⟨rfl, b6⟩
  have t7 := Below.trans t3 (Below.mono b6 zb0)
  have z8 := Below.size b6
  replace zb0 : w.heap.size ≤ w5.heap.size := by omega
  by_cases big_aB : (1048576 : Int) - (szIntSSD d_aA : Int) < (szIntSSD d_aB : Int)
  · rw [szR_of, if_pos big_aB]
    go_wp2
    go_ret
    exact ⟨rfl, hB0.trans (Below.mono t7 hB0.size)⟩
  rw [szR_of, if_neg big_aB]
  go_wp2_with fail
  have hb_aA : IntSSB d_aA := by show _ ≤ 1048576; have := big_aA; unfold szIntSSD at *; omega
  have hb_aB : IntSSB d_aB := by show _ ≤ 1048576; have := big_aB; unfold szIntSSD at *; omega
  refine (toIntSS_o d_aA (Value.slice a_aA0 d_aA.length c_aA0) _ (rdsL.below h_aA0 t7) hb_aA).mono ?_
  rintro e w9 ⟨u11, S12, rfl, o13, r14, b10⟩
  have t16 := Below.trans t7 (Below.mono b10 zb0)
  have z17 := Below.size b10
  replace zb0 : w.heap.size ≤ w9.heap.size := by omega
  obtain ⟨a18, m19, c20, rfl⟩ := ownL_shape o13
  have hs15 := fun q hq => (r14 q hq).2
  go_wp2_with fail
  refine (toIntSS_o d_aB (Value.slice a_aB0 d_aB.length c_aB0) _ (rdsL.below h_aB0 t16) hb_aB).mono ?_
  rintro e w21 ⟨u23, S24, rfl, o25, r26, b22⟩
  have t28 := Below.trans t16 (Below.mono b22 zb0)
  replace o13 := ownL.keep o13 (fun q hq => Below.block b22 q (hs15 q hq))
  replace hs15 := fun q hq => Nat.lt_of_lt_of_le (hs15 q hq) (Below.size b22)
  have z29 := Below.size b22
  replace zb0 : w.heap.size ≤ w21.heap.size := by omega
  obtain ⟨a30, m31, c32, rfl⟩ := ownL_shape o25
  have hs27 := fun q hq => (r26 q hq).2
  go_wp2_with fail
  refine (spec_SetJoinW d_aA (Value.slice a18 m19 c20) d_aB (Value.slice a30 m31 c32) _ (ownL.rds o13) hb_aA (ownL.rds o25) hb_aB).mono ?_
  rintro e w33 ⟨u35, rfl, o37, b34⟩
  have t40 := Below.trans t28 (Below.mono b34 zb0)
  have z41 := Below.size b34
  replace zb0 : w.heap.size ≤ w33.heap.size := by omega
  obtain ⟨a42, m43, c44, rfl⟩ := rdsL_shape o37
  have s45 : Below w33.heap.size w33 w33 := Below.refl _ _
  have za0 : w33.heap.size ≤ w33.heap.size := Nat.le_refl _
  go_wp2_with fail
  refine (toIntSS_o d_aA (Value.slice a_aA0 d_aA.length c_aA0) _ (rdsL.below h_aA0 t40) hb_aA).mono ?_
  rintro e w46 ⟨u48, S49, rfl, o50, r51, b47⟩
  have t53 := Below.trans t40 (Below.mono b47 zb0)
  have s54 := Below.trans s45 (Below.mono b47 za0)
  have z55 := Below.size b47
  replace zb0 : w.heap.size ≤ w46.heap.size := by omega
  replace za0 : w33.heap.size ≤ w46.heap.size := by omega
  obtain ⟨a56, m57, c58, rfl⟩ := ownL_shape o50
  have hs52 := fun q hq => (r51 q hq).2
  go_wp2_with fail
  refine (toIntSS_o d_aB (Value.slice a_aB0 d_aB.length c_aB0) _ (rdsL.below h_aB0 t53) hb_aB).mono ?_
  rintro e w59 ⟨u61, S62, rfl, o63, r64, b60⟩
  have t66 := Below.trans t53 (Below.mono b60 zb0)
  have s67 := Below.trans s54 (Below.mono b60 za0)
  replace o50 := ownL.keep o50 (fun q hq => Below.block b60 q (hs52 q hq))
  replace hs52 := fun q hq => Nat.lt_of_lt_of_le (hs52 q hq) (Below.size b60)
  have z68 := Below.size b60
  replace zb0 : w.heap.size ≤ w59.heap.size := by omega
  replace za0 : w33.heap.size ≤ w59.heap.size := by omega
  obtain ⟨a69, m70, c71, rfl⟩ := ownL_shape o63
  have hs65 := fun q hq => (r64 q hq).2
  go_wp2_with fail
  refine (impl_SetJoinW d_aA (Value.slice a56 m57 c58) d_aB (Value.slice a69 m70 c71) _ (ownL.rds o50) hb_aA (ownL.rds o63) hb_aB).mono ?_
  rintro e w72 ⟨u74, S75, rfl, o76, r77, hb79, b73⟩
  have t80 := Below.trans t66 (Below.mono b73 zb0)
  have s81 := Below.trans s67 (Below.mono b73 za0)
  replace o50 := ownL.keep o50 (fun q hq => Below.block b73 q (hs52 q hq))
  replace hs52 := fun q hq => Nat.lt_of_lt_of_le (hs52 q hq) (Below.size b73)
  replace o63 := ownL.keep o63 (fun q hq => Below.block b73 q (hs65 q hq))
  replace hs65 := fun q hq => Nat.lt_of_lt_of_le (hs65 q hq) (Below.size b73)
  have z82 := Below.size b73
  replace zb0 : w.heap.size ≤ w72.heap.size := by omega
  replace za0 : w33.heap.size ≤ w72.heap.size := by omega
  obtain ⟨a83, m84, c85, rfl⟩ := ownL_shape o76
  have hs78 := fun q hq => (r77 q hq).2
  go_wp2_with fail
  refine (eqIntSS_o _ _ _ _ (ownL.rds o76) (rdsL.below o37 s81)).mono ?_
  rintro e w86 ⟨rfl, b87⟩
  have t88 := Below.trans t80 (Below.mono b87 zb0)
  have s89 := Below.trans s81 (Below.mono b87 za0)
  replace o50 := ownL.keep o50 (fun q hq => Below.block b87 q (hs52 q hq))
  replace hs52 := fun q hq => Nat.lt_of_lt_of_le (hs52 q hq) (Below.size b87)
  replace o63 := ownL.keep o63 (fun q hq => Below.block b87 q (hs65 q hq))
  replace hs65 := fun q hq => Nat.lt_of_lt_of_le (hs65 q hq) (Below.size b87)
  replace o76 := ownL.keep o76 (fun q hq => Below.block b87 q (hs78 q hq))
  replace hs78 := fun q hq => Nat.lt_of_lt_of_le (hs78 q hq) (Below.size b87)
  have z90 := Below.size b87
  replace zb0 : w.heap.size ≤ w86.heap.size := by omega
  replace za0 : w33.heap.size ≤ w86.heap.size := by omega
  go_wp2_with fail
  refine (toIntSS_o d_aA (Value.slice a_aA0 d_aA.length c_aA0) _ (rdsL.below h_aA0 t88) hb_aA).mono ?_
  rintro e w91 ⟨u93, S94, rfl, o95, r96, b92⟩
  have t98 := Below.trans t88 (Below.mono b92 zb0)
  have s99 := Below.trans s89 (Below.mono b92 za0)
  replace o50 := ownL.keep o50 (fun q hq => Below.block b92 q (hs52 q hq))
  replace hs52 := fun q hq => Nat.lt_of_lt_of_le (hs52 q hq) (Below.size b92)
  replace o63 := ownL.keep o63 (fun q hq => Below.block b92 q (hs65 q hq))
  replace hs65 := fun q hq => Nat.lt_of_lt_of_le (hs65 q hq) (Below.size b92)
  replace o76 := ownL.keep o76 (fun q hq => Below.block b92 q (hs78 q hq))
  replace hs78 := fun q hq => Nat.lt_of_lt_of_le (hs78 q hq) (Below.size b92)
  have z100 := Below.size b92
  replace zb0 : w.heap.size ≤ w91.heap.size := by omega
  replace za0 : w33.heap.size ≤ w91.heap.size := by omega
  obtain ⟨a101, m102, c103, rfl⟩ := ownL_shape o95
  have hs97 := fun q hq => (r96 q hq).2
  go_wp2_with fail
  refine (eqIntSS_o _ _ _ _ (ownL.rds o50) (ownL.rds o95)).mono ?_
  rintro e w104 ⟨rfl, b105⟩
  have t106 := Below.trans t98 (Below.mono b105 zb0)
  have s107 := Below.trans s99 (Below.mono b105 za0)
  replace o50 := ownL.keep o50 (fun q hq => Below.block b105 q (hs52 q hq))
  replace hs52 := fun q hq => Nat.lt_of_lt_of_le (hs52 q hq) (Below.size b105)
  replace o63 := ownL.keep o63 (fun q hq => Below.block b105 q (hs65 q hq))
  replace hs65 := fun q hq => Nat.lt_of_lt_of_le (hs65 q hq) (Below.size b105)
  replace o76 := ownL.keep o76 (fun q hq => Below.block b105 q (hs78 q hq))
  replace hs78 := fun q hq => Nat.lt_of_lt_of_le (hs78 q hq) (Below.size b105)
  have z108 := Below.size b105
  replace zb0 : w.heap.size ≤ w104.heap.size := by omega
  replace za0 : w33.heap.size ≤ w104.heap.size := by omega
  go_wp2_with fail
  refine (toIntSS_o d_aB (Value.slice a_aB0 d_aB.length c_aB0) _ (rdsL.below h_aB0 t106) hb_aB).mono ?_
  rintro e w109 ⟨u111, S112, rfl, o113, r114, b110⟩
  have t116 := Below.trans t106 (Below.mono b110 zb0)
  have s117 := Below.trans s107 (Below.mono b110 za0)
  replace o50 := ownL.keep o50 (fun q hq => Below.block b110 q (hs52 q hq))
  replace hs52 := fun q hq => Nat.lt_of_lt_of_le (hs52 q hq) (Below.size b110)
  replace o63 := ownL.keep o63 (fun q hq => Below.block b110 q (hs65 q hq))
  replace hs65 := fun q hq => Nat.lt_of_lt_of_le (hs65 q hq) (Below.size b110)
  replace o76 := ownL.keep o76 (fun q hq => Below.block b110 q (hs78 q hq))
  replace hs78 := fun q hq => Nat.lt_of_lt_of_le (hs78 q hq) (Below.size b110)
  have z118 := Below.size b110
  replace zb0 : w.heap.size ≤ w109.heap.size := by omega
  replace za0 : w33.heap.size ≤ w109.heap.size := by omega
  obtain ⟨a119, m120, c121, rfl⟩ := ownL_shape o113
  have hs115 := fun q hq => (r114 q hq).2
  go_wp2_with fail
  refine (eqIntSS_o _ _ _ _ (ownL.rds o63) (ownL.rds o113)).mono ?_
  rintro e w122 ⟨rfl, b123⟩
  have t124 := Below.trans t116 (Below.mono b123 zb0)
  have s125 := Below.trans s117 (Below.mono b123 za0)
  replace o50 := ownL.keep o50 (fun q hq => Below.block b123 q (hs52 q hq))
  replace hs52 := fun q hq => Nat.lt_of_lt_of_le (hs52 q hq) (Below.size b123)
  replace o63 := ownL.keep o63 (fun q hq => Below.block b123 q (hs65 q hq))
  replace hs65 := fun q hq => Nat.lt_of_lt_of_le (hs65 q hq) (Below.size b123)
  replace o76 := ownL.keep o76 (fun q hq => Below.block b123 q (hs78 q hq))
  replace hs78 := fun q hq => Nat.lt_of_lt_of_le (hs78 q hq) (Below.size b123)
  have z126 := Below.size b123
  replace zb0 : w.heap.size ≤ w122.heap.size := by omega
  replace za0 : w33.heap.size ≤ w122.heap.size := by omega
  go_wp2_with fail
  have le130 := cntIntSS_le hb_aA
  refine (markIntSS_o S49 _ _ _ _ hs52  hb_aA (by omega) (by omega) o50).mono ?_
  rintro e w127 ⟨rfl, o129, C128⟩
  have t131 := below_chg t124 C128 zb0 (by intro q hx; have y := r51 q hx; have y1 := y.1; have y2 := y.2; omega)
  have s132 := below_chg s125 C128 za0 (by intro q hx; have y := r51 q hx; have y1 := y.1; have y2 := y.2; omega)
  replace hs52 := fun q hq => Nat.lt_of_lt_of_le (hs52 q hq) (ChgS.size C128)
  replace o63 := ownL.keep o63 (fun q hq => ChgS.block C128 q (hs65 q hq) (by intro hx; have x0 := r64 q hq; have x1 := x0.1; have x2 := x0.2; have y := r51 q hx; have y1 := y.1; have y2 := y.2; omega))
  replace hs65 := fun q hq => Nat.lt_of_lt_of_le (hs65 q hq) (ChgS.size C128)
  replace o76 := ownL.keep o76 (fun q hq => ChgS.block C128 q (hs78 q hq) (by intro hx; have x0 := r77 q hq; have x1 := x0.1; have x2 := x0.2; have y := r51 q hx; have y1 := y.1; have y2 := y.2; omega))
  replace hs78 := fun q hq => Nat.lt_of_lt_of_le (hs78 q hq) (ChgS.size C128)
  have z133 := ChgS.size C128
  replace zb0 : w.heap.size ≤ w127.heap.size := by omega
  replace za0 : w33.heap.size ≤ w127.heap.size := by omega
  go_wp2_with fail
  have le137 := cntIntSS_le hb_aB
  refine (markIntSS_o S62 _ _ _ _ hs65  hb_aB (by omega) (by omega) o63).mono ?_
  rintro e w134 ⟨rfl, o136, C135⟩
  have t138 := below_chg t131 C135 zb0 (by intro q hx; have y := r64 q hx; have y1 := y.1; have y2 := y.2; omega)
  have s139 := below_chg s132 C135 za0 (by intro q hx; have y := r64 q hx; have y1 := y.1; have y2 := y.2; omega)
  replace o129 := ownL.keep o129 (fun q hq => ChgS.block C135 q (hs52 q hq) (by intro hx; have x0 := r51 q hq; have x1 := x0.1; have x2 := x0.2; have y := r64 q hx; have y1 := y.1; have y2 := y.2; omega))
  replace hs52 := fun q hq => Nat.lt_of_lt_of_le (hs52 q hq) (ChgS.size C135)
  replace hs65 := fun q hq => Nat.lt_of_lt_of_le (hs65 q hq) (ChgS.size C135)
  replace o76 := ownL.keep o76 (fun q hq => ChgS.block C135 q (hs78 q hq) (by intro hx; have x0 := r77 q hq; have x1 := x0.1; have x2 := x0.2; have y := r64 q hx; have y1 := y.1; have y2 := y.2; omega))
  replace hs78 := fun q hq => Nat.lt_of_lt_of_le (hs78 q hq) (ChgS.size C135)
  have z140 := ChgS.size C135
  replace zb0 : w.heap.size ≤ w134.heap.size := by omega
  replace za0 : w33.heap.size ≤ w134.heap.size := by omega
  go_wp2_with fail
  refine (eqIntSS_o _ _ _ _ (ownL.rds o76) (rdsL.below o37 s139)).mono ?_
  rintro e w141 ⟨rfl, b142⟩
  have t143 := Below.trans t138 (Below.mono b142 zb0)
  have s144 := Below.trans s139 (Below.mono b142 za0)
  replace o129 := ownL.keep o129 (fun q hq => Below.block b142 q (hs52 q hq))
  replace hs52 := fun q hq => Nat.lt_of_lt_of_le (hs52 q hq) (Below.size b142)
  replace o136 := ownL.keep o136 (fun q hq => Below.block b142 q (hs65 q hq))
  replace hs65 := fun q hq => Nat.lt_of_lt_of_le (hs65 q hq) (Below.size b142)
  replace o76 := ownL.keep o76 (fun q hq => Below.block b142 q (hs78 q hq))
  replace hs78 := fun q hq => Nat.lt_of_lt_of_le (hs78 q hq) (Below.size b142)
  have z145 := Below.size b142
  replace zb0 : w.heap.size ≤ w141.heap.size := by omega
  replace za0 : w33.heap.size ≤ w141.heap.size := by omega
  go_wp2_with fail
  have le149 := cntIntSS_le hb79
  refine (markIntSS_o S75 _ _ _ _ hs78  hb79 (by omega) (by omega) o76).mono ?_
  rintro e w146 ⟨rfl, o148, C147⟩
  have t150 := below_chg t143 C147 zb0 (by intro q hx; have y := r77 q hx; have y1 := y.1; have y2 := y.2; omega)
  have s151 := below_chg s144 C147 za0 (by intro q hx; have y := r77 q hx; have y1 := y.1; have y2 := y.2; omega)
  replace o129 := ownL.keep o129 (fun q hq => ChgS.block C147 q (hs52 q hq) (by intro hx; have x0 := r51 q hq; have x1 := x0.1; have x2 := x0.2; have y := r77 q hx; have y1 := y.1; have y2 := y.2; omega))
  replace hs52 := fun q hq => Nat.lt_of_lt_of_le (hs52 q hq) (ChgS.size C147)
  replace o136 := ownL.keep o136 (fun q hq => ChgS.block C147 q (hs65 q hq) (by intro hx; have x0 := r64 q hq; have x1 := x0.1; have x2 := x0.2; have y := r77 q hx; have y1 := y.1; have y2 := y.2; omega))
  replace hs65 := fun q hq => Nat.lt_of_lt_of_le (hs65 q hq) (ChgS.size C147)
  replace hs78 := fun q hq => Nat.lt_of_lt_of_le (hs78 q hq) (ChgS.size C147)
  have z152 := ChgS.size C147
  replace zb0 : w.heap.size ≤ w146.heap.size := by omega
  replace za0 : w33.heap.size ≤ w146.heap.size := by omega
  go_wp2_with fail
  refine (heldIntSS_o _ _ _ _ hb79 (by omega) (by omega) (ownL.rds o148)).mono ?_
  rintro e w153 ⟨rfl, b154⟩
  have t155 := Below.trans t150 (Below.mono b154 zb0)
  have s156 := Below.trans s151 (Below.mono b154 za0)
  replace o129 := ownL.keep o129 (fun q hq => Below.block b154 q (hs52 q hq))
  replace hs52 := fun q hq => Nat.lt_of_lt_of_le (hs52 q hq) (Below.size b154)
  replace o136 := ownL.keep o136 (fun q hq => Below.block b154 q (hs65 q hq))
  replace hs65 := fun q hq => Nat.lt_of_lt_of_le (hs65 q hq) (Below.size b154)
  replace o148 := ownL.keep o148 (fun q hq => Below.block b154 q (hs78 q hq))
  replace hs78 := fun q hq => Nat.lt_of_lt_of_le (hs78 q hq) (Below.size b154)
  have z157 := Below.size b154
  replace zb0 : w.heap.size ≤ w153.heap.size := by omega
  replace za0 : w33.heap.size ≤ w153.heap.size := by omega
  go_wp2_with fail
  refine (toIntSS_o d_aA (Value.slice a_aA0 d_aA.length c_aA0) _ (rdsL.below h_aA0 t155) hb_aA).mono ?_
  rintro e w158 ⟨u160, S161, rfl, o162, r163, b159⟩
  have t165 := Below.trans t155 (Below.mono b159 zb0)
  have s166 := Below.trans s156 (Below.mono b159 za0)
  replace o129 := ownL.keep o129 (fun q hq => Below.block b159 q (hs52 q hq))
  replace hs52 := fun q hq => Nat.lt_of_lt_of_le (hs52 q hq) (Below.size b159)
  replace o136 := ownL.keep o136 (fun q hq => Below.block b159 q (hs65 q hq))
  replace hs65 := fun q hq => Nat.lt_of_lt_of_le (hs65 q hq) (Below.size b159)
  replace o148 := ownL.keep o148 (fun q hq => Below.block b159 q (hs78 q hq))
  replace hs78 := fun q hq => Nat.lt_of_lt_of_le (hs78 q hq) (Below.size b159)
  have z167 := Below.size b159
  replace zb0 : w.heap.size ≤ w158.heap.size := by omega
  replace za0 : w33.heap.size ≤ w158.heap.size := by omega
  obtain ⟨a168, m169, c170, rfl⟩ := ownL_shape o162
  have hs164 := fun q hq => (r163 q hq).2
  go_wp2_with fail
  refine (toIntSS_o d_aB (Value.slice a_aB0 d_aB.length c_aB0) _ (rdsL.below h_aB0 t165) hb_aB).mono ?_
  rintro e w171 ⟨u173, S174, rfl, o175, r176, b172⟩
  have t178 := Below.trans t165 (Below.mono b172 zb0)
  have s179 := Below.trans s166 (Below.mono b172 za0)
  replace o129 := ownL.keep o129 (fun q hq => Below.block b172 q (hs52 q hq))
  replace hs52 := fun q hq => Nat.lt_of_lt_of_le (hs52 q hq) (Below.size b172)
  replace o136 := ownL.keep o136 (fun q hq => Below.block b172 q (hs65 q hq))
  replace hs65 := fun q hq => Nat.lt_of_lt_of_le (hs65 q hq) (Below.size b172)
  replace o148 := ownL.keep o148 (fun q hq => Below.block b172 q (hs78 q hq))
  replace hs78 := fun q hq => Nat.lt_of_lt_of_le (hs78 q hq) (Below.size b172)
  replace o162 := ownL.keep o162 (fun q hq => Below.block b172 q (hs164 q hq))
  replace hs164 := fun q hq => Nat.lt_of_lt_of_le (hs164 q hq) (Below.size b172)
  have z180 := Below.size b172
  replace zb0 : w.heap.size ≤ w171.heap.size := by omega
  replace za0 : w33.heap.size ≤ w171.heap.size := by omega
  obtain ⟨a181, m182, c183, rfl⟩ := ownL_shape o175
  have hs177 := fun q hq => (r176 q hq).2
  go_wp2_with fail
  refine (impl_SetJoinW d_aA (Value.slice a168 m169 c170) d_aB (Value.slice a181 m182 c183) _ (ownL.rds o162) hb_aA (ownL.rds o175) hb_aB).mono ?_
  rintro e w184 ⟨u186, S187, rfl, o188, r189, hb191, b185⟩
  have t192 := Below.trans t178 (Below.mono b185 zb0)
  have s193 := Below.trans s179 (Below.mono b185 za0)
  replace o129 := ownL.keep o129 (fun q hq => Below.block b185 q (hs52 q hq))
  replace hs52 := fun q hq => Nat.lt_of_lt_of_le (hs52 q hq) (Below.size b185)
  replace o136 := ownL.keep o136 (fun q hq => Below.block b185 q (hs65 q hq))
  replace hs65 := fun q hq => Nat.lt_of_lt_of_le (hs65 q hq) (Below.size b185)
  replace o148 := ownL.keep o148 (fun q hq => Below.block b185 q (hs78 q hq))
  replace hs78 := fun q hq => Nat.lt_of_lt_of_le (hs78 q hq) (Below.size b185)
  have z194 := Below.size b185
  replace zb0 : w.heap.size ≤ w184.heap.size := by omega
  replace za0 : w33.heap.size ≤ w184.heap.size := by omega
  obtain ⟨a195, m196, c197, rfl⟩ := ownL_shape o188
  have hs190 := fun q hq => (r189 q hq).2
  go_wp2_with fail
  refine (eqIntSS_o _ _ _ _ (ownL.rds o188) (rdsL.below o37 s193)).mono ?_
  rintro e w198 ⟨rfl, b199⟩
  have t200 := Below.trans t192 (Below.mono b199 zb0)
  have s201 := Below.trans s193 (Below.mono b199 za0)
  replace o129 := ownL.keep o129 (fun q hq => Below.block b199 q (hs52 q hq))
  replace hs52 := fun q hq => Nat.lt_of_lt_of_le (hs52 q hq) (Below.size b199)
  replace o136 := ownL.keep o136 (fun q hq => Below.block b199 q (hs65 q hq))
  replace hs65 := fun q hq => Nat.lt_of_lt_of_le (hs65 q hq) (Below.size b199)
  replace o148 := ownL.keep o148 (fun q hq => Below.block b199 q (hs78 q hq))
  replace hs78 := fun q hq => Nat.lt_of_lt_of_le (hs78 q hq) (Below.size b199)
  replace o188 := ownL.keep o188 (fun q hq => Below.block b199 q (hs190 q hq))
  replace hs190 := fun q hq => Nat.lt_of_lt_of_le (hs190 q hq) (Below.size b199)
  have z202 := Below.size b199
  replace zb0 : w.heap.size ≤ w198.heap.size := by omega
  replace za0 : w33.heap.size ≤ w198.heap.size := by omega
  go_wp2_with fail
  refine (heldIntSS_o _ _ _ _ hb79 (by omega) (by omega) (ownL.rds o148)).mono ?_
  rintro e w203 ⟨rfl, b204⟩
  have t205 := Below.trans t200 (Below.mono b204 zb0)
  have s206 := Below.trans s201 (Below.mono b204 za0)
  replace o129 := ownL.keep o129 (fun q hq => Below.block b204 q (hs52 q hq))
  replace hs52 := fun q hq => Nat.lt_of_lt_of_le (hs52 q hq) (Below.size b204)
  replace o136 := ownL.keep o136 (fun q hq => Below.block b204 q (hs65 q hq))
  replace hs65 := fun q hq => Nat.lt_of_lt_of_le (hs65 q hq) (Below.size b204)
  replace o148 := ownL.keep o148 (fun q hq => Below.block b204 q (hs78 q hq))
  replace hs78 := fun q hq => Nat.lt_of_lt_of_le (hs78 q hq) (Below.size b204)
  replace o188 := ownL.keep o188 (fun q hq => Below.block b204 q (hs190 q hq))
  replace hs190 := fun q hq => Nat.lt_of_lt_of_le (hs190 q hq) (Below.size b204)
  have z207 := Below.size b204
  replace zb0 : w.heap.size ≤ w203.heap.size := by omega
  replace za0 : w33.heap.size ≤ w203.heap.size := by omega
  go_wp2_with fail
  try go_wp2
  go_ret
  exact ⟨rfl, hB0.trans (Below.mono t205 hB0.size)⟩

end Go.Proofs.Ytdgmbcmgjadoiaa
