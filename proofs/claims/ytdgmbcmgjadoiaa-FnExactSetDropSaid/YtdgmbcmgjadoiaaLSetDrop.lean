/- FnExactSetDrop, walked. -/
import Derived.Test.YtdgmbcmgjadoiaaW16d
import Derived.Test.YtdgmbcmgjadoiaaBx
import Derived.Test.YtdgmbcmgjadoiaaEnc4
import Derived.Test.YtdgmbcmgjadoiaaHop
import Derived.Test.YtdgmbcmgjadoiaaWr3
import Derived.Test.YtdgmbcmgjadoiaaKeep
import Derived.Deep.RegionHeld3
import Derived.Deep.Cut
import Derived.StillTailTactics
namespace Go.Proofs.Ytdgmbcmgjadoiaa
set_option maxRecDepth 100000
open Go.RowKit Go.Proofs Go.Own
set_option linter.unusedVariables false

set_option maxRecDepth 100000 in
set_option maxHeartbeats 8000000 in
theorem law_SetDrop (d_aS : List RowD) (v_aS0 : Value) (s_aX : Int) (w : World) (h_aS0 : rdsL w v_aS0 d_aS) (hi_aX : InI s_aX) :
    Calls Try.prog 8 #[v_aS0, (.int .i64 s_aX)] w fun e w' => e = .returned (.bool true) ∧ Below w.heap.size w w' := by
  obtain ⟨a_aS0, c_aS0, rfl, -, -, -⟩ := rdsL_open h_aS0
  have hB0 : Below w.heap.size w w := Below.refl _ _
  have tt0 : Below w.heap.size w w := Below.refl _ _
  have zb0 : w.heap.size ≤ w.heap.size := Nat.le_refl _
  go_enter Try.func8, Try.ntmps8
  go_wp2_with fail
  have hl0_aS : 0 ≤ (1048576 : Int) := by omega
  refine (szIntSS_o d_aS (Value.slice a_aS0 d_aS.length c_aS0) _ _ (by omega) (by omega) (rdsL.below h_aS0 tt0)).mono ?_
  rintro e w1 ⟨rfl, b2⟩
  have t3 := Below.trans tt0 (Below.mono b2 zb0)
  have z4 := Below.size b2
  replace zb0 : w.heap.size ≤ w1.heap.size := by omega
  by_cases big_aS : (1048576 : Int) < (szIntSSD d_aS : Int)
  · rw [szR_of, if_pos big_aS]
    go_wp2
    go_ret
    exact ⟨rfl, hB0.trans (Below.mono t3 hB0.size)⟩
  rw [szR_of, if_neg big_aS]
  go_wp2_with fail
  have hb_aS : IntSSB d_aS := by show _ ≤ 1048576; have := big_aS; unfold szIntSSD at *; omega
  refine (toIntSS_o d_aS (Value.slice a_aS0 d_aS.length c_aS0) _ (rdsL.below h_aS0 t3) hb_aS).mono ?_
  rintro e w5 ⟨u7, S8, rfl, o9, r10, b6⟩
  have t12 := Below.trans t3 (Below.mono b6 zb0)
  have z13 := Below.size b6
  replace zb0 : w.heap.size ≤ w5.heap.size := by omega
  obtain ⟨a14, m15, c16, rfl⟩ := ownL_shape o9
  have hs11 := fun q hq => (r10 q hq).2
  go_wp2_with fail
  refine (spec_SetDropW d_aS (Value.slice a14 m15 c16) s_aX _ (ownL.rds o9) hb_aS).mono ?_
  rintro e w17 ⟨u19, rfl, o21, b18⟩
  have t24 := Below.trans t12 (Below.mono b18 zb0)
  have z25 := Below.size b18
  replace zb0 : w.heap.size ≤ w17.heap.size := by omega
  obtain ⟨a26, m27, c28, rfl⟩ := rdsL_shape o21
  have s29 : Below w17.heap.size w17 w17 := Below.refl _ _
  have za0 : w17.heap.size ≤ w17.heap.size := Nat.le_refl _
  go_wp2_with fail
  refine (toIntSS_o d_aS (Value.slice a_aS0 d_aS.length c_aS0) _ (rdsL.below h_aS0 t24) hb_aS).mono ?_
  rintro e w30 ⟨u32, S33, rfl, o34, r35, b31⟩
  have t37 := Below.trans t24 (Below.mono b31 zb0)
  have s38 := Below.trans s29 (Below.mono b31 za0)
  have z39 := Below.size b31
  replace zb0 : w.heap.size ≤ w30.heap.size := by omega
  replace za0 : w17.heap.size ≤ w30.heap.size := by omega
  obtain ⟨a40, m41, c42, rfl⟩ := ownL_shape o34
  have hs36 := fun q hq => (r35 q hq).2
  go_wp2_with fail
  refine (impl_SetDropW d_aS (Value.slice a40 m41 c42) s_aX _ (ownL.rds o34) hb_aS).mono ?_
  rintro e w43 ⟨u45, S46, rfl, o47, r48, hb50, b44⟩
  have t51 := Below.trans t37 (Below.mono b44 zb0)
  have s52 := Below.trans s38 (Below.mono b44 za0)
  replace o34 := ownL.keep o34 (fun q hq => Below.block b44 q (hs36 q hq))
  replace hs36 := fun q hq => Nat.lt_of_lt_of_le (hs36 q hq) (Below.size b44)
  have z53 := Below.size b44
  replace zb0 : w.heap.size ≤ w43.heap.size := by omega
  replace za0 : w17.heap.size ≤ w43.heap.size := by omega
  obtain ⟨a54, m55, c56, rfl⟩ := ownL_shape o47
  have hs49 := fun q hq => (r48 q hq).2
  go_wp2_with fail
  refine (eqIntSS_o _ _ _ _ (ownL.rds o47) (rdsL.below o21 s52)).mono ?_
  rintro e w57 ⟨rfl, b58⟩
  have t59 := Below.trans t51 (Below.mono b58 zb0)
  have s60 := Below.trans s52 (Below.mono b58 za0)
  replace o34 := ownL.keep o34 (fun q hq => Below.block b58 q (hs36 q hq))
  replace hs36 := fun q hq => Nat.lt_of_lt_of_le (hs36 q hq) (Below.size b58)
  replace o47 := ownL.keep o47 (fun q hq => Below.block b58 q (hs49 q hq))
  replace hs49 := fun q hq => Nat.lt_of_lt_of_le (hs49 q hq) (Below.size b58)
  have z61 := Below.size b58
  replace zb0 : w.heap.size ≤ w57.heap.size := by omega
  replace za0 : w17.heap.size ≤ w57.heap.size := by omega
  go_wp2_with fail
  refine (toIntSS_o d_aS (Value.slice a_aS0 d_aS.length c_aS0) _ (rdsL.below h_aS0 t59) hb_aS).mono ?_
  rintro e w62 ⟨u64, S65, rfl, o66, r67, b63⟩
  have t69 := Below.trans t59 (Below.mono b63 zb0)
  have s70 := Below.trans s60 (Below.mono b63 za0)
  replace o34 := ownL.keep o34 (fun q hq => Below.block b63 q (hs36 q hq))
  replace hs36 := fun q hq => Nat.lt_of_lt_of_le (hs36 q hq) (Below.size b63)
  replace o47 := ownL.keep o47 (fun q hq => Below.block b63 q (hs49 q hq))
  replace hs49 := fun q hq => Nat.lt_of_lt_of_le (hs49 q hq) (Below.size b63)
  have z71 := Below.size b63
  replace zb0 : w.heap.size ≤ w62.heap.size := by omega
  replace za0 : w17.heap.size ≤ w62.heap.size := by omega
  obtain ⟨a72, m73, c74, rfl⟩ := ownL_shape o66
  have hs68 := fun q hq => (r67 q hq).2
  go_wp2_with fail
  refine (eqIntSS_o _ _ _ _ (ownL.rds o34) (ownL.rds o66)).mono ?_
  rintro e w75 ⟨rfl, b76⟩
  have t77 := Below.trans t69 (Below.mono b76 zb0)
  have s78 := Below.trans s70 (Below.mono b76 za0)
  replace o34 := ownL.keep o34 (fun q hq => Below.block b76 q (hs36 q hq))
  replace hs36 := fun q hq => Nat.lt_of_lt_of_le (hs36 q hq) (Below.size b76)
  replace o47 := ownL.keep o47 (fun q hq => Below.block b76 q (hs49 q hq))
  replace hs49 := fun q hq => Nat.lt_of_lt_of_le (hs49 q hq) (Below.size b76)
  have z79 := Below.size b76
  replace zb0 : w.heap.size ≤ w75.heap.size := by omega
  replace za0 : w17.heap.size ≤ w75.heap.size := by omega
  go_wp2_with fail
  have le83 := cntIntSS_le hb_aS
  refine (markIntSS_o S33 _ _ _ _ hs36  hb_aS (by omega) (by omega) o34).mono ?_
  rintro e w80 ⟨rfl, o82, C81⟩
  have t84 := below_chg t77 C81 zb0 (by intro q hx; have y := r35 q hx; have y1 := y.1; have y2 := y.2; omega)
  have s85 := below_chg s78 C81 za0 (by intro q hx; have y := r35 q hx; have y1 := y.1; have y2 := y.2; omega)
  replace hs36 := fun q hq => Nat.lt_of_lt_of_le (hs36 q hq) (ChgS.size C81)
  replace o47 := ownL.keep o47 (fun q hq => ChgS.block C81 q (hs49 q hq) (by intro hx; have x0 := r48 q hq; have x1 := x0.1; have x2 := x0.2; have y := r35 q hx; have y1 := y.1; have y2 := y.2; omega))
  replace hs49 := fun q hq => Nat.lt_of_lt_of_le (hs49 q hq) (ChgS.size C81)
  have z86 := ChgS.size C81
  replace zb0 : w.heap.size ≤ w80.heap.size := by omega
  replace za0 : w17.heap.size ≤ w80.heap.size := by omega
  go_wp2_with fail
  refine (eqIntSS_o _ _ _ _ (ownL.rds o47) (rdsL.below o21 s85)).mono ?_
  rintro e w87 ⟨rfl, b88⟩
  have t89 := Below.trans t84 (Below.mono b88 zb0)
  have s90 := Below.trans s85 (Below.mono b88 za0)
  replace o82 := ownL.keep o82 (fun q hq => Below.block b88 q (hs36 q hq))
  replace hs36 := fun q hq => Nat.lt_of_lt_of_le (hs36 q hq) (Below.size b88)
  replace o47 := ownL.keep o47 (fun q hq => Below.block b88 q (hs49 q hq))
  replace hs49 := fun q hq => Nat.lt_of_lt_of_le (hs49 q hq) (Below.size b88)
  have z91 := Below.size b88
  replace zb0 : w.heap.size ≤ w87.heap.size := by omega
  replace za0 : w17.heap.size ≤ w87.heap.size := by omega
  go_wp2_with fail
  have le95 := cntIntSS_le hb50
  refine (markIntSS_o S46 _ _ _ _ hs49  hb50 (by omega) (by omega) o47).mono ?_
  rintro e w92 ⟨rfl, o94, C93⟩
  have t96 := below_chg t89 C93 zb0 (by intro q hx; have y := r48 q hx; have y1 := y.1; have y2 := y.2; omega)
  have s97 := below_chg s90 C93 za0 (by intro q hx; have y := r48 q hx; have y1 := y.1; have y2 := y.2; omega)
  replace o82 := ownL.keep o82 (fun q hq => ChgS.block C93 q (hs36 q hq) (by intro hx; have x0 := r35 q hq; have x1 := x0.1; have x2 := x0.2; have y := r48 q hx; have y1 := y.1; have y2 := y.2; omega))
  replace hs36 := fun q hq => Nat.lt_of_lt_of_le (hs36 q hq) (ChgS.size C93)
  replace hs49 := fun q hq => Nat.lt_of_lt_of_le (hs49 q hq) (ChgS.size C93)
  have z98 := ChgS.size C93
  replace zb0 : w.heap.size ≤ w92.heap.size := by omega
  replace za0 : w17.heap.size ≤ w92.heap.size := by omega
  go_wp2_with fail
  refine (heldIntSS_o _ _ _ _ hb50 (by omega) (by omega) (ownL.rds o94)).mono ?_
  rintro e w99 ⟨rfl, b100⟩
  have t101 := Below.trans t96 (Below.mono b100 zb0)
  have s102 := Below.trans s97 (Below.mono b100 za0)
  replace o82 := ownL.keep o82 (fun q hq => Below.block b100 q (hs36 q hq))
  replace hs36 := fun q hq => Nat.lt_of_lt_of_le (hs36 q hq) (Below.size b100)
  replace o94 := ownL.keep o94 (fun q hq => Below.block b100 q (hs49 q hq))
  replace hs49 := fun q hq => Nat.lt_of_lt_of_le (hs49 q hq) (Below.size b100)
  have z103 := Below.size b100
  replace zb0 : w.heap.size ≤ w99.heap.size := by omega
  replace za0 : w17.heap.size ≤ w99.heap.size := by omega
  go_wp2_with fail
  refine (toIntSS_o d_aS (Value.slice a_aS0 d_aS.length c_aS0) _ (rdsL.below h_aS0 t101) hb_aS).mono ?_
  rintro e w104 ⟨u106, S107, rfl, o108, r109, b105⟩
  have t111 := Below.trans t101 (Below.mono b105 zb0)
  have s112 := Below.trans s102 (Below.mono b105 za0)
  replace o82 := ownL.keep o82 (fun q hq => Below.block b105 q (hs36 q hq))
  replace hs36 := fun q hq => Nat.lt_of_lt_of_le (hs36 q hq) (Below.size b105)
  replace o94 := ownL.keep o94 (fun q hq => Below.block b105 q (hs49 q hq))
  replace hs49 := fun q hq => Nat.lt_of_lt_of_le (hs49 q hq) (Below.size b105)
  have z113 := Below.size b105
  replace zb0 : w.heap.size ≤ w104.heap.size := by omega
  replace za0 : w17.heap.size ≤ w104.heap.size := by omega
  obtain ⟨a114, m115, c116, rfl⟩ := ownL_shape o108
  have hs110 := fun q hq => (r109 q hq).2
  go_wp2_with fail
  refine (impl_SetDropW d_aS (Value.slice a114 m115 c116) s_aX _ (ownL.rds o108) hb_aS).mono ?_
  rintro e w117 ⟨u119, S120, rfl, o121, r122, hb124, b118⟩
  have t125 := Below.trans t111 (Below.mono b118 zb0)
  have s126 := Below.trans s112 (Below.mono b118 za0)
  replace o82 := ownL.keep o82 (fun q hq => Below.block b118 q (hs36 q hq))
  replace hs36 := fun q hq => Nat.lt_of_lt_of_le (hs36 q hq) (Below.size b118)
  replace o94 := ownL.keep o94 (fun q hq => Below.block b118 q (hs49 q hq))
  replace hs49 := fun q hq => Nat.lt_of_lt_of_le (hs49 q hq) (Below.size b118)
  have z127 := Below.size b118
  replace zb0 : w.heap.size ≤ w117.heap.size := by omega
  replace za0 : w17.heap.size ≤ w117.heap.size := by omega
  obtain ⟨a128, m129, c130, rfl⟩ := ownL_shape o121
  have hs123 := fun q hq => (r122 q hq).2
  go_wp2_with fail
  refine (eqIntSS_o _ _ _ _ (ownL.rds o121) (rdsL.below o21 s126)).mono ?_
  rintro e w131 ⟨rfl, b132⟩
  have t133 := Below.trans t125 (Below.mono b132 zb0)
  have s134 := Below.trans s126 (Below.mono b132 za0)
  replace o82 := ownL.keep o82 (fun q hq => Below.block b132 q (hs36 q hq))
  replace hs36 := fun q hq => Nat.lt_of_lt_of_le (hs36 q hq) (Below.size b132)
  replace o94 := ownL.keep o94 (fun q hq => Below.block b132 q (hs49 q hq))
  replace hs49 := fun q hq => Nat.lt_of_lt_of_le (hs49 q hq) (Below.size b132)
  replace o121 := ownL.keep o121 (fun q hq => Below.block b132 q (hs123 q hq))
  replace hs123 := fun q hq => Nat.lt_of_lt_of_le (hs123 q hq) (Below.size b132)
  have z135 := Below.size b132
  replace zb0 : w.heap.size ≤ w131.heap.size := by omega
  replace za0 : w17.heap.size ≤ w131.heap.size := by omega
  go_wp2_with fail
  refine (heldIntSS_o _ _ _ _ hb50 (by omega) (by omega) (ownL.rds o94)).mono ?_
  rintro e w136 ⟨rfl, b137⟩
  have t138 := Below.trans t133 (Below.mono b137 zb0)
  have s139 := Below.trans s134 (Below.mono b137 za0)
  replace o82 := ownL.keep o82 (fun q hq => Below.block b137 q (hs36 q hq))
  replace hs36 := fun q hq => Nat.lt_of_lt_of_le (hs36 q hq) (Below.size b137)
  replace o94 := ownL.keep o94 (fun q hq => Below.block b137 q (hs49 q hq))
  replace hs49 := fun q hq => Nat.lt_of_lt_of_le (hs49 q hq) (Below.size b137)
  replace o121 := ownL.keep o121 (fun q hq => Below.block b137 q (hs123 q hq))
  replace hs123 := fun q hq => Nat.lt_of_lt_of_le (hs123 q hq) (Below.size b137)
  have z140 := Below.size b137
  replace zb0 : w.heap.size ≤ w136.heap.size := by omega
  replace za0 : w17.heap.size ≤ w136.heap.size := by omega
  go_wp2_with fail
  try go_wp2
  go_ret
  exact ⟨rfl, hB0.trans (Below.mono t138 hB0.size)⟩

end Go.Proofs.Ytdgmbcmgjadoiaa
