/- FnExactNewSet, walked. -/
import Derived.Test.YtdgmbcmgjadoiaaW16
import Derived.Test.YtdgmbcmgjadoiaaBx
import Derived.Test.YtdgmbcmgjadoiaaEnc4
import Derived.Test.YtdgmbcmgjadoiaaHop
import Derived.Test.YtdgmbcmgjadoiaaWr3
import Derived.Test.YtdgmbcmgjadoiaaKeep
import Derived.Deep.RegionHeld3
import Derived.Deep.Cut
import Derived.StillTailTactics
namespace Go.Proofs.Ytdgmbcmgjadoiaa
set_option maxRecDepth 100000
open Go.RowKit Go.Proofs Go.Own
set_option linter.unusedVariables false

set_option maxRecDepth 100000 in
set_option maxHeartbeats 8000000 in
theorem law_NewSet  (w : World)  :
    Calls Try.prog 5 #[] w fun e w' => e = .returned (.bool true) ∧ Below w.heap.size w w' := by
  have hB0 : Below w.heap.size w w := Below.refl _ _
  have tt0 : Below w.heap.size w w := Below.refl _ _
  have zb0 : w.heap.size ≤ w.heap.size := Nat.le_refl _
  go_enter Try.func5, Try.ntmps5
  go_wp2_with fail
  refine (spec_NewSetW  _ ).mono ?_
  rintro e w1 ⟨u3, rfl, o5, b2⟩
  have t8 := Below.trans tt0 (Below.mono b2 zb0)
  have z9 := Below.size b2
  replace zb0 : w.heap.size ≤ w1.heap.size := by omega
  obtain ⟨a10, m11, c12, rfl⟩ := rdsL_shape o5
  have s13 : Below w1.heap.size w1 w1 := Below.refl _ _
  have za0 : w1.heap.size ≤ w1.heap.size := Nat.le_refl _
  go_wp2_with fail
  refine (impl_NewSetW  _ ).mono ?_
  rintro e w14 ⟨u16, S17, rfl, o18, r19, hb21, b15⟩
  have t22 := Below.trans t8 (Below.mono b15 zb0)
  have s23 := Below.trans s13 (Below.mono b15 za0)
  have z24 := Below.size b15
  replace zb0 : w.heap.size ≤ w14.heap.size := by omega
  replace za0 : w1.heap.size ≤ w14.heap.size := by omega
  obtain ⟨a25, m26, c27, rfl⟩ := ownL_shape o18
  have hs20 := fun q hq => (r19 q hq).2
  go_wp2_with fail
  refine (eqIntSS_o _ _ _ _ (ownL.rds o18) (rdsL.below o5 s23)).mono ?_
  rintro e w28 ⟨rfl, b29⟩
  have t30 := Below.trans t22 (Below.mono b29 zb0)
  have s31 := Below.trans s23 (Below.mono b29 za0)
  replace o18 := ownL.keep o18 (fun q hq => Below.block b29 q (hs20 q hq))
  replace hs20 := fun q hq => Nat.lt_of_lt_of_le (hs20 q hq) (Below.size b29)
  have z32 := Below.size b29
  replace zb0 : w.heap.size ≤ w28.heap.size := by omega
  replace za0 : w1.heap.size ≤ w28.heap.size := by omega
  go_wp2_with fail
  have le36 := cntIntSS_le hb21
  refine (markIntSS_o S17 _ _ _ _ hs20  hb21 (by omega) (by omega) o18).mono ?_
  rintro e w33 ⟨rfl, o35, C34⟩
  have t37 := below_chg t30 C34 zb0 (by intro q hx; have y := r19 q hx; have y1 := y.1; have y2 := y.2; omega)
  have s38 := below_chg s31 C34 za0 (by intro q hx; have y := r19 q hx; have y1 := y.1; have y2 := y.2; omega)
  replace hs20 := fun q hq => Nat.lt_of_lt_of_le (hs20 q hq) (ChgS.size C34)
  have z39 := ChgS.size C34
  replace zb0 : w.heap.size ≤ w33.heap.size := by omega
  replace za0 : w1.heap.size ≤ w33.heap.size := by omega
  go_wp2_with fail
  refine (heldIntSS_o _ _ _ _ hb21 (by omega) (by omega) (ownL.rds o35)).mono ?_
  rintro e w40 ⟨rfl, b41⟩
  have t42 := Below.trans t37 (Below.mono b41 zb0)
  have s43 := Below.trans s38 (Below.mono b41 za0)
  replace o35 := ownL.keep o35 (fun q hq => Below.block b41 q (hs20 q hq))
  replace hs20 := fun q hq => Nat.lt_of_lt_of_le (hs20 q hq) (Below.size b41)
  have z44 := Below.size b41
  replace zb0 : w.heap.size ≤ w40.heap.size := by omega
  replace za0 : w1.heap.size ≤ w40.heap.size := by omega
  go_wp2_with fail
  refine (impl_NewSetW  _ ).mono ?_
  rintro e w45 ⟨u47, S48, rfl, o49, r50, hb52, b46⟩
  have t53 := Below.trans t42 (Below.mono b46 zb0)
  have s54 := Below.trans s43 (Below.mono b46 za0)
  replace o35 := ownL.keep o35 (fun q hq => Below.block b46 q (hs20 q hq))
  replace hs20 := fun q hq => Nat.lt_of_lt_of_le (hs20 q hq) (Below.size b46)
  have z55 := Below.size b46
  replace zb0 : w.heap.size ≤ w45.heap.size := by omega
  replace za0 : w1.heap.size ≤ w45.heap.size := by omega
  obtain ⟨a56, m57, c58, rfl⟩ := ownL_shape o49
  have hs51 := fun q hq => (r50 q hq).2
  go_wp2_with fail
  refine (eqIntSS_o _ _ _ _ (ownL.rds o49) (rdsL.below o5 s54)).mono ?_
  rintro e w59 ⟨rfl, b60⟩
  have t61 := Below.trans t53 (Below.mono b60 zb0)
  have s62 := Below.trans s54 (Below.mono b60 za0)
  replace o35 := ownL.keep o35 (fun q hq => Below.block b60 q (hs20 q hq))
  replace hs20 := fun q hq => Nat.lt_of_lt_of_le (hs20 q hq) (Below.size b60)
  replace o49 := ownL.keep o49 (fun q hq => Below.block b60 q (hs51 q hq))
  replace hs51 := fun q hq => Nat.lt_of_lt_of_le (hs51 q hq) (Below.size b60)
  have z63 := Below.size b60
  replace zb0 : w.heap.size ≤ w59.heap.size := by omega
  replace za0 : w1.heap.size ≤ w59.heap.size := by omega
  go_wp2_with fail
  refine (heldIntSS_o _ _ _ _ hb21 (by omega) (by omega) (ownL.rds o35)).mono ?_
  rintro e w64 ⟨rfl, b65⟩
  have t66 := Below.trans t61 (Below.mono b65 zb0)
  have s67 := Below.trans s62 (Below.mono b65 za0)
  replace o35 := ownL.keep o35 (fun q hq => Below.block b65 q (hs20 q hq))
  replace hs20 := fun q hq => Nat.lt_of_lt_of_le (hs20 q hq) (Below.size b65)
  replace o49 := ownL.keep o49 (fun q hq => Below.block b65 q (hs51 q hq))
  replace hs51 := fun q hq => Nat.lt_of_lt_of_le (hs51 q hq) (Below.size b65)
  have z68 := Below.size b65
  replace zb0 : w.heap.size ≤ w64.heap.size := by omega
  replace za0 : w1.heap.size ≤ w64.heap.size := by omega
  go_wp2_with fail
  try go_wp2
  go_ret
  exact ⟨rfl, hB0.trans (Below.mono t66 hB0.size)⟩

end Go.Proofs.Ytdgmbcmgjadoiaa
