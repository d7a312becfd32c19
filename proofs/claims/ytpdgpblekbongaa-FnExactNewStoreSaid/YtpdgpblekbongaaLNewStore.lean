/- FnExactNewStore, walked. -/
import Derived.Test.YtpdgpblekbongaaW7
import Derived.Test.YtpdgpblekbongaaBx
import Derived.Test.YtpdgpblekbongaaEnc4
import Derived.Test.YtpdgpblekbongaaKeep
import Derived.Deep.RegionHeld3
import Derived.StillTailTactics
namespace Go.Proofs.Ytpdgpblekbongaa
set_option maxRecDepth 100000
open Go.RowKit Go.Proofs Go.Own
set_option linter.unusedVariables false

set_option maxRecDepth 100000 in
set_option maxHeartbeats 8000000 in
theorem law_NewStore (d_aValues : List Int) (v_aValues0 : Value) (w : World) (h_aValues0 : rdsL w v_aValues0 d_aValues) :
    Calls Try.prog 4 #[v_aValues0] w fun e w' => e = .returned (.bool true) ∧ Below w.heap.size w w' := by
  obtain ⟨a_aValues0, c_aValues0, rfl, -, -, -⟩ := rdsL_open h_aValues0
  have hB0 : Below w.heap.size w w := Below.refl _ _
  have tt0 : Below w.heap.size w w := Below.refl _ _
  have zb0 : w.heap.size ≤ w.heap.size := Nat.le_refl _
  go_enter Try.func4, Try.ntmps4
  have hlen_aValues : d_aValues.length ≤ 9223372036854775807 := by obtain ⟨_, _, _, z1, z2, _⟩ := rdsL_open h_aValues0; omega
  by_cases big_aValues : (1048576 : Int) < (d_aValues.length : Int)
  · go_wp2
    go_ret
    exact ⟨rfl, hB0.trans (Below.mono tt0 hB0.size)⟩
  have hb_aValues : IntSB d_aValues := by show _ ≤ 1048576; omega
  go_wp2_with fail
  refine (toIntS_o d_aValues (Value.slice a_aValues0 d_aValues.length c_aValues0) _ (rdsL.below h_aValues0 tt0) hb_aValues).mono ?_
  rintro e w1 ⟨u3, S4, rfl, o5, r6, b2⟩
  have t8 := Below.trans tt0 (Below.mono b2 zb0)
  have z9 := Below.size b2
  replace zb0 : w.heap.size ≤ w1.heap.size := by omega
  obtain ⟨a10, m11, c12, rfl⟩ := ownL_shape o5
  have hs7 := fun q hq => (r6 q hq).2
  go_wp2_with fail
  refine (spec_NewStoreW d_aValues (Value.slice a10 m11 c12) _ (ownL.rds o5) hb_aValues).mono ?_
  rintro e w13 ⟨u15, u20, rfl, o17, o22, b14⟩
  have t25 := Below.trans t8 (Below.mono b14 zb0)
  have z26 := Below.size b14
  replace zb0 : w.heap.size ≤ w13.heap.size := by omega
  obtain ⟨a27, m28, c29, rfl⟩ := rdsL_shape o17
  obtain ⟨a30, m31, c32, rfl⟩ := rdsL_shape o22
  have s33 : Below w13.heap.size w13 w13 := Below.refl _ _
  have za0 : w13.heap.size ≤ w13.heap.size := Nat.le_refl _
  obtain ⟨X34, hX35⟩ : ∃ X, w13.alloc (.cells #[(Value.slice a27 m28 c29), (Value.slice a30 m31 c32)] 31) = X := ⟨_, rfl⟩
  have bX36 : Below w13.heap.size w13 X34 := by rw [← hX35]; exact (Below.refl _ _).alloc (Nat.le_refl _) _
  have zX34 : X34.heap.size = w13.heap.size + 1 := by rw [← hX35]; simp
  have t37 := Below.trans t25 (Below.mono bX36 zb0)
  have s38 := Below.trans s33 (Below.mono bX36 za0)
  have z39 := Below.size bX36
  replace zb0 : w.heap.size ≤ X34.heap.size := by omega
  replace za0 : w13.heap.size ≤ X34.heap.size := by omega
  have bx40 : Box X34 (w13.heap.size) [(Value.slice a27 m28 c29), (Value.slice a30 m31 c32)] := by rw [← hX35]; exact Box.alloc _ _ _
  have k41 : X34.cell? ⟨w13.heap.size, 0, none⟩ = some ((Value.slice a27 m28 c29)) := bx40.2 0 (by simp)
  have k42 : X34.cell? ⟨w13.heap.size, 1, none⟩ = some ((Value.slice a30 m31 c32)) := bx40.2 1 (by simp)
  go_wp2_with fail
  clear k41 k42 hX35
  refine (toIntS_o d_aValues (Value.slice a_aValues0 d_aValues.length c_aValues0) _ (rdsL.below h_aValues0 t37) hb_aValues).mono ?_
  rintro e w43 ⟨u45, S46, rfl, o47, r48, b44⟩
  have t50 := Below.trans t37 (Below.mono b44 zb0)
  have s51 := Below.trans s38 (Below.mono b44 za0)
  replace bx40 := Box.below bx40 b44
  have z52 := Below.size b44
  replace zb0 : w.heap.size ≤ w43.heap.size := by omega
  replace za0 : w13.heap.size ≤ w43.heap.size := by omega
  obtain ⟨a53, m54, c55, rfl⟩ := ownL_shape o47
  have hs49 := fun q hq => (r48 q hq).2
  have k56 : w43.cell? ⟨w13.heap.size, 0, none⟩ = some ((Value.slice a27 m28 c29)) := bx40.2 0 (by simp)
  have k57 : w43.cell? ⟨w13.heap.size, 1, none⟩ = some ((Value.slice a30 m31 c32)) := bx40.2 1 (by simp)
  go_wp2_with fail
  clear k56 k57
  refine (impl_NewStoreW d_aValues (Value.slice a53 m54 c55) _ (ownL.rds o47) hb_aValues).mono ?_
  rintro e w58 ⟨u60, u65, S61, S66, rfl, o62, o67, r63, r68, dj70, hb71, b59⟩
  have t72 := Below.trans t50 (Below.mono b59 zb0)
  have s73 := Below.trans s51 (Below.mono b59 za0)
  replace o47 := ownL.keep o47 (fun q hq => Below.block b59 q (hs49 q hq))
  replace hs49 := fun q hq => Nat.lt_of_lt_of_le (hs49 q hq) (Below.size b59)
  replace bx40 := Box.below bx40 b59
  have z74 := Below.size b59
  replace zb0 : w.heap.size ≤ w58.heap.size := by omega
  replace za0 : w13.heap.size ≤ w58.heap.size := by omega
  obtain ⟨a75, m76, c77, rfl⟩ := ownL_shape o62
  have hs64 := fun q hq => (r63 q hq).2
  obtain ⟨a78, m79, c80, rfl⟩ := ownL_shape o67
  have hs69 := fun q hq => (r68 q hq).2
  have k81 : w58.cell? ⟨w13.heap.size, 0, none⟩ = some ((Value.slice a27 m28 c29)) := bx40.2 0 (by simp)
  have k82 : w58.cell? ⟨w13.heap.size, 1, none⟩ = some ((Value.slice a30 m31 c32)) := bx40.2 1 (by simp)
  obtain ⟨X83, hX84⟩ : ∃ X, w58.alloc (.cells #[(Value.slice a75 m76 c77), (Value.slice a78 m79 c80)] 31) = X := ⟨_, rfl⟩
  have bX85 : Below w58.heap.size w58 X83 := by rw [← hX84]; exact (Below.refl _ _).alloc (Nat.le_refl _) _
  have zX83 : X83.heap.size = w58.heap.size + 1 := by rw [← hX84]; simp
  have t86 := Below.trans t72 (Below.mono bX85 zb0)
  have s87 := Below.trans s73 (Below.mono bX85 za0)
  replace o47 := ownL.keep o47 (fun q hq => Below.block bX85 q (hs49 q hq))
  replace hs49 := fun q hq => Nat.lt_of_lt_of_le (hs49 q hq) (Below.size bX85)
  replace o62 := ownL.keep o62 (fun q hq => Below.block bX85 q (hs64 q hq))
  replace hs64 := fun q hq => Nat.lt_of_lt_of_le (hs64 q hq) (Below.size bX85)
  replace o67 := ownL.keep o67 (fun q hq => Below.block bX85 q (hs69 q hq))
  replace hs69 := fun q hq => Nat.lt_of_lt_of_le (hs69 q hq) (Below.size bX85)
  replace bx40 := Box.below bx40 bX85
  have z88 := Below.size bX85
  replace zb0 : w.heap.size ≤ X83.heap.size := by omega
  replace za0 : w13.heap.size ≤ X83.heap.size := by omega
  have bx89 : Box X83 (w58.heap.size) [(Value.slice a75 m76 c77), (Value.slice a78 m79 c80)] := by rw [← hX84]; exact Box.alloc _ _ _
  have k90 : X83.cell? ⟨w13.heap.size, 0, none⟩ = some ((Value.slice a27 m28 c29)) := bx40.2 0 (by simp)
  have k91 : X83.cell? ⟨w13.heap.size, 1, none⟩ = some ((Value.slice a30 m31 c32)) := bx40.2 1 (by simp)
  have k92 : X83.cell? ⟨w58.heap.size, 0, none⟩ = some ((Value.slice a75 m76 c77)) := bx89.2 0 (by simp)
  have k93 : X83.cell? ⟨w58.heap.size, 1, none⟩ = some ((Value.slice a78 m79 c80)) := bx89.2 1 (by simp)
  go_wp2_with fail
  clear k81 k82 k90 k91 k92 k93 hX84
  refine (eqStore_o _ _ _ _ _ _ (ownL.rds o62) (ownL.rds o67) (rdsL.below o17 s87) (rdsL.below o22 s87)).mono ?_
  rintro e w94 ⟨rfl, b95⟩
  have t96 := Below.trans t86 (Below.mono b95 zb0)
  have s97 := Below.trans s87 (Below.mono b95 za0)
  replace o47 := ownL.keep o47 (fun q hq => Below.block b95 q (hs49 q hq))
  replace hs49 := fun q hq => Nat.lt_of_lt_of_le (hs49 q hq) (Below.size b95)
  replace o62 := ownL.keep o62 (fun q hq => Below.block b95 q (hs64 q hq))
  replace hs64 := fun q hq => Nat.lt_of_lt_of_le (hs64 q hq) (Below.size b95)
  replace o67 := ownL.keep o67 (fun q hq => Below.block b95 q (hs69 q hq))
  replace hs69 := fun q hq => Nat.lt_of_lt_of_le (hs69 q hq) (Below.size b95)
  replace bx40 := Box.below bx40 b95
  replace bx89 := Box.below bx89 b95
  have z98 := Below.size b95
  replace zb0 : w.heap.size ≤ w94.heap.size := by omega
  replace za0 : w13.heap.size ≤ w94.heap.size := by omega
  have k99 : w94.cell? ⟨w13.heap.size, 0, none⟩ = some ((Value.slice a27 m28 c29)) := bx40.2 0 (by simp)
  have k100 : w94.cell? ⟨w13.heap.size, 1, none⟩ = some ((Value.slice a30 m31 c32)) := bx40.2 1 (by simp)
  have k101 : w94.cell? ⟨w58.heap.size, 0, none⟩ = some ((Value.slice a75 m76 c77)) := bx89.2 0 (by simp)
  have k102 : w94.cell? ⟨w58.heap.size, 1, none⟩ = some ((Value.slice a78 m79 c80)) := bx89.2 1 (by simp)
  go_wp2_with fail
  clear k99 k100 k101 k102
  refine (toIntS_o d_aValues (Value.slice a_aValues0 d_aValues.length c_aValues0) _ (rdsL.below h_aValues0 t96) hb_aValues).mono ?_
  rintro e w103 ⟨u105, S106, rfl, o107, r108, b104⟩
  have t110 := Below.trans t96 (Below.mono b104 zb0)
  have s111 := Below.trans s97 (Below.mono b104 za0)
  replace o47 := ownL.keep o47 (fun q hq => Below.block b104 q (hs49 q hq))
  replace hs49 := fun q hq => Nat.lt_of_lt_of_le (hs49 q hq) (Below.size b104)
  replace o62 := ownL.keep o62 (fun q hq => Below.block b104 q (hs64 q hq))
  replace hs64 := fun q hq => Nat.lt_of_lt_of_le (hs64 q hq) (Below.size b104)
  replace o67 := ownL.keep o67 (fun q hq => Below.block b104 q (hs69 q hq))
  replace hs69 := fun q hq => Nat.lt_of_lt_of_le (hs69 q hq) (Below.size b104)
  replace bx40 := Box.below bx40 b104
  replace bx89 := Box.below bx89 b104
  have z112 := Below.size b104
  replace zb0 : w.heap.size ≤ w103.heap.size := by omega
  replace za0 : w13.heap.size ≤ w103.heap.size := by omega
  obtain ⟨a113, m114, c115, rfl⟩ := ownL_shape o107
  have hs109 := fun q hq => (r108 q hq).2
  have k116 : w103.cell? ⟨w13.heap.size, 0, none⟩ = some ((Value.slice a27 m28 c29)) := bx40.2 0 (by simp)
  have k117 : w103.cell? ⟨w13.heap.size, 1, none⟩ = some ((Value.slice a30 m31 c32)) := bx40.2 1 (by simp)
  have k118 : w103.cell? ⟨w58.heap.size, 0, none⟩ = some ((Value.slice a75 m76 c77)) := bx89.2 0 (by simp)
  have k119 : w103.cell? ⟨w58.heap.size, 1, none⟩ = some ((Value.slice a78 m79 c80)) := bx89.2 1 (by simp)
  go_wp2_with fail
  clear k116 k117 k118 k119
  refine (eqIntS_o _ _ _ _ (ownL.rds o47) (ownL.rds o107)).mono ?_
  rintro e w120 ⟨rfl, b121⟩
  have t122 := Below.trans t110 (Below.mono b121 zb0)
  have s123 := Below.trans s111 (Below.mono b121 za0)
  replace o47 := ownL.keep o47 (fun q hq => Below.block b121 q (hs49 q hq))
  replace hs49 := fun q hq => Nat.lt_of_lt_of_le (hs49 q hq) (Below.size b121)
  replace o62 := ownL.keep o62 (fun q hq => Below.block b121 q (hs64 q hq))
  replace hs64 := fun q hq => Nat.lt_of_lt_of_le (hs64 q hq) (Below.size b121)
  replace o67 := ownL.keep o67 (fun q hq => Below.block b121 q (hs69 q hq))
  replace hs69 := fun q hq => Nat.lt_of_lt_of_le (hs69 q hq) (Below.size b121)
  replace bx40 := Box.below bx40 b121
  replace bx89 := Box.below bx89 b121
  have z124 := Below.size b121
  replace zb0 : w.heap.size ≤ w120.heap.size := by omega
  replace za0 : w13.heap.size ≤ w120.heap.size := by omega
  have k125 : w120.cell? ⟨w13.heap.size, 0, none⟩ = some ((Value.slice a27 m28 c29)) := bx40.2 0 (by simp)
  have k126 : w120.cell? ⟨w13.heap.size, 1, none⟩ = some ((Value.slice a30 m31 c32)) := bx40.2 1 (by simp)
  have k127 : w120.cell? ⟨w58.heap.size, 0, none⟩ = some ((Value.slice a75 m76 c77)) := bx89.2 0 (by simp)
  have k128 : w120.cell? ⟨w58.heap.size, 1, none⟩ = some ((Value.slice a78 m79 c80)) := bx89.2 1 (by simp)
  go_wp2_with fail
  clear k125 k126 k127 k128
  have le132 := cntIntS_le hb_aValues
  refine (markIntS_o S46 _ _ _ _ hs49  hb_aValues (by omega) (by omega) o47).mono ?_
  rintro e w129 ⟨rfl, o131, C130⟩
  have t133 := below_chg t122 C130 zb0 (by intro q hx; have y := r48 q hx; have y1 := y.1; have y2 := y.2; omega)
  have s134 := below_chg s123 C130 za0 (by intro q hx; have y := r48 q hx; have y1 := y.1; have y2 := y.2; omega)
  replace hs49 := fun q hq => Nat.lt_of_lt_of_le (hs49 q hq) (ChgS.size C130)
  replace o62 := ownL.keep o62 (fun q hq => ChgS.block C130 q (hs64 q hq) (by intro hx; have x0 := r63 q hq; have x1 := x0.1; have x2 := x0.2; have y := r48 q hx; have y1 := y.1; have y2 := y.2; omega))
  replace hs64 := fun q hq => Nat.lt_of_lt_of_le (hs64 q hq) (ChgS.size C130)
  replace o67 := ownL.keep o67 (fun q hq => ChgS.block C130 q (hs69 q hq) (by intro hx; have x0 := r68 q hq; have x1 := x0.1; have x2 := x0.2; have y := r48 q hx; have y1 := y.1; have y2 := y.2; omega))
  replace hs69 := fun q hq => Nat.lt_of_lt_of_le (hs69 q hq) (ChgS.size C130)
  replace bx40 := Box.chg bx40 C130 (by intro hx; have y := r48 _ hx; have y1 := y.1; have y2 := y.2; omega)
  replace bx89 := Box.chg bx89 C130 (by intro hx; have y := r48 _ hx; have y1 := y.1; have y2 := y.2; omega)
  have z135 := ChgS.size C130
  replace zb0 : w.heap.size ≤ w129.heap.size := by omega
  replace za0 : w13.heap.size ≤ w129.heap.size := by omega
  have k136 : w129.cell? ⟨w13.heap.size, 0, none⟩ = some ((Value.slice a27 m28 c29)) := bx40.2 0 (by simp)
  have k137 : w129.cell? ⟨w13.heap.size, 1, none⟩ = some ((Value.slice a30 m31 c32)) := bx40.2 1 (by simp)
  have k138 : w129.cell? ⟨w58.heap.size, 0, none⟩ = some ((Value.slice a75 m76 c77)) := bx89.2 0 (by simp)
  have k139 : w129.cell? ⟨w58.heap.size, 1, none⟩ = some ((Value.slice a78 m79 c80)) := bx89.2 1 (by simp)
  go_wp2_with fail
  clear k136 k137 k138 k139
  refine (eqStore_o _ _ _ _ _ _ (ownL.rds o62) (ownL.rds o67) (rdsL.below o17 s134) (rdsL.below o22 s134)).mono ?_
  rintro e w140 ⟨rfl, b141⟩
  have t142 := Below.trans t133 (Below.mono b141 zb0)
  have s143 := Below.trans s134 (Below.mono b141 za0)
  replace o131 := ownL.keep o131 (fun q hq => Below.block b141 q (hs49 q hq))
  replace hs49 := fun q hq => Nat.lt_of_lt_of_le (hs49 q hq) (Below.size b141)
  replace o62 := ownL.keep o62 (fun q hq => Below.block b141 q (hs64 q hq))
  replace hs64 := fun q hq => Nat.lt_of_lt_of_le (hs64 q hq) (Below.size b141)
  replace o67 := ownL.keep o67 (fun q hq => Below.block b141 q (hs69 q hq))
  replace hs69 := fun q hq => Nat.lt_of_lt_of_le (hs69 q hq) (Below.size b141)
  replace bx40 := Box.below bx40 b141
  replace bx89 := Box.below bx89 b141
  have z144 := Below.size b141
  replace zb0 : w.heap.size ≤ w140.heap.size := by omega
  replace za0 : w13.heap.size ≤ w140.heap.size := by omega
  have k145 : w140.cell? ⟨w13.heap.size, 0, none⟩ = some ((Value.slice a27 m28 c29)) := bx40.2 0 (by simp)
  have k146 : w140.cell? ⟨w13.heap.size, 1, none⟩ = some ((Value.slice a30 m31 c32)) := bx40.2 1 (by simp)
  have k147 : w140.cell? ⟨w58.heap.size, 0, none⟩ = some ((Value.slice a75 m76 c77)) := bx89.2 0 (by simp)
  have k148 : w140.cell? ⟨w58.heap.size, 1, none⟩ = some ((Value.slice a78 m79 c80)) := bx89.2 1 (by simp)
  go_wp2_with fail
  clear k145 k146 k147 k148
  have le153 := cntStore_le hb71
  refine (markStore_o S61 S66 _ _ _ _ _ hs64 hs69 dj70 hb71 (by omega) (by omega) o62 o67).mono ?_
  rintro e w149 ⟨rfl, o151, o152, C150⟩
  have t154 := below_chg t142 C150 zb0 (by intro q hx; rcases hx with hx | hx; (have y := r63 q hx; have y1 := y.1; have y2 := y.2; omega); (have y := r68 q hx; have y1 := y.1; have y2 := y.2; omega))
  have s155 := below_chg s143 C150 za0 (by intro q hx; rcases hx with hx | hx; (have y := r63 q hx; have y1 := y.1; have y2 := y.2; omega); (have y := r68 q hx; have y1 := y.1; have y2 := y.2; omega))
  replace o131 := ownL.keep o131 (fun q hq => ChgS.block C150 q (hs49 q hq) (by intro hx; have x0 := r48 q hq; have x1 := x0.1; have x2 := x0.2; rcases hx with hx | hx; (have y := r63 q hx; have y1 := y.1; have y2 := y.2; omega); (have y := r68 q hx; have y1 := y.1; have y2 := y.2; omega)))
  replace hs49 := fun q hq => Nat.lt_of_lt_of_le (hs49 q hq) (ChgS.size C150)
  replace hs64 := fun q hq => Nat.lt_of_lt_of_le (hs64 q hq) (ChgS.size C150)
  replace hs69 := fun q hq => Nat.lt_of_lt_of_le (hs69 q hq) (ChgS.size C150)
  replace bx40 := Box.chg bx40 C150 (by intro hx; rcases hx with hx | hx; (have y := r63 _ hx; have y1 := y.1; have y2 := y.2; omega); (have y := r68 _ hx; have y1 := y.1; have y2 := y.2; omega))
  replace bx89 := Box.chg bx89 C150 (by intro hx; rcases hx with hx | hx; (have y := r63 _ hx; have y1 := y.1; have y2 := y.2; omega); (have y := r68 _ hx; have y1 := y.1; have y2 := y.2; omega))
  have z156 := ChgS.size C150
  replace zb0 : w.heap.size ≤ w149.heap.size := by omega
  replace za0 : w13.heap.size ≤ w149.heap.size := by omega
  have k157 : w149.cell? ⟨w13.heap.size, 0, none⟩ = some ((Value.slice a27 m28 c29)) := bx40.2 0 (by simp)
  have k158 : w149.cell? ⟨w13.heap.size, 1, none⟩ = some ((Value.slice a30 m31 c32)) := bx40.2 1 (by simp)
  have k159 : w149.cell? ⟨w58.heap.size, 0, none⟩ = some ((Value.slice a75 m76 c77)) := bx89.2 0 (by simp)
  have k160 : w149.cell? ⟨w58.heap.size, 1, none⟩ = some ((Value.slice a78 m79 c80)) := bx89.2 1 (by simp)
  go_wp2_with fail
  clear k157 k158 k159 k160
  refine (heldStore_o _ _ _ _ _ hb71 (by omega) (by omega) (ownL.rds o151) (ownL.rds o152)).mono ?_
  rintro e w161 ⟨rfl, b162⟩
  have t163 := Below.trans t154 (Below.mono b162 zb0)
  have s164 := Below.trans s155 (Below.mono b162 za0)
  replace o131 := ownL.keep o131 (fun q hq => Below.block b162 q (hs49 q hq))
  replace hs49 := fun q hq => Nat.lt_of_lt_of_le (hs49 q hq) (Below.size b162)
  replace o151 := ownL.keep o151 (fun q hq => Below.block b162 q (hs64 q hq))
  replace hs64 := fun q hq => Nat.lt_of_lt_of_le (hs64 q hq) (Below.size b162)
  replace o152 := ownL.keep o152 (fun q hq => Below.block b162 q (hs69 q hq))
  replace hs69 := fun q hq => Nat.lt_of_lt_of_le (hs69 q hq) (Below.size b162)
  replace bx40 := Box.below bx40 b162
  replace bx89 := Box.below bx89 b162
  have z165 := Below.size b162
  replace zb0 : w.heap.size ≤ w161.heap.size := by omega
  replace za0 : w13.heap.size ≤ w161.heap.size := by omega
  have k166 : w161.cell? ⟨w13.heap.size, 0, none⟩ = some ((Value.slice a27 m28 c29)) := bx40.2 0 (by simp)
  have k167 : w161.cell? ⟨w13.heap.size, 1, none⟩ = some ((Value.slice a30 m31 c32)) := bx40.2 1 (by simp)
  have k168 : w161.cell? ⟨w58.heap.size, 0, none⟩ = some ((Value.slice a75 m76 c77)) := bx89.2 0 (by simp)
  have k169 : w161.cell? ⟨w58.heap.size, 1, none⟩ = some ((Value.slice a78 m79 c80)) := bx89.2 1 (by simp)
  go_wp2_with fail
  clear k166 k167 k168 k169
  refine (toIntS_o d_aValues (Value.slice a_aValues0 d_aValues.length c_aValues0) _ (rdsL.below h_aValues0 t163) hb_aValues).mono ?_
  rintro e w170 ⟨u172, S173, rfl, o174, r175, b171⟩
  have t177 := Below.trans t163 (Below.mono b171 zb0)
  have s178 := Below.trans s164 (Below.mono b171 za0)
  replace o131 := ownL.keep o131 (fun q hq => Below.block b171 q (hs49 q hq))
  replace hs49 := fun q hq => Nat.lt_of_lt_of_le (hs49 q hq) (Below.size b171)
  replace o151 := ownL.keep o151 (fun q hq => Below.block b171 q (hs64 q hq))
  replace hs64 := fun q hq => Nat.lt_of_lt_of_le (hs64 q hq) (Below.size b171)
  replace o152 := ownL.keep o152 (fun q hq => Below.block b171 q (hs69 q hq))
  replace hs69 := fun q hq => Nat.lt_of_lt_of_le (hs69 q hq) (Below.size b171)
  replace bx40 := Box.below bx40 b171
  replace bx89 := Box.below bx89 b171
  have z179 := Below.size b171
  replace zb0 : w.heap.size ≤ w170.heap.size := by omega
  replace za0 : w13.heap.size ≤ w170.heap.size := by omega
  obtain ⟨a180, m181, c182, rfl⟩ := ownL_shape o174
  have hs176 := fun q hq => (r175 q hq).2
  have k183 : w170.cell? ⟨w13.heap.size, 0, none⟩ = some ((Value.slice a27 m28 c29)) := bx40.2 0 (by simp)
  have k184 : w170.cell? ⟨w13.heap.size, 1, none⟩ = some ((Value.slice a30 m31 c32)) := bx40.2 1 (by simp)
  have k185 : w170.cell? ⟨w58.heap.size, 0, none⟩ = some ((Value.slice a75 m76 c77)) := bx89.2 0 (by simp)
  have k186 : w170.cell? ⟨w58.heap.size, 1, none⟩ = some ((Value.slice a78 m79 c80)) := bx89.2 1 (by simp)
  go_wp2_with fail
  clear k183 k184 k185 k186
  refine (impl_NewStoreW d_aValues (Value.slice a180 m181 c182) _ (ownL.rds o174) hb_aValues).mono ?_
  rintro e w187 ⟨u189, u194, S190, S195, rfl, o191, o196, r192, r197, dj199, hb200, b188⟩
  have t201 := Below.trans t177 (Below.mono b188 zb0)
  have s202 := Below.trans s178 (Below.mono b188 za0)
  replace o131 := ownL.keep o131 (fun q hq => Below.block b188 q (hs49 q hq))
  replace hs49 := fun q hq => Nat.lt_of_lt_of_le (hs49 q hq) (Below.size b188)
  replace o151 := ownL.keep o151 (fun q hq => Below.block b188 q (hs64 q hq))
  replace hs64 := fun q hq => Nat.lt_of_lt_of_le (hs64 q hq) (Below.size b188)
  replace o152 := ownL.keep o152 (fun q hq => Below.block b188 q (hs69 q hq))
  replace hs69 := fun q hq => Nat.lt_of_lt_of_le (hs69 q hq) (Below.size b188)
  replace bx40 := Box.below bx40 b188
  replace bx89 := Box.below bx89 b188
  have z203 := Below.size b188
  replace zb0 : w.heap.size ≤ w187.heap.size := by omega
  replace za0 : w13.heap.size ≤ w187.heap.size := by omega
  obtain ⟨a204, m205, c206, rfl⟩ := ownL_shape o191
  have hs193 := fun q hq => (r192 q hq).2
  obtain ⟨a207, m208, c209, rfl⟩ := ownL_shape o196
  have hs198 := fun q hq => (r197 q hq).2
  have k210 : w187.cell? ⟨w13.heap.size, 0, none⟩ = some ((Value.slice a27 m28 c29)) := bx40.2 0 (by simp)
  have k211 : w187.cell? ⟨w13.heap.size, 1, none⟩ = some ((Value.slice a30 m31 c32)) := bx40.2 1 (by simp)
  have k212 : w187.cell? ⟨w58.heap.size, 0, none⟩ = some ((Value.slice a75 m76 c77)) := bx89.2 0 (by simp)
  have k213 : w187.cell? ⟨w58.heap.size, 1, none⟩ = some ((Value.slice a78 m79 c80)) := bx89.2 1 (by simp)
  obtain ⟨X214, hX215⟩ : ∃ X, w187.alloc (.cells #[(Value.slice a204 m205 c206), (Value.slice a207 m208 c209)] 31) = X := ⟨_, rfl⟩
  have bX216 : Below w187.heap.size w187 X214 := by rw [← hX215]; exact (Below.refl _ _).alloc (Nat.le_refl _) _
  have zX214 : X214.heap.size = w187.heap.size + 1 := by rw [← hX215]; simp
  have t217 := Below.trans t201 (Below.mono bX216 zb0)
  have s218 := Below.trans s202 (Below.mono bX216 za0)
  replace o131 := ownL.keep o131 (fun q hq => Below.block bX216 q (hs49 q hq))
  replace hs49 := fun q hq => Nat.lt_of_lt_of_le (hs49 q hq) (Below.size bX216)
  replace o151 := ownL.keep o151 (fun q hq => Below.block bX216 q (hs64 q hq))
  replace hs64 := fun q hq => Nat.lt_of_lt_of_le (hs64 q hq) (Below.size bX216)
  replace o152 := ownL.keep o152 (fun q hq => Below.block bX216 q (hs69 q hq))
  replace hs69 := fun q hq => Nat.lt_of_lt_of_le (hs69 q hq) (Below.size bX216)
  replace o191 := ownL.keep o191 (fun q hq => Below.block bX216 q (hs193 q hq))
  replace hs193 := fun q hq => Nat.lt_of_lt_of_le (hs193 q hq) (Below.size bX216)
  replace o196 := ownL.keep o196 (fun q hq => Below.block bX216 q (hs198 q hq))
  replace hs198 := fun q hq => Nat.lt_of_lt_of_le (hs198 q hq) (Below.size bX216)
  replace bx40 := Box.below bx40 bX216
  replace bx89 := Box.below bx89 bX216
  have z219 := Below.size bX216
  replace zb0 : w.heap.size ≤ X214.heap.size := by omega
  replace za0 : w13.heap.size ≤ X214.heap.size := by omega
  have bx220 : Box X214 (w187.heap.size) [(Value.slice a204 m205 c206), (Value.slice a207 m208 c209)] := by rw [← hX215]; exact Box.alloc _ _ _
  have k221 : X214.cell? ⟨w13.heap.size, 0, none⟩ = some ((Value.slice a27 m28 c29)) := bx40.2 0 (by simp)
  have k222 : X214.cell? ⟨w13.heap.size, 1, none⟩ = some ((Value.slice a30 m31 c32)) := bx40.2 1 (by simp)
  have k223 : X214.cell? ⟨w58.heap.size, 0, none⟩ = some ((Value.slice a75 m76 c77)) := bx89.2 0 (by simp)
  have k224 : X214.cell? ⟨w58.heap.size, 1, none⟩ = some ((Value.slice a78 m79 c80)) := bx89.2 1 (by simp)
  have k225 : X214.cell? ⟨w187.heap.size, 0, none⟩ = some ((Value.slice a204 m205 c206)) := bx220.2 0 (by simp)
  have k226 : X214.cell? ⟨w187.heap.size, 1, none⟩ = some ((Value.slice a207 m208 c209)) := bx220.2 1 (by simp)
  go_wp2_with fail
  clear k210 k211 k212 k213 k221 k222 k223 k224 k225 k226 hX215
  refine (eqStore_o _ _ _ _ _ _ (ownL.rds o191) (ownL.rds o196) (rdsL.below o17 s218) (rdsL.below o22 s218)).mono ?_
  rintro e w227 ⟨rfl, b228⟩
  have t229 := Below.trans t217 (Below.mono b228 zb0)
  have s230 := Below.trans s218 (Below.mono b228 za0)
  replace o131 := ownL.keep o131 (fun q hq => Below.block b228 q (hs49 q hq))
  replace hs49 := fun q hq => Nat.lt_of_lt_of_le (hs49 q hq) (Below.size b228)
  replace o151 := ownL.keep o151 (fun q hq => Below.block b228 q (hs64 q hq))
  replace hs64 := fun q hq => Nat.lt_of_lt_of_le (hs64 q hq) (Below.size b228)
  replace o152 := ownL.keep o152 (fun q hq => Below.block b228 q (hs69 q hq))
  replace hs69 := fun q hq => Nat.lt_of_lt_of_le (hs69 q hq) (Below.size b228)
  replace o191 := ownL.keep o191 (fun q hq => Below.block b228 q (hs193 q hq))
  replace hs193 := fun q hq => Nat.lt_of_lt_of_le (hs193 q hq) (Below.size b228)
  replace o196 := ownL.keep o196 (fun q hq => Below.block b228 q (hs198 q hq))
  replace hs198 := fun q hq => Nat.lt_of_lt_of_le (hs198 q hq) (Below.size b228)
  replace bx40 := Box.below bx40 b228
  replace bx89 := Box.below bx89 b228
  replace bx220 := Box.below bx220 b228
  have z231 := Below.size b228
  replace zb0 : w.heap.size ≤ w227.heap.size := by omega
  replace za0 : w13.heap.size ≤ w227.heap.size := by omega
  have k232 : w227.cell? ⟨w13.heap.size, 0, none⟩ = some ((Value.slice a27 m28 c29)) := bx40.2 0 (by simp)
  have k233 : w227.cell? ⟨w13.heap.size, 1, none⟩ = some ((Value.slice a30 m31 c32)) := bx40.2 1 (by simp)
  have k234 : w227.cell? ⟨w58.heap.size, 0, none⟩ = some ((Value.slice a75 m76 c77)) := bx89.2 0 (by simp)
  have k235 : w227.cell? ⟨w58.heap.size, 1, none⟩ = some ((Value.slice a78 m79 c80)) := bx89.2 1 (by simp)
  have k236 : w227.cell? ⟨w187.heap.size, 0, none⟩ = some ((Value.slice a204 m205 c206)) := bx220.2 0 (by simp)
  have k237 : w227.cell? ⟨w187.heap.size, 1, none⟩ = some ((Value.slice a207 m208 c209)) := bx220.2 1 (by simp)
  go_wp2_with fail
  clear k232 k233 k234 k235 k236 k237
  refine (heldStore_o _ _ _ _ _ hb71 (by omega) (by omega) (ownL.rds o151) (ownL.rds o152)).mono ?_
  rintro e w238 ⟨rfl, b239⟩
  have t240 := Below.trans t229 (Below.mono b239 zb0)
  have s241 := Below.trans s230 (Below.mono b239 za0)
  replace o131 := ownL.keep o131 (fun q hq => Below.block b239 q (hs49 q hq))
  replace hs49 := fun q hq => Nat.lt_of_lt_of_le (hs49 q hq) (Below.size b239)
  replace o151 := ownL.keep o151 (fun q hq => Below.block b239 q (hs64 q hq))
  replace hs64 := fun q hq => Nat.lt_of_lt_of_le (hs64 q hq) (Below.size b239)
  replace o152 := ownL.keep o152 (fun q hq => Below.block b239 q (hs69 q hq))
  replace hs69 := fun q hq => Nat.lt_of_lt_of_le (hs69 q hq) (Below.size b239)
  replace o191 := ownL.keep o191 (fun q hq => Below.block b239 q (hs193 q hq))
  replace hs193 := fun q hq => Nat.lt_of_lt_of_le (hs193 q hq) (Below.size b239)
  replace o196 := ownL.keep o196 (fun q hq => Below.block b239 q (hs198 q hq))
  replace hs198 := fun q hq => Nat.lt_of_lt_of_le (hs198 q hq) (Below.size b239)
  replace bx40 := Box.below bx40 b239
  replace bx89 := Box.below bx89 b239
  replace bx220 := Box.below bx220 b239
  have z242 := Below.size b239
  replace zb0 : w.heap.size ≤ w238.heap.size := by omega
  replace za0 : w13.heap.size ≤ w238.heap.size := by omega
  have k243 : w238.cell? ⟨w13.heap.size, 0, none⟩ = some ((Value.slice a27 m28 c29)) := bx40.2 0 (by simp)
  have k244 : w238.cell? ⟨w13.heap.size, 1, none⟩ = some ((Value.slice a30 m31 c32)) := bx40.2 1 (by simp)
  have k245 : w238.cell? ⟨w58.heap.size, 0, none⟩ = some ((Value.slice a75 m76 c77)) := bx89.2 0 (by simp)
  have k246 : w238.cell? ⟨w58.heap.size, 1, none⟩ = some ((Value.slice a78 m79 c80)) := bx89.2 1 (by simp)
  have k247 : w238.cell? ⟨w187.heap.size, 0, none⟩ = some ((Value.slice a204 m205 c206)) := bx220.2 0 (by simp)
  have k248 : w238.cell? ⟨w187.heap.size, 1, none⟩ = some ((Value.slice a207 m208 c209)) := bx220.2 1 (by simp)
  go_wp2_with fail
  clear k243 k244 k245 k246 k247 k248
  try go_wp2
  go_ret
  exact ⟨rfl, hB0.trans (Below.mono t240 hB0.size)⟩

end Go.Proofs.Ytpdgpblekbongaa
