/- Chapter 2's model: NewArena. -/
import Derived.Test.YtdnfphpeleakcaaS2b
import Derived.Test.YtdnfphpeleakcaaBox
namespace Go.Proofs.Ytdnfphpeleakcaa
set_option maxRecDepth 100000
open Go.RowKit Go.Proofs Go.Own
set_option linter.unusedVariables false
set_option linter.unusedSimpArgs false

def oneB : Block := ⟨0, true, 0, 0, 0⟩
def newB (k : Nat) : List Block := List.replicate k oneB
def newL (k : Nat) : List Int := (List.range k).map Int.ofNat
theorem newB_len (k : Nat) : (newB k).length = k := by simp [newB]
theorem newL_len (k : Nat) : (newL k).length = k := by simp [newL]
theorem newB_succ (k : Nat) : (newB k).flatMap Block.enc ++ [Value.int .i64 0, Value.bool true, Value.int .i64 0, Value.int .i64 0, Value.int .i64 0] = (newB (k+1)).flatMap Block.enc := by
  rw [newB, newB, List.replicate_succ', List.flatMap_append]; rfl
theorem newL_succ (k : Nat) : (newL k).flatMap encI ++ [Value.int .i64 k] = (newL (k+1)).flatMap encI := by
  rw [newL, newL, List.range_succ, List.map_append, List.flatMap_append]; rfl
theorem oneCell_lit5 (a c d e : Int) (b : Bool) : ∀ v ∈ [Value.int .i64 a, Value.bool b, Value.int .i64 c, Value.int .i64 d, Value.int .i64 e], v.oneCell' = true := by intro v hv; simp at hv; rcases hv with rfl | rfl | rfl | rfl | rfl <;> rfl
theorem oneCell_lit1 (a : Int) : ∀ v ∈ [Value.int .i64 a], v.oneCell' = true := by intro v hv; simp at hv; subst hv; rfl
theorem newArenaF_yes (q : Nat) (h : inB q 1 24 = true) : newArenaF q = (⟨newB q, newL q⟩, true) := by simp [newArenaF, h, newB, newL, oneB]
theorem newArenaF_no (n : Int) (h : inB n 1 24 = false) : newArenaF n = (⟨[], []⟩, false) := by simp [newArenaF, h]
set_option maxRecDepth 100000 in
set_option maxHeartbeats 4000000 in
theorem spec_NewArena (n : Int) (w : World) :
    Calls Try.prog 65 #[.int .i64 n] w fun e w' => ∃ u0 u1, e = .returned (.tuple #[.agg #[u0, u1], .bool (newArenaF n).2]) ∧ Blocks w' u0 (newArenaF n).1.blocks ∧ Ints w' u1 (newArenaF n).1.list ∧ Below w.heap.size w w' := by
  have tt_1 : Below w.heap.size w w := Below.refl _ _
  obtain ⟨X_2, hX_3⟩ : ∃ X, w.alloc (.cells #[Value.slice none 0 0, Value.slice none 0 0] 27) = X := ⟨_, rfl⟩
  have bX_4 : Below w.heap.size w X_2 := by rw [← hX_3]; exact (Below.refl _ _).alloc (Nat.le_refl _) _
  have zs_5 : w.heap.size + 1 ≤ X_2.heap.size := by rw [← hX_3]; simp
  have zz_6 := Below.size bX_4
  have tt_7 : Below w.heap.size w X_2 := Below.trans tt_1 (Below.mono bX_4 (Below.size tt_1))
  have bx_8 : BoxF X_2 w.heap.size [Value.slice none 0 0, Value.slice none 0 0] := by rw [← hX_3]; exact BoxF.alloc _ _ _
  obtain ⟨X_9, hX_10⟩ : ∃ X, X_2.alloc (.cells #[Value.slice none 0 0, Value.slice none 0 0] 27) = X := ⟨_, rfl⟩
  have bX_11 : Below X_2.heap.size X_2 X_9 := by rw [← hX_10]; exact (Below.refl _ _).alloc (Nat.le_refl _) _
  have zs_12 : X_2.heap.size + 1 ≤ X_9.heap.size := by rw [← hX_10]; simp
  have zz_13 := Below.size bX_11
  have tt_14 : Below w.heap.size w X_9 := Below.trans tt_7 (Below.mono bX_11 (Below.size tt_7))
  replace bx_8 := BoxF.below bx_8 bX_11
  have bx_15 : BoxF X_9 X_2.heap.size [Value.slice none 0 0, Value.slice none 0 0] := by rw [← hX_10]; exact BoxF.alloc _ _ _
  have k_16 : X_9.cell? ⟨w.heap.size, 0, none⟩ = some (Value.slice none 0 0) := bx_8.1.2 0 (by simp)
  have k_17 : X_9.frozen? ⟨w.heap.size, 0, none⟩ = false := bx_8.2 0 (by simp)
  have k_18 : X_9.cell? ⟨w.heap.size, 1, none⟩ = some (Value.slice none 0 0) := bx_8.1.2 1 (by simp)
  have k_19 : X_9.frozen? ⟨w.heap.size, 1, none⟩ = false := bx_8.2 1 (by simp)
  have k_20 : X_9.cell? ⟨X_2.heap.size, 0, none⟩ = some (Value.slice none 0 0) := bx_15.1.2 0 (by simp)
  have k_21 : X_9.frozen? ⟨X_2.heap.size, 0, none⟩ = false := bx_15.2 0 (by simp)
  have k_22 : X_9.cell? ⟨X_2.heap.size, 1, none⟩ = some (Value.slice none 0 0) := bx_15.1.2 1 (by simp)
  have k_23 : X_9.frozen? ⟨X_2.heap.size, 1, none⟩ = false := bx_15.2 1 (by simp)
  obtain ⟨X_24, hX_25⟩ : ∃ X, X_9.setCell ⟨X_2.heap.size, 0, none⟩ (Value.slice none 0 0) = X := ⟨_, rfl⟩
  have gr_26 : X_9.grownBy X_24 (some (X_2.heap.size)) := by rw [← hX_25]; exact grownBy_setCell _ _ _
  have zz_27 : X_9.heap.size ≤ X_24.heap.size := by rw [← hX_25]; simp [World.setCell]
  have tt_28 : Below w.heap.size w X_24 := by rw [← hX_25]; exact Below.setCell tt_14 (by show w.heap.size ≤ X_2.heap.size; omega) _
  replace bx_8 : BoxF X_24 w.heap.size [Value.slice none 0 0, Value.slice none 0 0] := by rw [← hX_25]; exact BoxF.other bx_8 _ _ (by show ¬ X_2.heap.size = w.heap.size; omega)
  replace bx_15 : BoxF X_24 X_2.heap.size [Value.slice none 0 0, Value.slice none 0 0] := by rw [← hX_25]; exact BoxF.set bx_15 0 (by simp) _
  have k_29 : X_24.cell? ⟨w.heap.size, 0, none⟩ = some (Value.slice none 0 0) := bx_8.1.2 0 (by simp)
  have k_30 : X_24.frozen? ⟨w.heap.size, 0, none⟩ = false := bx_8.2 0 (by simp)
  have k_31 : X_24.cell? ⟨w.heap.size, 1, none⟩ = some (Value.slice none 0 0) := bx_8.1.2 1 (by simp)
  have k_32 : X_24.frozen? ⟨w.heap.size, 1, none⟩ = false := bx_8.2 1 (by simp)
  have k_33 : X_24.cell? ⟨X_2.heap.size, 0, none⟩ = some (Value.slice none 0 0) := bx_15.1.2 0 (by simp)
  have k_34 : X_24.frozen? ⟨X_2.heap.size, 0, none⟩ = false := bx_15.2 0 (by simp)
  have k_35 : X_24.cell? ⟨X_2.heap.size, 1, none⟩ = some (Value.slice none 0 0) := bx_15.1.2 1 (by simp)
  have k_36 : X_24.frozen? ⟨X_2.heap.size, 1, none⟩ = false := bx_15.2 1 (by simp)
  obtain ⟨X_37, hX_38⟩ : ∃ X, X_24.setCell ⟨X_2.heap.size, 1, none⟩ (Value.slice none 0 0) = X := ⟨_, rfl⟩
  have gr_39 : X_24.grownBy X_37 (some (X_2.heap.size)) := by rw [← hX_38]; exact grownBy_setCell _ _ _
  have zz_40 : X_24.heap.size ≤ X_37.heap.size := by rw [← hX_38]; simp [World.setCell]
  have tt_41 : Below w.heap.size w X_37 := by rw [← hX_38]; exact Below.setCell tt_28 (by show w.heap.size ≤ X_2.heap.size; omega) _
  replace bx_8 : BoxF X_37 w.heap.size [Value.slice none 0 0, Value.slice none 0 0] := by rw [← hX_38]; exact BoxF.other bx_8 _ _ (by show ¬ X_2.heap.size = w.heap.size; omega)
  replace bx_15 : BoxF X_37 X_2.heap.size [Value.slice none 0 0, Value.slice none 0 0] := by rw [← hX_38]; exact BoxF.set bx_15 1 (by simp) _
  cases hn : inB n 1 24
  case false =>
    have HN := hid (newArenaF_no n hn)
    have k_1042 : X_37.cell? ⟨w.heap.size, 0, none⟩ = some (Value.slice none 0 0) := bx_8.1.2 0 (by simp)
    have k_1043 : X_37.frozen? ⟨w.heap.size, 0, none⟩ = false := bx_8.2 0 (by simp)
    have k_1044 : X_37.cell? ⟨w.heap.size, 1, none⟩ = some (Value.slice none 0 0) := bx_8.1.2 1 (by simp)
    have k_1045 : X_37.frozen? ⟨w.heap.size, 1, none⟩ = false := bx_8.2 1 (by simp)
    have k_1046 : X_37.cell? ⟨X_2.heap.size, 0, none⟩ = some (Value.slice none 0 0) := bx_15.1.2 0 (by simp)
    have k_1047 : X_37.frozen? ⟨X_2.heap.size, 0, none⟩ = false := bx_15.2 0 (by simp)
    have k_1048 : X_37.cell? ⟨X_2.heap.size, 1, none⟩ = some (Value.slice none 0 0) := bx_15.1.2 1 (by simp)
    have k_1049 : X_37.frozen? ⟨X_2.heap.size, 1, none⟩ = false := bx_15.2 1 (by simp)
    go_enter Try.func65, Try.ntmps65
    go_wp2_with ((go_at_call 53; refine (spec_l1In _ _ _ _).mono ?_; rintro e w' ⟨rfl, rfl⟩))
    refine bodyPost_ret (v := .tuple #[.agg #[Value.slice none 0 0, Value.slice none 0 0], .bool false]) ?_ rfl ⟨_, _, by rw [HN.out], ?_⟩
    · simp [results, Try.results65, go_sem, k_1042, k_1043, k_1044, k_1045, k_1046, k_1047, k_1048, k_1049]
    · rw [HN.out]
      exact ⟨Flat.of_owns (base := 0) (e := 0) (World.ownsRow_nil _ _ _ _), Flat.of_owns (base := 0) (e := 0) (World.ownsRow_nil _ _ _ _), Below.setCell (Below.setCell tt_41 (by show w.heap.size ≤ w.heap.size; omega) _) (by show w.heap.size ≤ w.heap.size; omega) _⟩
  obtain ⟨q, rfl⟩ : ∃ q : Nat, n = q := ⟨n.toNat, by simp [inB] at hn; omega⟩
  have hq1 : 1 ≤ q ∧ q ≤ 24 := by simp [inB] at hn; omega
  obtain ⟨hq1, hq24⟩ := hq1
  have HY := hid (newArenaF_yes q hn)
  obtain ⟨i0, hi, hz0, hz1, hz2⟩ := info_parts infoBlock
  obtain ⟨j0, hj, hy0, hy1, hy2⟩ := info_parts infoInt
  have k_42 : X_37.cell? ⟨w.heap.size, 0, none⟩ = some (Value.slice none 0 0) := bx_8.1.2 0 (by simp)
  have k_43 : X_37.frozen? ⟨w.heap.size, 0, none⟩ = false := bx_8.2 0 (by simp)
  have k_44 : X_37.cell? ⟨w.heap.size, 1, none⟩ = some (Value.slice none 0 0) := bx_8.1.2 1 (by simp)
  have k_45 : X_37.frozen? ⟨w.heap.size, 1, none⟩ = false := bx_8.2 1 (by simp)
  have k_46 : X_37.cell? ⟨X_2.heap.size, 0, none⟩ = some (Value.slice none 0 0) := bx_15.1.2 0 (by simp)
  have k_47 : X_37.frozen? ⟨X_2.heap.size, 0, none⟩ = false := bx_15.2 0 (by simp)
  have k_48 : X_37.cell? ⟨X_2.heap.size, 1, none⟩ = some (Value.slice none 0 0) := bx_15.1.2 1 (by simp)
  have k_49 : X_37.frozen? ⟨X_2.heap.size, 1, none⟩ = false := bx_15.2 1 (by simp)
  go_enter Try.func65, Try.ntmps65
  go_wp2_with ((go_at_call 53; refine (spec_l1In _ _ _ _).mono ?_; rintro e w' ⟨rfl, rfl⟩))
  clear hX_3 hX_10 k_16 k_17 k_18 k_19 k_20 k_21 k_22 k_23 hX_25 k_29 k_30 k_31 k_32 k_33 k_34 k_35 k_36 hX_38 k_42 k_43 k_44 k_45 k_46 k_47 k_48 k_49
  go_loopw [5] (fun i wr => ∃ (k : Nat) (v0 v1 : Value), k ≤ q ∧ i = .int .i64 k ∧ BoxF wr w.heap.size [Value.slice none 0 0, Value.slice none 0 0] ∧ BoxF wr X_2.heap.size [v0, v1] ∧ wr.ownsRow X_37.heap.size 64 5 v0 k ((newB k).flatMap Block.enc) ∧ wr.ownsRow X_37.heap.size 3 1 v1 k ((newL k).flatMap encI) ∧ Below w.heap.size w wr ∧ X_37.heap.size ≤ wr.heap.size) (fun i _ => q - (intOf i).toNat)
  case atStart => exact ⟨0, _, _, by omega, rfl, bx_8, bx_15, World.ownsRow_nil _ _ _ _, World.ownsRow_nil _ _ _ _, tt_41, Nat.le_refl _⟩
  case round =>
    clear bx_8 bx_15 tt_41
    obtain ⟨k, v0, v1, hk, rfl, bxr, bxo, o0, o1, hB, hS⟩ := hrel
    obtain ⟨p0, c0, rfl, hn0, hm0⟩ := owns_form o0
    obtain ⟨p1, c1, rfl, hn1, hm1⟩ := owns_form o1
    by_cases hlt : k < q
    ·
      have hb1 : X_37.heap.size + 0 ≤ X_37.heap.size := by omega
      have k_2050 : wr.cell? ⟨w.heap.size, 0, none⟩ = some (Value.slice none 0 0) := bxr.1.2 0 (by simp)
      have k_2051 : wr.frozen? ⟨w.heap.size, 0, none⟩ = false := bxr.2 0 (by simp)
      have k_2052 : wr.cell? ⟨w.heap.size, 1, none⟩ = some (Value.slice none 0 0) := bxr.1.2 1 (by simp)
      have k_2053 : wr.frozen? ⟨w.heap.size, 1, none⟩ = false := bxr.2 1 (by simp)
      have k_2054 : wr.cell? ⟨X_2.heap.size, 0, none⟩ = some (Value.slice p0 k c0) := bxo.1.2 0 (by simp)
      have k_2055 : wr.frozen? ⟨X_2.heap.size, 0, none⟩ = false := bxo.2 0 (by simp)
      have k_2056 : wr.cell? ⟨X_2.heap.size, 1, none⟩ = some (Value.slice p1 k c1) := bxo.1.2 1 (by simp)
      have k_2057 : wr.frozen? ⟨X_2.heap.size, 1, none⟩ = false := bxo.2 1 (by simp)
      obtain ⟨X_2058, hX_2059⟩ : ∃ X, wr.alloc (.cells #[Value.int .i64 0, Value.bool true, Value.int .i64 0, Value.int .i64 0, Value.int .i64 0] 64) = X := ⟨_, rfl⟩
      have bL_2060 : Below wr.heap.size wr X_2058 := by rw [← hX_2059]; exact (Below.refl _ _).alloc (Nat.le_refl _) _
      have fl_2061 : Flat X_2058 (.slice (some ⟨wr.heap.size, 0, none⟩) 1 1) 1 5 [Value.int .i64 0, Value.bool true, Value.int .i64 0, Value.int .i64 0, Value.int .i64 0] := by rw [← hX_2059]; exact Flat.of_owns (owns_litN wr 64 5 1 #[Value.int .i64 0, Value.bool true, Value.int .i64 0, Value.int .i64 0, Value.int .i64 0] 0 (Nat.zero_le _) rfl (by decide))
      have zz_2062 := Below.size bL_2060
      have tt_2063 : Below w.heap.size w X_2058 := Below.trans hB (Below.mono bL_2060 (Below.size hB))
      replace bxr := BoxF.below bxr bL_2060
      replace bxo := BoxF.below bxo bL_2060
      replace o0 := owns_below o0 bL_2060
      replace o1 := owns_below o1 bL_2060
      have k_2064 : X_2058.cell? ⟨w.heap.size, 0, none⟩ = some (Value.slice none 0 0) := bxr.1.2 0 (by simp)
      have k_2065 : X_2058.frozen? ⟨w.heap.size, 0, none⟩ = false := bxr.2 0 (by simp)
      have k_2066 : X_2058.cell? ⟨w.heap.size, 1, none⟩ = some (Value.slice none 0 0) := bxr.1.2 1 (by simp)
      have k_2067 : X_2058.frozen? ⟨w.heap.size, 1, none⟩ = false := bxr.2 1 (by simp)
      have k_2068 : X_2058.cell? ⟨X_2.heap.size, 0, none⟩ = some (Value.slice p0 k c0) := bxo.1.2 0 (by simp)
      have k_2069 : X_2058.frozen? ⟨X_2.heap.size, 0, none⟩ = false := bxo.2 0 (by simp)
      have k_2070 : X_2058.cell? ⟨X_2.heap.size, 1, none⟩ = some (Value.slice p1 k c1) := bxo.1.2 1 (by simp)
      have k_2071 : X_2058.frozen? ⟨X_2.heap.size, 1, none⟩ = false := bxo.2 1 (by simp)
      have lt_2072 := hid (World.ownsRow.lt o0)
      have ap_2073 := apart_types o1 o0 (by decide)
      go_wp2_with (at_builtin; refine wpList_append_flat rfl _ _ 24 rfl X_37.heap.size 64 i0 (.agg #[.int .i64 0, .bool false, .int .i64 0, .int .i64 0, .int .i64 0]) 5 40 Try.underlying24 hi hz0 hz1 hz2 rfl (by decide) _ k _ rfl o0 _ 1 _ rfl fl_2061 (oneCell_lit5 _ _ _ _ _) (by unfold maxLen; omega) (by omega) (by omega) ?_)
      intro v_2074 w_2075 o_2076 g_2077
      clear k_2050 k_2051 k_2052 k_2053 k_2054 k_2055 k_2056 k_2057 hX_2059 k_2064 k_2065 k_2066 k_2067 k_2068 k_2069 k_2070 k_2071
      rw [newB_succ] at o_2076
      have zz_2078 := World.grownBy.size g_2077
      have tt_2079 : Below w.heap.size w w_2075 := Below.trans tt_2063 (below_grown g_2077 (Below.size tt_2063) (fun k e => by have := (lt_2072.out k e).1; omega))
      replace o1 := World.ownsRow.kept o1 g_2077 ap_2073.1
      replace bxr := BoxF.grown bxr g_2077 (fun e => by have := (lt_2072.out _ e).1; omega)
      replace bxo := BoxF.grown bxo g_2077 (fun e => by have := (lt_2072.out _ e).1; omega)
      have lt_2082 := hid (World.ownsRow.lt o_2076)
      obtain ⟨p_2080, c_2081, rfl, hn_2083, hm_2084⟩ := owns_form o_2076
      have lt_2085 := hid (World.ownsRow.lt o1)
      have k_2086 : w_2075.cell? ⟨w.heap.size, 0, none⟩ = some (Value.slice none 0 0) := bxr.1.2 0 (by simp)
      have k_2087 : w_2075.frozen? ⟨w.heap.size, 0, none⟩ = false := bxr.2 0 (by simp)
      have k_2088 : w_2075.cell? ⟨w.heap.size, 1, none⟩ = some (Value.slice none 0 0) := bxr.1.2 1 (by simp)
      have k_2089 : w_2075.frozen? ⟨w.heap.size, 1, none⟩ = false := bxr.2 1 (by simp)
      have k_2090 : w_2075.cell? ⟨X_2.heap.size, 0, none⟩ = some (Value.slice p0 k c0) := bxo.1.2 0 (by simp)
      have k_2091 : w_2075.frozen? ⟨X_2.heap.size, 0, none⟩ = false := bxo.2 0 (by simp)
      have k_2092 : w_2075.cell? ⟨X_2.heap.size, 1, none⟩ = some (Value.slice p1 k c1) := bxo.1.2 1 (by simp)
      have k_2093 : w_2075.frozen? ⟨X_2.heap.size, 1, none⟩ = false := bxo.2 1 (by simp)
      obtain ⟨X_2094, hX_2095⟩ : ∃ X, w_2075.setCell ⟨X_2.heap.size, 0, none⟩ (Value.slice p_2080 (k + 1) c_2081) = X := ⟨_, rfl⟩
      have gr_2096 : w_2075.grownBy X_2094 (some (X_2.heap.size)) := by rw [← hX_2095]; exact grownBy_setCell _ _ _
      have zz_2097 : w_2075.heap.size ≤ X_2094.heap.size := by rw [← hX_2095]; simp [World.setCell]
      have tt_2098 : Below w.heap.size w X_2094 := by rw [← hX_2095]; exact Below.setCell tt_2079 (by show w.heap.size ≤ X_2.heap.size; omega) _
      replace o_2076 := World.ownsRow.kept o_2076 gr_2096 (apart_blk lt_2082 (by omega))
      replace o1 := World.ownsRow.kept o1 gr_2096 (apart_blk lt_2085 (by omega))
      replace bxr : BoxF X_2094 w.heap.size [Value.slice none 0 0, Value.slice none 0 0] := by rw [← hX_2095]; exact BoxF.other bxr _ _ (by show ¬ X_2.heap.size = w.heap.size; omega)
      replace bxo : BoxF X_2094 X_2.heap.size [Value.slice p_2080 (k + 1) c_2081, Value.slice p1 k c1] := by rw [← hX_2095]; exact BoxF.set bxo 0 (by simp) _
      have k_2099 : X_2094.cell? ⟨w.heap.size, 0, none⟩ = some (Value.slice none 0 0) := bxr.1.2 0 (by simp)
      have k_2100 : X_2094.frozen? ⟨w.heap.size, 0, none⟩ = false := bxr.2 0 (by simp)
      have k_2101 : X_2094.cell? ⟨w.heap.size, 1, none⟩ = some (Value.slice none 0 0) := bxr.1.2 1 (by simp)
      have k_2102 : X_2094.frozen? ⟨w.heap.size, 1, none⟩ = false := bxr.2 1 (by simp)
      have k_2103 : X_2094.cell? ⟨X_2.heap.size, 0, none⟩ = some (Value.slice p_2080 (k + 1) c_2081) := bxo.1.2 0 (by simp)
      have k_2104 : X_2094.frozen? ⟨X_2.heap.size, 0, none⟩ = false := bxo.2 0 (by simp)
      have k_2105 : X_2094.cell? ⟨X_2.heap.size, 1, none⟩ = some (Value.slice p1 k c1) := bxo.1.2 1 (by simp)
      have k_2106 : X_2094.frozen? ⟨X_2.heap.size, 1, none⟩ = false := bxo.2 1 (by simp)
      obtain ⟨X_2107, hX_2108⟩ : ∃ X, X_2094.alloc (.cells #[Value.int .i64 (k : Int)] 3) = X := ⟨_, rfl⟩
      have bL_2109 : Below X_2094.heap.size X_2094 X_2107 := by rw [← hX_2108]; exact (Below.refl _ _).alloc (Nat.le_refl _) _
      have fl_2110 : Flat X_2107 (.slice (some ⟨X_2094.heap.size, 0, none⟩) 1 1) 1 1 [Value.int .i64 (k : Int)] := by rw [← hX_2108]; exact Flat.of_owns (owns_litN X_2094 3 1 1 #[Value.int .i64 (k : Int)] 0 (Nat.zero_le _) rfl (by decide))
      have zz_2111 := Below.size bL_2109
      have tt_2112 : Below w.heap.size w X_2107 := Below.trans tt_2098 (Below.mono bL_2109 (Below.size tt_2098))
      replace bxr := BoxF.below bxr bL_2109
      replace bxo := BoxF.below bxo bL_2109
      replace o_2076 := owns_below o_2076 bL_2109
      replace o1 := owns_below o1 bL_2109
      have k_2113 : X_2107.cell? ⟨w.heap.size, 0, none⟩ = some (Value.slice none 0 0) := bxr.1.2 0 (by simp)
      have k_2114 : X_2107.frozen? ⟨w.heap.size, 0, none⟩ = false := bxr.2 0 (by simp)
      have k_2115 : X_2107.cell? ⟨w.heap.size, 1, none⟩ = some (Value.slice none 0 0) := bxr.1.2 1 (by simp)
      have k_2116 : X_2107.frozen? ⟨w.heap.size, 1, none⟩ = false := bxr.2 1 (by simp)
      have k_2117 : X_2107.cell? ⟨X_2.heap.size, 0, none⟩ = some (Value.slice p_2080 (k + 1) c_2081) := bxo.1.2 0 (by simp)
      have k_2118 : X_2107.frozen? ⟨X_2.heap.size, 0, none⟩ = false := bxo.2 0 (by simp)
      have k_2119 : X_2107.cell? ⟨X_2.heap.size, 1, none⟩ = some (Value.slice p1 k c1) := bxo.1.2 1 (by simp)
      have k_2120 : X_2107.frozen? ⟨X_2.heap.size, 1, none⟩ = false := bxo.2 1 (by simp)
      have lt_2121 := hid (World.ownsRow.lt o1)
      have ap_2122 := apart_types o_2076 o1 (by decide)
      go_wp2_with (at_builtin; refine wpList_append_flat rfl _ _ 25 rfl X_37.heap.size 3 j0 (.int .i64 0) 1 8 Try.underlying25 hj hy0 hy1 hy2 rfl (by decide) _ k _ rfl o1 _ 1 _ rfl fl_2110 (oneCell_lit1 _) (by unfold maxLen; omega) (by omega) (by omega) ?_)
      intro v_2123 w_2124 o_2125 g_2126
      clear k_2086 k_2087 k_2088 k_2089 k_2090 k_2091 k_2092 k_2093 hX_2095 k_2099 k_2100 k_2101 k_2102 k_2103 k_2104 k_2105 k_2106 hX_2108 k_2113 k_2114 k_2115 k_2116 k_2117 k_2118 k_2119 k_2120
      rw [newL_succ] at o_2125
      have zz_2127 := World.grownBy.size g_2126
      have tt_2128 : Below w.heap.size w w_2124 := Below.trans tt_2112 (below_grown g_2126 (Below.size tt_2112) (fun k e => by have := (lt_2121.out k e).1; omega))
      replace o_2076 := World.ownsRow.kept o_2076 g_2126 ap_2122.1
      replace bxr := BoxF.grown bxr g_2126 (fun e => by have := (lt_2121.out _ e).1; omega)
      replace bxo := BoxF.grown bxo g_2126 (fun e => by have := (lt_2121.out _ e).1; omega)
      have lt_2131 := hid (World.ownsRow.lt o_2125)
      obtain ⟨p_2129, c_2130, rfl, hn_2132, hm_2133⟩ := owns_form o_2125
      have lt_2134 := hid (World.ownsRow.lt o_2076)
      have k_2135 : w_2124.cell? ⟨w.heap.size, 0, none⟩ = some (Value.slice none 0 0) := bxr.1.2 0 (by simp)
      have k_2136 : w_2124.frozen? ⟨w.heap.size, 0, none⟩ = false := bxr.2 0 (by simp)
      have k_2137 : w_2124.cell? ⟨w.heap.size, 1, none⟩ = some (Value.slice none 0 0) := bxr.1.2 1 (by simp)
      have k_2138 : w_2124.frozen? ⟨w.heap.size, 1, none⟩ = false := bxr.2 1 (by simp)
      have k_2139 : w_2124.cell? ⟨X_2.heap.size, 0, none⟩ = some (Value.slice p_2080 (k + 1) c_2081) := bxo.1.2 0 (by simp)
      have k_2140 : w_2124.frozen? ⟨X_2.heap.size, 0, none⟩ = false := bxo.2 0 (by simp)
      have k_2141 : w_2124.cell? ⟨X_2.heap.size, 1, none⟩ = some (Value.slice p1 k c1) := bxo.1.2 1 (by simp)
      have k_2142 : w_2124.frozen? ⟨X_2.heap.size, 1, none⟩ = false := bxo.2 1 (by simp)
      obtain ⟨X_2143, hX_2144⟩ : ∃ X, w_2124.setCell ⟨X_2.heap.size, 1, none⟩ (Value.slice p_2129 (k + 1) c_2130) = X := ⟨_, rfl⟩
      have gr_2145 : w_2124.grownBy X_2143 (some (X_2.heap.size)) := by rw [← hX_2144]; exact grownBy_setCell _ _ _
      have zz_2146 : w_2124.heap.size ≤ X_2143.heap.size := by rw [← hX_2144]; simp [World.setCell]
      have tt_2147 : Below w.heap.size w X_2143 := by rw [← hX_2144]; exact Below.setCell tt_2128 (by show w.heap.size ≤ X_2.heap.size; omega) _
      replace o_2125 := World.ownsRow.kept o_2125 gr_2145 (apart_blk lt_2131 (by omega))
      replace o_2076 := World.ownsRow.kept o_2076 gr_2145 (apart_blk lt_2134 (by omega))
      replace bxr : BoxF X_2143 w.heap.size [Value.slice none 0 0, Value.slice none 0 0] := by rw [← hX_2144]; exact BoxF.other bxr _ _ (by show ¬ X_2.heap.size = w.heap.size; omega)
      replace bxo : BoxF X_2143 X_2.heap.size [Value.slice p_2080 (k + 1) c_2081, Value.slice p_2129 (k + 1) c_2130] := by rw [← hX_2144]; exact BoxF.set bxo 1 (by simp) _
      have k_2148 : X_2143.cell? ⟨w.heap.size, 0, none⟩ = some (Value.slice none 0 0) := bxr.1.2 0 (by simp)
      have k_2149 : X_2143.frozen? ⟨w.heap.size, 0, none⟩ = false := bxr.2 0 (by simp)
      have k_2150 : X_2143.cell? ⟨w.heap.size, 1, none⟩ = some (Value.slice none 0 0) := bxr.1.2 1 (by simp)
      have k_2151 : X_2143.frozen? ⟨w.heap.size, 1, none⟩ = false := bxr.2 1 (by simp)
      have k_2152 : X_2143.cell? ⟨X_2.heap.size, 0, none⟩ = some (Value.slice p_2080 (k + 1) c_2081) := bxo.1.2 0 (by simp)
      have k_2153 : X_2143.frozen? ⟨X_2.heap.size, 0, none⟩ = false := bxo.2 0 (by simp)
      have k_2154 : X_2143.cell? ⟨X_2.heap.size, 1, none⟩ = some (Value.slice p_2129 (k + 1) c_2130) := bxo.1.2 1 (by simp)
      have k_2155 : X_2143.frozen? ⟨X_2.heap.size, 1, none⟩ = false := bxo.2 1 (by simp)
      have zz_2156 : X_37.heap.size ≤ X_2143.heap.size := by omega
      have Hbxr := hid bxr
      have Hbxo := hid bxo
      have Ho_2076 := hid o_2076
      have Ho_2125 := hid o_2125
      have Htt_2147 := hid tt_2147
      have Hzz_2156 := hid zz_2156
      clear bxr bxo o_2076 o_2125
      go_wp2
      go_roundw
      case rel => exact ⟨k+1, _, _, by omega, by go_num, Hbxr.out, Hbxo.out, Ho_2076.out, Ho_2125.out, Htt_2147.out, Hzz_2156.out⟩
      case measure => simp [intOf]; omega
    ·
      obtain rfl : k = q := by omega
      have k_2050 : wr.cell? ⟨w.heap.size, 0, none⟩ = some (Value.slice none 0 0) := bxr.1.2 0 (by simp)
      have k_2051 : wr.frozen? ⟨w.heap.size, 0, none⟩ = false := bxr.2 0 (by simp)
      have k_2052 : wr.cell? ⟨w.heap.size, 1, none⟩ = some (Value.slice none 0 0) := bxr.1.2 1 (by simp)
      have k_2053 : wr.frozen? ⟨w.heap.size, 1, none⟩ = false := bxr.2 1 (by simp)
      have k_2054 : wr.cell? ⟨X_2.heap.size, 0, none⟩ = some (Value.slice p0 k c0) := bxo.1.2 0 (by simp)
      have k_2055 : wr.frozen? ⟨X_2.heap.size, 0, none⟩ = false := bxo.2 0 (by simp)
      have k_2056 : wr.cell? ⟨X_2.heap.size, 1, none⟩ = some (Value.slice p1 k c1) := bxo.1.2 1 (by simp)
      have k_2057 : wr.frozen? ⟨X_2.heap.size, 1, none⟩ = false := bxo.2 1 (by simp)
      go_wp2
      refine bodyPost_ret (v := .tuple #[.agg #[Value.slice p0 k c0, Value.slice p1 k c1], .bool true]) ?_ rfl ⟨_, _, by rw [HY.out], ?_⟩
      · simp [results, Try.results65, go_sem, k_2050, k_2051, k_2052, k_2053, k_2054, k_2055, k_2056, k_2057]
      · rw [HY.out]
        refine ⟨?_, ?_, Below.setCell (Below.setCell hB (by show w.heap.size ≤ w.heap.size; omega) _) (by show w.heap.size ≤ w.heap.size; omega) _⟩
        · unfold Blocks; rw [newB_len]; exact Flat.of_owns (owns_setCell (owns_setCell o0 _ _ (by show w.heap.size < _; omega)) _ _ (by show w.heap.size < _; omega))
        · unfold Ints; rw [newL_len]; exact Flat.of_owns (owns_setCell (owns_setCell o1 _ _ (by show w.heap.size < _; omega)) _ _ (by show w.heap.size < _; omega))
end Go.Proofs.Ytdnfphpeleakcaa
