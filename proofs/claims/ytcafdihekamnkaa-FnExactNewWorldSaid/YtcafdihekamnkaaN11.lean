/- Chapter 11's data in memory: threads in a list: made, compared, told how many. (printed by tools/mk_n11.py) -/
import Derived.Test.YtcafdihekamnkaaN10
namespace Go.Proofs.Ytcafdihekamnkaa
set_option maxRecDepth 100000
open Go.RowKit Go.Proofs Go.Own
set_option linter.unusedVariables false
set_option linter.unusedSimpArgs false
instance encThread : Enc ThreadD where
  sz := 14
  ty := 55
  rds w cs t := ∃ v0 v1 v2 : Value, cs = [Value.int .i64 t.id_, v0, Value.int .i64 t.at_, Value.int .i64 t.reg0_, Value.int .i64 t.reg1_, Value.int .i64 t.reg2_, Value.int .i64 t.reg3_, v1, Value.int .i64 t.check_, v2, Value.int .i64 t.mine_, Value.int .i64 t.state_, Value.int .i64 t.commits_, Value.int .i64 t.fails_] ∧ rdsL w v0 t.prog_ ∧ rdsL w v1 t.open_ ∧ rdsL w v2 t.stack_
  own S w cs t := ∃ v0 v1 v2 : Value, ∃ S0 S1 S2 : Nat → Prop, cs = [Value.int .i64 t.id_, v0, Value.int .i64 t.at_, Value.int .i64 t.reg0_, Value.int .i64 t.reg1_, Value.int .i64 t.reg2_, Value.int .i64 t.reg3_, v1, Value.int .i64 t.check_, v2, Value.int .i64 t.mine_, Value.int .i64 t.state_, Value.int .i64 t.commits_, Value.int .i64 t.fails_] ∧ ownL S0 w v0 t.prog_ ∧ ownL S1 w v1 t.open_ ∧ ownL S2 w v2 t.stack_ ∧ (∀ k, S0 k → S k) ∧ (∀ k, S1 k → S k) ∧ (∀ k, S2 k → S k) ∧ (∀ k, S0 k → ¬ S1 k) ∧ (∀ k, S0 k → ¬ S2 k) ∧ ∀ k, S1 k → ¬ S2 k
  rds_len := by rintro w cs d ⟨v0, v1, v2, rfl, _⟩; rfl
  rds_below := by rintro w w' cs d ⟨v0, v1, v2, rfl, h0, h1, h2⟩ hb; exact ⟨v0, v1, v2, rfl, rdsL.below h0 hb, rdsL.below h1 hb, rdsL.below h2 hb⟩
  own_keep := by rintro S w w' cs d ⟨v0, v1, v2, S0, S1, S2, rfl, h0, h1, h2, s0, s1, s2, d⟩ hk; exact ⟨v0, v1, v2, S0, S1, S2, rfl, ownL.keep h0 fun k h => hk k (s0 k h), ownL.keep h1 fun k h => hk k (s1 k h), ownL.keep h2 fun k h => hk k (s2 k h), s0, s1, s2, d⟩
  own_mono := by rintro S T w cs d ⟨v0, v1, v2, S0, S1, S2, rfl, h0, h1, h2, s0, s1, s2, d⟩ hk; exact ⟨v0, v1, v2, S0, S1, S2, rfl, h0, h1, h2, fun k h => hk k (s0 k h), fun k h => hk k (s1 k h), fun k h => hk k (s2 k h), d⟩
  own_rds := by rintro S w cs d ⟨v0, v1, v2, S0, S1, S2, rfl, h0, h1, h2, _⟩; exact ⟨v0, v1, v2, rfl, ownL.rds h0, ownL.rds h1, ownL.rds h2⟩
theorem infoThread : (Try.prog.info? 55).map (fun i => (i.zero, i.size, i.bytes)) = some (some (.agg #[.int .i64 0, .slice none 0 0, .int .i64 0, .int .i64 0, .int .i64 0, .int .i64 0, .int .i64 0, .slice none 0 0, .int .i64 0, .slice none 0 0, .int .i64 0, .int .i64 0, .int .i64 0, .int .i64 0]), 14, 160) := by kernel_rfl
def tSum (xs : List ThreadD) : Nat := (xs.map szThreadD).sum
theorem tSum_take (xs : List ThreadD) (i : Nat) (h : i < xs.length) : tSum (xs.take (i+1)) = tSum (xs.take i) + szThreadD xs[i] := by
  unfold tSum
  rw [List.take_succ_eq_append_getElem h, List.map_append, List.sum_append]
  simp
theorem tSum_take_le (xs : List ThreadD) (i : Nat) : tSum (xs.take i) ≤ tSum xs := by
  unfold tSum
  conv => rhs; rw [← List.take_append_drop i xs, List.map_append, List.sum_append]
  omega
theorem tSum_at (xs : List ThreadD) (i : Nat) (h : i < xs.length) : szThreadD xs[i] ≤ tSum xs := by
  have h1 := tSum_take xs i h
  have h2 := tSum_take_le xs (i+1)
  omega
def szThreadSD (xs : List ThreadD) : Nat := xs.length + tSum xs
def ThreadSB (xs : List ThreadD) : Prop := szThreadSD xs ≤ 1048576
theorem threadSB_at {xs : List ThreadD} (h : ThreadSB xs) (i : Nat) (hi : i < xs.length) : ThreadB xs[i] := by
  have := tSum_at xs i hi
  unfold ThreadSB szThreadSD at h; unfold ThreadB; unfold szThreadD at this; omega
set_option maxHeartbeats 8000000 in
theorem eqThreadS_v (v u : Value) (xs : List ThreadD) (w : World) (h : rdsL w v xs) (g : rdsL w u xs) :
    Calls Try.prog 25 #[v, u] w fun e w' => e = .returned (.bool true) ∧ Below w.heap.size w w' := by
  obtain ⟨ad, cap, rfl, hl, hm, hc⟩ := rdsL_open h
  obtain ⟨ad2, cap2, rfl, hl2, hm2, hc2⟩ := rdsL_open g
  clear h g
  have HC := hid hc
  have GC := hid hc2
  clear hc hc2
  have hlen : xs.length ≤ 9223372036854775807 := by omega
  go_enter Try.func25, Try.ntmps25
  go_wp2
  go_loopw [5] (fun i wr => ∃ k : Nat, k ≤ xs.length ∧ i = .int .i64 k ∧ Below w.heap.size w wr) (fun i _ => xs.length - (intOf i).toNat)
  case atStart => exact ⟨0, by omega, rfl, Below.refl _ _⟩
  case round =>
    obtain ⟨k, hk, rfl, hB⟩ := hrel
    by_cases hlt : k < xs.length
    · obtain ⟨bb, off, cs, rfl, hbs, ⟨v0, v1, v2, rfl, h0, h1, h2⟩, hcell⟩ := HC.out k hlt
      obtain ⟨bb2, off2, cs2, rfl, hbs2, ⟨u0, u1, u2, rfl, g0, g1, g2⟩, hcell2⟩ := GC.out k hlt
      have c0 : w.cell? ⟨bb, off + k * 14, none⟩ = some (Value.int .i64 xs[k].id_) := hcell 0 (show 0 < 14 by omega)
      have c1 : w.cell? ⟨bb, off + k * 14 + 1, none⟩ = some (v0) := hcell 1 (show 1 < 14 by omega)
      have c2 : w.cell? ⟨bb, off + k * 14 + 2, none⟩ = some (Value.int .i64 xs[k].at_) := hcell 2 (show 2 < 14 by omega)
      have c3 : w.cell? ⟨bb, off + k * 14 + 3, none⟩ = some (Value.int .i64 xs[k].reg0_) := hcell 3 (show 3 < 14 by omega)
      have c4 : w.cell? ⟨bb, off + k * 14 + 4, none⟩ = some (Value.int .i64 xs[k].reg1_) := hcell 4 (show 4 < 14 by omega)
      have c5 : w.cell? ⟨bb, off + k * 14 + 5, none⟩ = some (Value.int .i64 xs[k].reg2_) := hcell 5 (show 5 < 14 by omega)
      have c6 : w.cell? ⟨bb, off + k * 14 + 6, none⟩ = some (Value.int .i64 xs[k].reg3_) := hcell 6 (show 6 < 14 by omega)
      have c7 : w.cell? ⟨bb, off + k * 14 + 7, none⟩ = some (v1) := hcell 7 (show 7 < 14 by omega)
      have c8 : w.cell? ⟨bb, off + k * 14 + 8, none⟩ = some (Value.int .i64 xs[k].check_) := hcell 8 (show 8 < 14 by omega)
      have c9 : w.cell? ⟨bb, off + k * 14 + 9, none⟩ = some (v2) := hcell 9 (show 9 < 14 by omega)
      have c10 : w.cell? ⟨bb, off + k * 14 + 10, none⟩ = some (Value.int .i64 xs[k].mine_) := hcell 10 (show 10 < 14 by omega)
      have c11 : w.cell? ⟨bb, off + k * 14 + 11, none⟩ = some (Value.int .i64 xs[k].state_) := hcell 11 (show 11 < 14 by omega)
      have c12 : w.cell? ⟨bb, off + k * 14 + 12, none⟩ = some (Value.int .i64 xs[k].commits_) := hcell 12 (show 12 < 14 by omega)
      have c13 : w.cell? ⟨bb, off + k * 14 + 13, none⟩ = some (Value.int .i64 xs[k].fails_) := hcell 13 (show 13 < 14 by omega)
      have d0 : w.cell? ⟨bb2, off2 + k * 14, none⟩ = some (Value.int .i64 xs[k].id_) := hcell2 0 (show 0 < 14 by omega)
      have d1 : w.cell? ⟨bb2, off2 + k * 14 + 1, none⟩ = some (u0) := hcell2 1 (show 1 < 14 by omega)
      have d2 : w.cell? ⟨bb2, off2 + k * 14 + 2, none⟩ = some (Value.int .i64 xs[k].at_) := hcell2 2 (show 2 < 14 by omega)
      have d3 : w.cell? ⟨bb2, off2 + k * 14 + 3, none⟩ = some (Value.int .i64 xs[k].reg0_) := hcell2 3 (show 3 < 14 by omega)
      have d4 : w.cell? ⟨bb2, off2 + k * 14 + 4, none⟩ = some (Value.int .i64 xs[k].reg1_) := hcell2 4 (show 4 < 14 by omega)
      have d5 : w.cell? ⟨bb2, off2 + k * 14 + 5, none⟩ = some (Value.int .i64 xs[k].reg2_) := hcell2 5 (show 5 < 14 by omega)
      have d6 : w.cell? ⟨bb2, off2 + k * 14 + 6, none⟩ = some (Value.int .i64 xs[k].reg3_) := hcell2 6 (show 6 < 14 by omega)
      have d7 : w.cell? ⟨bb2, off2 + k * 14 + 7, none⟩ = some (u1) := hcell2 7 (show 7 < 14 by omega)
      have d8 : w.cell? ⟨bb2, off2 + k * 14 + 8, none⟩ = some (Value.int .i64 xs[k].check_) := hcell2 8 (show 8 < 14 by omega)
      have d9 : w.cell? ⟨bb2, off2 + k * 14 + 9, none⟩ = some (u2) := hcell2 9 (show 9 < 14 by omega)
      have d10 : w.cell? ⟨bb2, off2 + k * 14 + 10, none⟩ = some (Value.int .i64 xs[k].mine_) := hcell2 10 (show 10 < 14 by omega)
      have d11 : w.cell? ⟨bb2, off2 + k * 14 + 11, none⟩ = some (Value.int .i64 xs[k].state_) := hcell2 11 (show 11 < 14 by omega)
      have d12 : w.cell? ⟨bb2, off2 + k * 14 + 12, none⟩ = some (Value.int .i64 xs[k].commits_) := hcell2 12 (show 12 < 14 by omega)
      have d13 : w.cell? ⟨bb2, off2 + k * 14 + 13, none⟩ = some (Value.int .i64 xs[k].fails_) := hcell2 13 (show 13 < 14 by omega)
      have e0 := (hB.cell (p := ⟨bb, off + k * 14, none⟩) hbs).trans c0
      have i0 := (hB.cell (p := ⟨bb2, off2 + k * 14, none⟩) hbs2).trans d0
      have e1 := (hB.cell (p := ⟨bb, off + k * 14 + 1, none⟩) hbs).trans c1
      have i1 := (hB.cell (p := ⟨bb2, off2 + k * 14 + 1, none⟩) hbs2).trans d1
      have e2 := (hB.cell (p := ⟨bb, off + k * 14 + 2, none⟩) hbs).trans c2
      have i2 := (hB.cell (p := ⟨bb2, off2 + k * 14 + 2, none⟩) hbs2).trans d2
      have e3 := (hB.cell (p := ⟨bb, off + k * 14 + 3, none⟩) hbs).trans c3
      have i3 := (hB.cell (p := ⟨bb2, off2 + k * 14 + 3, none⟩) hbs2).trans d3
      have e4 := (hB.cell (p := ⟨bb, off + k * 14 + 4, none⟩) hbs).trans c4
      have i4 := (hB.cell (p := ⟨bb2, off2 + k * 14 + 4, none⟩) hbs2).trans d4
      have e5 := (hB.cell (p := ⟨bb, off + k * 14 + 5, none⟩) hbs).trans c5
      have i5 := (hB.cell (p := ⟨bb2, off2 + k * 14 + 5, none⟩) hbs2).trans d5
      have e6 := (hB.cell (p := ⟨bb, off + k * 14 + 6, none⟩) hbs).trans c6
      have i6 := (hB.cell (p := ⟨bb2, off2 + k * 14 + 6, none⟩) hbs2).trans d6
      have e7 := (hB.cell (p := ⟨bb, off + k * 14 + 7, none⟩) hbs).trans c7
      have i7 := (hB.cell (p := ⟨bb2, off2 + k * 14 + 7, none⟩) hbs2).trans d7
      have e8 := (hB.cell (p := ⟨bb, off + k * 14 + 8, none⟩) hbs).trans c8
      have i8 := (hB.cell (p := ⟨bb2, off2 + k * 14 + 8, none⟩) hbs2).trans d8
      have e9 := (hB.cell (p := ⟨bb, off + k * 14 + 9, none⟩) hbs).trans c9
      have i9 := (hB.cell (p := ⟨bb2, off2 + k * 14 + 9, none⟩) hbs2).trans d9
      have e10 := (hB.cell (p := ⟨bb, off + k * 14 + 10, none⟩) hbs).trans c10
      have i10 := (hB.cell (p := ⟨bb2, off2 + k * 14 + 10, none⟩) hbs2).trans d10
      have e11 := (hB.cell (p := ⟨bb, off + k * 14 + 11, none⟩) hbs).trans c11
      have i11 := (hB.cell (p := ⟨bb2, off2 + k * 14 + 11, none⟩) hbs2).trans d11
      have e12 := (hB.cell (p := ⟨bb, off + k * 14 + 12, none⟩) hbs).trans c12
      have i12 := (hB.cell (p := ⟨bb2, off2 + k * 14 + 12, none⟩) hbs2).trans d12
      have e13 := (hB.cell (p := ⟨bb, off + k * 14 + 13, none⟩) hbs).trans c13
      have i13 := (hB.cell (p := ⟨bb2, off2 + k * 14 + 13, none⟩) hbs2).trans d13
      have hR0 := hid (rdsL.below h0 hB)
      have hR1 := hid (rdsL.below h1 hB)
      have hR2 := hid (rdsL.below h2 hB)
      have hT0 := hid (rdsL.below g0 hB)
      have hT1 := hid (rdsL.below g1 hB)
      have hT2 := hid (rdsL.below g2 hB)
      clear c0 d0 c1 d1 c2 d2 c3 d3 c4 d4 c5 d5 c6 d6 c7 d7 c8 d8 c9 d9 c10 d10 c11 d11 c12 d12 c13 d13 hcell hcell2 HC GC h0 h1 h2 g0 g1 g2
      go_wp2
      go_still_tail 8, (by kernel_rfl)
      go_wp2_with fail
      have hD : Below wr.heap.size wr wr.drew := (Below.refl _ _).drew
      refine (eqThread_o xs[k] v0 v1 v2 u0 u1 u2 _ (rdsL.below hR0.out hD) (rdsL.below hR1.out hD) (rdsL.below hR2.out hD) (rdsL.below hT0.out hD) (rdsL.below hT1.out hD) (rdsL.below hT2.out hD)).mono ?_
      rintro e w1 ⟨rfl, hB1⟩
      have hB3 := hid (show Below w.heap.size w w1 from hB.drew.trans (hB1.mono (by have := hB.size; simp; omega)))
      clear hR0 hR1 hR2 hT0 hT1 hT2 e0 i0 e1 i1 e2 i2 e3 i3 e4 i4 e5 i5 e6 i6 e7 i7 e8 i8 e9 i9 e10 i10 e11 i11 e12 i12 e13 i13
      go_wp2
      go_roundw
      case rel => exact ⟨k+1, by omega, by go_num, hB3.out⟩
      case measure => simp [intOf]; omega
    · go_wp2
      go_ret
      exact ⟨rfl, hB⟩
theorem eqThreadS_o (xs : List ThreadD) (v u : Value) (w : World) (r : rdsL w v xs) (g : rdsL w u xs) :
    Calls Try.prog 25 #[v, u] w fun e w' => e = .returned (.bool true) ∧ Below w.heap.size w w' := eqThreadS_v v u xs w r g
end Go.Proofs.Ytcafdihekamnkaa
