/- Chapter 11's data in memory: threads in a list: made, compared, told how many. (printed by tools/mk_n11.py) -/
import Derived.Test.YtbbdchlabdilcabGreatN10
namespace Go.Proofs.YtbbdchlabdilcabGreat
set_option maxRecDepth 100000
open Go.RowKit Go.Proofs Go.Own
set_option linter.unusedVariables false
set_option linter.unusedSimpArgs false
instance encThread : Enc ThreadD where
  sz := 14
  ty := 82
  rds w cs t := ∃ v0 v1 v2 : Value, cs = [Value.int .i64 t.id_, v0, Value.int .i64 t.at_, Value.int .i64 t.reg0_, Value.int .i64 t.reg1_, Value.int .i64 t.reg2_, Value.int .i64 t.reg3_, v1, Value.int .i64 t.check_, v2, Value.int .i64 t.mine_, Value.int .i64 t.state_, Value.int .i64 t.commits_, Value.int .i64 t.fails_] ∧ rdsL w v0 t.prog_ ∧ rdsL w v1 t.open_ ∧ rdsL w v2 t.stack_
  own S w cs t := ∃ v0 v1 v2 : Value, ∃ S0 S1 S2 : Nat → Prop, cs = [Value.int .i64 t.id_, v0, Value.int .i64 t.at_, Value.int .i64 t.reg0_, Value.int .i64 t.reg1_, Value.int .i64 t.reg2_, Value.int .i64 t.reg3_, v1, Value.int .i64 t.check_, v2, Value.int .i64 t.mine_, Value.int .i64 t.state_, Value.int .i64 t.commits_, Value.int .i64 t.fails_] ∧ ownL S0 w v0 t.prog_ ∧ ownL S1 w v1 t.open_ ∧ ownL S2 w v2 t.stack_ ∧ (∀ k, S0 k → S k) ∧ (∀ k, S1 k → S k) ∧ (∀ k, S2 k → S k) ∧ (∀ k, S0 k → ¬ S1 k) ∧ (∀ k, S0 k → ¬ S2 k) ∧ ∀ k, S1 k → ¬ S2 k
  rds_len := by rintro w cs d ⟨v0, v1, v2, rfl, _⟩; rfl
  rds_below := by rintro w w' cs d ⟨v0, v1, v2, rfl, h0, h1, h2⟩ hb; exact ⟨v0, v1, v2, rfl, rdsL.below h0 hb, rdsL.below h1 hb, rdsL.below h2 hb⟩
  own_keep := by rintro S w w' cs d ⟨v0, v1, v2, S0, S1, S2, rfl, h0, h1, h2, s0, s1, s2, d⟩ hk; exact ⟨v0, v1, v2, S0, S1, S2, rfl, ownL.keep h0 fun k h => hk k (s0 k h), ownL.keep h1 fun k h => hk k (s1 k h), ownL.keep h2 fun k h => hk k (s2 k h), s0, s1, s2, d⟩
  own_mono := by rintro S T w cs d ⟨v0, v1, v2, S0, S1, S2, rfl, h0, h1, h2, s0, s1, s2, d⟩ hk; exact ⟨v0, v1, v2, S0, S1, S2, rfl, h0, h1, h2, fun k h => hk k (s0 k h), fun k h => hk k (s1 k h), fun k h => hk k (s2 k h), d⟩
  own_rds := by rintro S w cs d ⟨v0, v1, v2, S0, S1, S2, rfl, h0, h1, h2, _⟩; exact ⟨v0, v1, v2, rfl, ownL.rds h0, ownL.rds h1, ownL.rds h2⟩
theorem infoThread : (Tryz.prog.info? 82).map (fun i => (i.zero, i.size, i.bytes)) = some (some (.agg #[.int .i64 0, .slice none 0 0, .int .i64 0, .int .i64 0, .int .i64 0, .int .i64 0, .int .i64 0, .slice none 0 0, .int .i64 0, .slice none 0 0, .int .i64 0, .int .i64 0, .int .i64 0, .int .i64 0]), 14, 160) := by kernel_rfl
def tSum (xs : List ThreadD) : Nat := (xs.map szThreadD).sum
theorem tSum_take (xs : List ThreadD) (i : Nat) (h : i < xs.length) : tSum (xs.take (i+1)) = tSum (xs.take i) + szThreadD xs[i] := by
  unfold tSum
  rw [List.take_succ_eq_append_getElem h, List.map_append, List.sum_append]
  simp
theorem tSum_take_le (xs : List ThreadD) (i : Nat) : tSum (xs.take i) ≤ tSum xs := by
  unfold tSum
  conv => rhs; rw [← List.take_append_drop i xs, List.map_append, List.sum_append]
  omega
theorem tSum_at (xs : List ThreadD) (i : Nat) (h : i < xs.length) : szThreadD xs[i] ≤ tSum xs := by
  have h1 := tSum_take xs i h
  have h2 := tSum_take_le xs (i+1)
  omega
def szThreadSD (xs : List ThreadD) : Nat := xs.length + tSum xs
def ThreadSB (xs : List ThreadD) : Prop := szThreadSD xs ≤ 1048576
theorem threadSB_at {xs : List ThreadD} (h : ThreadSB xs) (i : Nat) (hi : i < xs.length) : ThreadB xs[i] := by
  have := tSum_at xs i hi
  unfold ThreadSB szThreadSD at h; unfold ThreadB; unfold szThreadD at this; omega
set_option maxHeartbeats 8000000 in
theorem toThreadS_v (v : Value) (xs : List ThreadD) (w : World) (hx : xs.length ≤ 1048576) (hxs : ∀ i, (h : i < xs.length) → ThreadB xs[i]) (h : rdsL w v xs) :
    Calls Tryz.prog 21 #[v] w fun e w' => ∃ u, e = .returned u ∧ ownL (Rg w.heap.size w'.heap.size) w' u xs ∧ Below w.heap.size w w' := by
  obtain ⟨ad, cap, rfl, hl, hm, hc⟩ := rdsL_open h
  clear h
  have HC := hid hc
  have Hxs := hid hxs
  clear hc hxs
  have hlen : xs.length ≤ 9223372036854775807 := by omega
  obtain ⟨i0, hi, hz0, hz1, hz2⟩ := info_parts infoThread
  go_enter Tryz.func21, Tryz.ntmps21
  go_wp2_with (at_make; refine wpList_make_full _ rfl _ _ 38 rfl (w.heap.size) 82 i0 (.agg #[.int .i64 0, .slice none 0 0, .int .i64 0, .int .i64 0, .int .i64 0, .int .i64 0, .int .i64 0, .slice none 0 0, .int .i64 0, .slice none 0 0, .int .i64 0, .int .i64 0, .int .i64 0, .int .i64 0]) 14 Tryz.underlying38 hi hz0 hz1 _ _ _ _ xs.length rfl rfl rfl rfl (by rw [hz2]; omega) (by unfold maxLen; omega) (Nat.le_refl _) ?_)
  intro w1 hown hgrow
  have hB := (Below.refl w.heap.size w).grown hgrow (Nat.le_refl _) (by simp)
  have hz1' := hB.size
  obtain ⟨css, hF⟩ := FillL.begin (A := encThread) (base := w.heap.size) (lo := w.heap.size + 1) (mid := w1.heap.size) (xs := xs) hown (fun b hb => by have e : w.heap.size = b := Option.some.inj hb; omega) (Nat.le_refl _)
  have hmid : w.heap.size + 1 ≤ w1.heap.size := (owns_lt hown).2
  clear hown hgrow
  go_wp2
  go_loopw [4] (fun i wr => ∃ (k mid : Nat) (css : List (List Value)), k ≤ xs.length ∧ i = .int .i64 k ∧ FillL (A := encThread) w.heap.size (w.heap.size + 1) mid wr (.slice (some ⟨w.heap.size, 0, none⟩) xs.length xs.length) xs css k ∧ w.heap.size + 1 ≤ mid ∧ Below w.heap.size w wr) (fun i _ => xs.length - (intOf i).toNat)
  case atStart => exact ⟨0, w1.heap.size, css, by omega, rfl, hF, hmid, hB⟩
  case round =>
    clear hF hB hmid hz1'
    obtain ⟨k, mid, css, hk, rfl, hF, hmid, hB⟩ := hrel
    by_cases hlt : k < xs.length
    · obtain ⟨bb, off, cs, rfl, hbs, ⟨v0, v1, v2, rfl, h0, h1, h2⟩, hcell⟩ := HC.out k hlt
      have c0 : w.cell? ⟨bb, off + k * 14, none⟩ = some (Value.int .i64 xs[k].id_) := hcell 0 (show 0 < 14 by omega)
      have c1 : w.cell? ⟨bb, off + k * 14 + 1, none⟩ = some (v0) := hcell 1 (show 1 < 14 by omega)
      have c2 : w.cell? ⟨bb, off + k * 14 + 2, none⟩ = some (Value.int .i64 xs[k].at_) := hcell 2 (show 2 < 14 by omega)
      have c3 : w.cell? ⟨bb, off + k * 14 + 3, none⟩ = some (Value.int .i64 xs[k].reg0_) := hcell 3 (show 3 < 14 by omega)
      have c4 : w.cell? ⟨bb, off + k * 14 + 4, none⟩ = some (Value.int .i64 xs[k].reg1_) := hcell 4 (show 4 < 14 by omega)
      have c5 : w.cell? ⟨bb, off + k * 14 + 5, none⟩ = some (Value.int .i64 xs[k].reg2_) := hcell 5 (show 5 < 14 by omega)
      have c6 : w.cell? ⟨bb, off + k * 14 + 6, none⟩ = some (Value.int .i64 xs[k].reg3_) := hcell 6 (show 6 < 14 by omega)
      have c7 : w.cell? ⟨bb, off + k * 14 + 7, none⟩ = some (v1) := hcell 7 (show 7 < 14 by omega)
      have c8 : w.cell? ⟨bb, off + k * 14 + 8, none⟩ = some (Value.int .i64 xs[k].check_) := hcell 8 (show 8 < 14 by omega)
      have c9 : w.cell? ⟨bb, off + k * 14 + 9, none⟩ = some (v2) := hcell 9 (show 9 < 14 by omega)
      have c10 : w.cell? ⟨bb, off + k * 14 + 10, none⟩ = some (Value.int .i64 xs[k].mine_) := hcell 10 (show 10 < 14 by omega)
      have c11 : w.cell? ⟨bb, off + k * 14 + 11, none⟩ = some (Value.int .i64 xs[k].state_) := hcell 11 (show 11 < 14 by omega)
      have c12 : w.cell? ⟨bb, off + k * 14 + 12, none⟩ = some (Value.int .i64 xs[k].commits_) := hcell 12 (show 12 < 14 by omega)
      have c13 : w.cell? ⟨bb, off + k * 14 + 13, none⟩ = some (Value.int .i64 xs[k].fails_) := hcell 13 (show 13 < 14 by omega)
      have e0 := (hB.cell (p := ⟨bb, off + k * 14, none⟩) hbs).trans c0
      have e1 := (hB.cell (p := ⟨bb, off + k * 14 + 1, none⟩) hbs).trans c1
      have e2 := (hB.cell (p := ⟨bb, off + k * 14 + 2, none⟩) hbs).trans c2
      have e3 := (hB.cell (p := ⟨bb, off + k * 14 + 3, none⟩) hbs).trans c3
      have e4 := (hB.cell (p := ⟨bb, off + k * 14 + 4, none⟩) hbs).trans c4
      have e5 := (hB.cell (p := ⟨bb, off + k * 14 + 5, none⟩) hbs).trans c5
      have e6 := (hB.cell (p := ⟨bb, off + k * 14 + 6, none⟩) hbs).trans c6
      have e7 := (hB.cell (p := ⟨bb, off + k * 14 + 7, none⟩) hbs).trans c7
      have e8 := (hB.cell (p := ⟨bb, off + k * 14 + 8, none⟩) hbs).trans c8
      have e9 := (hB.cell (p := ⟨bb, off + k * 14 + 9, none⟩) hbs).trans c9
      have e10 := (hB.cell (p := ⟨bb, off + k * 14 + 10, none⟩) hbs).trans c10
      have e11 := (hB.cell (p := ⟨bb, off + k * 14 + 11, none⟩) hbs).trans c11
      have e12 := (hB.cell (p := ⟨bb, off + k * 14 + 12, none⟩) hbs).trans c12
      have e13 := (hB.cell (p := ⟨bb, off + k * 14 + 13, none⟩) hbs).trans c13
      have hR0 := hid (rdsL.below h0 hB)
      have hR1 := hid (rdsL.below h1 hB)
      have hR2 := hid (rdsL.below h2 hB)
      have hHF := hid hF
      have hml := hid hmid
      clear c0 c1 c2 c3 c4 c5 c6 c7 c8 c9 c10 c11 c12 c13 hcell HC hF hmid h0 h1 h2
      go_wp2_with fail
      refine (toThread_o xs[k] v0 v1 v2 _ hR0.out hR1.out hR2.out (Hxs.out k hlt)).mono ?_
      rintro e w2 ⟨u0, u1, u2, S0, S1, S2, rfl, m0, m1, m2, g0, g1, g2, dj01, dj02, dj12, b2⟩
      obtain ⟨ua, uc, rfl, -, -⟩ := ownL_len m0
      obtain ⟨va, vc, rfl, -, -⟩ := ownL_len m1
      obtain ⟨xa, xc, rfl, -, -⟩ := ownL_len m2
      have hB2 := hB.trans (b2.mono hB.size)
      have hF2 := hid (hHF.out.below b2)
      obtain ⟨⟨y0, d0⟩, f0⟩ := hF2.out.cell k 0 hlt (show 0 < 14 by omega)
      change w2.cell? ⟨w.heap.size, k * 14, none⟩ = some y0 at d0
      change w2.frozen? ⟨w.heap.size, k * 14, none⟩ = false at f0
      obtain ⟨⟨y1, d1⟩, f1⟩ := hF2.out.cell k 1 hlt (show 1 < 14 by omega)
      change w2.cell? ⟨w.heap.size, k * 14 + 1, none⟩ = some y1 at d1
      change w2.frozen? ⟨w.heap.size, k * 14 + 1, none⟩ = false at f1
      obtain ⟨⟨y2, d2⟩, f2⟩ := hF2.out.cell k 2 hlt (show 2 < 14 by omega)
      change w2.cell? ⟨w.heap.size, k * 14 + 2, none⟩ = some y2 at d2
      change w2.frozen? ⟨w.heap.size, k * 14 + 2, none⟩ = false at f2
      obtain ⟨⟨y3, d3⟩, f3⟩ := hF2.out.cell k 3 hlt (show 3 < 14 by omega)
      change w2.cell? ⟨w.heap.size, k * 14 + 3, none⟩ = some y3 at d3
      change w2.frozen? ⟨w.heap.size, k * 14 + 3, none⟩ = false at f3
      obtain ⟨⟨y4, d4⟩, f4⟩ := hF2.out.cell k 4 hlt (show 4 < 14 by omega)
      change w2.cell? ⟨w.heap.size, k * 14 + 4, none⟩ = some y4 at d4
      change w2.frozen? ⟨w.heap.size, k * 14 + 4, none⟩ = false at f4
      obtain ⟨⟨y5, d5⟩, f5⟩ := hF2.out.cell k 5 hlt (show 5 < 14 by omega)
      change w2.cell? ⟨w.heap.size, k * 14 + 5, none⟩ = some y5 at d5
      change w2.frozen? ⟨w.heap.size, k * 14 + 5, none⟩ = false at f5
      obtain ⟨⟨y6, d6⟩, f6⟩ := hF2.out.cell k 6 hlt (show 6 < 14 by omega)
      change w2.cell? ⟨w.heap.size, k * 14 + 6, none⟩ = some y6 at d6
      change w2.frozen? ⟨w.heap.size, k * 14 + 6, none⟩ = false at f6
      obtain ⟨⟨y7, d7⟩, f7⟩ := hF2.out.cell k 7 hlt (show 7 < 14 by omega)
      change w2.cell? ⟨w.heap.size, k * 14 + 7, none⟩ = some y7 at d7
      change w2.frozen? ⟨w.heap.size, k * 14 + 7, none⟩ = false at f7
      obtain ⟨⟨y8, d8⟩, f8⟩ := hF2.out.cell k 8 hlt (show 8 < 14 by omega)
      change w2.cell? ⟨w.heap.size, k * 14 + 8, none⟩ = some y8 at d8
      change w2.frozen? ⟨w.heap.size, k * 14 + 8, none⟩ = false at f8
      obtain ⟨⟨y9, d9⟩, f9⟩ := hF2.out.cell k 9 hlt (show 9 < 14 by omega)
      change w2.cell? ⟨w.heap.size, k * 14 + 9, none⟩ = some y9 at d9
      change w2.frozen? ⟨w.heap.size, k * 14 + 9, none⟩ = false at f9
      obtain ⟨⟨y10, d10⟩, f10⟩ := hF2.out.cell k 10 hlt (show 10 < 14 by omega)
      change w2.cell? ⟨w.heap.size, k * 14 + 10, none⟩ = some y10 at d10
      change w2.frozen? ⟨w.heap.size, k * 14 + 10, none⟩ = false at f10
      obtain ⟨⟨y11, d11⟩, f11⟩ := hF2.out.cell k 11 hlt (show 11 < 14 by omega)
      change w2.cell? ⟨w.heap.size, k * 14 + 11, none⟩ = some y11 at d11
      change w2.frozen? ⟨w.heap.size, k * 14 + 11, none⟩ = false at f11
      obtain ⟨⟨y12, d12⟩, f12⟩ := hF2.out.cell k 12 hlt (show 12 < 14 by omega)
      change w2.cell? ⟨w.heap.size, k * 14 + 12, none⟩ = some y12 at d12
      change w2.frozen? ⟨w.heap.size, k * 14 + 12, none⟩ = false at f12
      obtain ⟨⟨y13, d13⟩, f13⟩ := hF2.out.cell k 13 hlt (show 13 < 14 by omega)
      change w2.cell? ⟨w.heap.size, k * 14 + 13, none⟩ = some y13 at d13
      change w2.frozen? ⟨w.heap.size, k * 14 + 13, none⟩ = false at f13
      have hsz : w.heap.size ≤ w2.heap.size := hB2.size
      obtain ⟨W9, hW9⟩ : ∃ X, ((((((((((((((w2.setCell ⟨w.heap.size, k * 14, none⟩ (Value.int .i64 xs[k].id_)).setCell ⟨w.heap.size, k * 14 + 1, none⟩ (Value.slice ua xs[k].prog_.length uc)).setCell ⟨w.heap.size, k * 14 + 2, none⟩ (Value.int .i64 xs[k].at_)).setCell ⟨w.heap.size, k * 14 + 3, none⟩ (Value.int .i64 xs[k].reg0_)).setCell ⟨w.heap.size, k * 14 + 4, none⟩ (Value.int .i64 xs[k].reg1_)).setCell ⟨w.heap.size, k * 14 + 5, none⟩ (Value.int .i64 xs[k].reg2_)).setCell ⟨w.heap.size, k * 14 + 6, none⟩ (Value.int .i64 xs[k].reg3_)).setCell ⟨w.heap.size, k * 14 + 7, none⟩ (Value.slice va xs[k].open_.length vc)).setCell ⟨w.heap.size, k * 14 + 8, none⟩ (Value.int .i64 xs[k].check_)).setCell ⟨w.heap.size, k * 14 + 9, none⟩ (Value.slice xa xs[k].stack_.length xc)).setCell ⟨w.heap.size, k * 14 + 10, none⟩ (Value.int .i64 xs[k].mine_)).setCell ⟨w.heap.size, k * 14 + 11, none⟩ (Value.int .i64 xs[k].state_)).setCell ⟨w.heap.size, k * 14 + 12, none⟩ (Value.int .i64 xs[k].commits_)).setCell ⟨w.heap.size, k * 14 + 13, none⟩ (Value.int .i64 xs[k].fails_)) = X := ⟨_, rfl⟩
      have hF3 : FillL (A := encThread) w.heap.size (w.heap.size + 1) mid W9 (.slice (some ⟨w.heap.size, 0, none⟩) xs.length xs.length) xs (css.set k [Value.int .i64 xs[k].id_, Value.slice ua xs[k].prog_.length uc, Value.int .i64 xs[k].at_, Value.int .i64 xs[k].reg0_, Value.int .i64 xs[k].reg1_, Value.int .i64 xs[k].reg2_, Value.int .i64 xs[k].reg3_, Value.slice va xs[k].open_.length vc, Value.int .i64 xs[k].check_, Value.slice xa xs[k].stack_.length xc, Value.int .i64 xs[k].mine_, Value.int .i64 xs[k].state_, Value.int .i64 xs[k].commits_, Value.int .i64 xs[k].fails_]) k := by
        rw [← hW9]; exact hF2.out.putAll k (Nat.le_refl _) hlt [Value.int .i64 xs[k].id_, Value.slice ua xs[k].prog_.length uc, Value.int .i64 xs[k].at_, Value.int .i64 xs[k].reg0_, Value.int .i64 xs[k].reg1_, Value.int .i64 xs[k].reg2_, Value.int .i64 xs[k].reg3_, Value.slice va xs[k].open_.length vc, Value.int .i64 xs[k].check_, Value.slice xa xs[k].stack_.length xc, Value.int .i64 xs[k].mine_, Value.int .i64 xs[k].state_, Value.int .i64 xs[k].commits_, Value.int .i64 xs[k].fails_] rfl
      have hB9 : Below w.heap.size w W9 := by
        rw [← hW9]; exact ((((((((((((((hB2.setCell (Nat.le_refl _) _).setCell (Nat.le_refl _) _).setCell (Nat.le_refl _) _).setCell (Nat.le_refl _) _).setCell (Nat.le_refl _) _).setCell (Nat.le_refl _) _).setCell (Nat.le_refl _) _).setCell (Nat.le_refl _) _).setCell (Nat.le_refl _) _).setCell (Nat.le_refl _) _).setCell (Nat.le_refl _) _).setCell (Nat.le_refl _) _).setCell (Nat.le_refl _) _).setCell (Nat.le_refl _) _)
      have hs9 : W9.heap.size = w2.heap.size := by rw [← hW9]; simp [World.setCell]
      have hk9 : ∀ q, Rg wr.heap.size w2.heap.size q → W9.heap[q]? = w2.heap[q]? := fun q hq => by
        rw [← hW9]
        have hm1 := hml.out
        have hm2 : mid ≤ wr.heap.size := hHF.out.2.2.2.2.1
        have hne : q ≠ w.heap.size := by have := hq.1; omega
        rw [heap_setCell_other _ _ q _ hne, heap_setCell_other _ _ q _ hne, heap_setCell_other _ _ q _ hne, heap_setCell_other _ _ q _ hne, heap_setCell_other _ _ q _ hne, heap_setCell_other _ _ q _ hne, heap_setCell_other _ _ q _ hne, heap_setCell_other _ _ q _ hne, heap_setCell_other _ _ q _ hne, heap_setCell_other _ _ q _ hne, heap_setCell_other _ _ q _ hne, heap_setCell_other _ _ q _ hne, heap_setCell_other _ _ q _ hne, heap_setCell_other _ _ q _ hne]
      have hlc : k < (css.set k [Value.int .i64 xs[k].id_, Value.slice ua xs[k].prog_.length uc, Value.int .i64 xs[k].at_, Value.int .i64 xs[k].reg0_, Value.int .i64 xs[k].reg1_, Value.int .i64 xs[k].reg2_, Value.int .i64 xs[k].reg3_, Value.slice va xs[k].open_.length vc, Value.int .i64 xs[k].check_, Value.slice xa xs[k].stack_.length xc, Value.int .i64 xs[k].mine_, Value.int .i64 xs[k].state_, Value.int .i64 xs[k].commits_, Value.int .i64 xs[k].fails_]).length := by rw [hF3.len]; exact hlt
      have hF4 := hid (hF3.next hlc hlt (a := wr.heap.size) (b := w2.heap.size) (hHF.out.2.2.2.2.1) (by have := hml.out; have : mid ≤ wr.heap.size := hHF.out.2.2.2.2.1; omega) b2.size (by omega) (by rw [List.getElem_set_self]; exact ⟨_, _, _, S0, S1, S2, rfl, m0.keep fun q hq => hk9 q (g0 q hq), m1.keep fun q hq => hk9 q (g1 q hq), m2.keep fun q hq => hk9 q (g2 q hq), g0, g1, g2, dj01, dj02, dj12⟩))
      have hm4 := hid (show w.heap.size + 1 ≤ w2.heap.size by have h1 := hml.out; have h2 : mid ≤ wr.heap.size := hHF.out.2.2.2.2.1; have h3 := b2.size; omega)
      have HW := hid hW9
      have HB9 := hid hB9
      clear hW9 hF3 hB9 hk9 hlc hHF hml hF2 m0 m1 m2 hR0 hR1 hR2 e0 e1 e2 e3 e4 e5 e6 e7 e8 e9 e10 e11 e12 e13
      go_wp2
      rw [HW.out]
      go_roundw
      case rel => exact ⟨k+1, w2.heap.size, _, by omega, by go_num, hF4.out, hm4.out, HB9.out⟩
      case measure => simp [intOf]; omega
    · obtain rfl : k = xs.length := by omega
      have hD := hid (hF.done (Nat.le_add_right _ 1))
      clear hF HC
      go_wp2
      go_ret
      exact ⟨_, rfl, hD.out, hB⟩
set_option maxHeartbeats 8000000 in
theorem eqThreadS_v (v u : Value) (xs : List ThreadD) (w : World) (h : rdsL w v xs) (g : rdsL w u xs) :
    Calls Tryz.prog 26 #[v, u] w fun e w' => e = .returned (.bool true) ∧ Below w.heap.size w w' := by
  obtain ⟨ad, cap, rfl, hl, hm, hc⟩ := rdsL_open h
  obtain ⟨ad2, cap2, rfl, hl2, hm2, hc2⟩ := rdsL_open g
  clear h g
  have HC := hid hc
  have GC := hid hc2
  clear hc hc2
  have hlen : xs.length ≤ 9223372036854775807 := by omega
  go_enter Tryz.func26, Tryz.ntmps26
  go_wp2
  go_loopw [5] (fun i wr => ∃ k : Nat, k ≤ xs.length ∧ i = .int .i64 k ∧ Below w.heap.size w wr) (fun i _ => xs.length - (intOf i).toNat)
  case atStart => exact ⟨0, by omega, rfl, Below.refl _ _⟩
  case round =>
    obtain ⟨k, hk, rfl, hB⟩ := hrel
    by_cases hlt : k < xs.length
    · obtain ⟨bb, off, cs, rfl, hbs, ⟨v0, v1, v2, rfl, h0, h1, h2⟩, hcell⟩ := HC.out k hlt
      obtain ⟨bb2, off2, cs2, rfl, hbs2, ⟨u0, u1, u2, rfl, g0, g1, g2⟩, hcell2⟩ := GC.out k hlt
      have c0 : w.cell? ⟨bb, off + k * 14, none⟩ = some (Value.int .i64 xs[k].id_) := hcell 0 (show 0 < 14 by omega)
      have c1 : w.cell? ⟨bb, off + k * 14 + 1, none⟩ = some (v0) := hcell 1 (show 1 < 14 by omega)
      have c2 : w.cell? ⟨bb, off + k * 14 + 2, none⟩ = some (Value.int .i64 xs[k].at_) := hcell 2 (show 2 < 14 by omega)
      have c3 : w.cell? ⟨bb, off + k * 14 + 3, none⟩ = some (Value.int .i64 xs[k].reg0_) := hcell 3 (show 3 < 14 by omega)
      have c4 : w.cell? ⟨bb, off + k * 14 + 4, none⟩ = some (Value.int .i64 xs[k].reg1_) := hcell 4 (show 4 < 14 by omega)
      have c5 : w.cell? ⟨bb, off + k * 14 + 5, none⟩ = some (Value.int .i64 xs[k].reg2_) := hcell 5 (show 5 < 14 by omega)
      have c6 : w.cell? ⟨bb, off + k * 14 + 6, none⟩ = some (Value.int .i64 xs[k].reg3_) := hcell 6 (show 6 < 14 by omega)
      have c7 : w.cell? ⟨bb, off + k * 14 + 7, none⟩ = some (v1) := hcell 7 (show 7 < 14 by omega)
      have c8 : w.cell? ⟨bb, off + k * 14 + 8, none⟩ = some (Value.int .i64 xs[k].check_) := hcell 8 (show 8 < 14 by omega)
      have c9 : w.cell? ⟨bb, off + k * 14 + 9, none⟩ = some (v2) := hcell 9 (show 9 < 14 by omega)
      have c10 : w.cell? ⟨bb, off + k * 14 + 10, none⟩ = some (Value.int .i64 xs[k].mine_) := hcell 10 (show 10 < 14 by omega)
      have c11 : w.cell? ⟨bb, off + k * 14 + 11, none⟩ = some (Value.int .i64 xs[k].state_) := hcell 11 (show 11 < 14 by omega)
      have c12 : w.cell? ⟨bb, off + k * 14 + 12, none⟩ = some (Value.int .i64 xs[k].commits_) := hcell 12 (show 12 < 14 by omega)
      have c13 : w.cell? ⟨bb, off + k * 14 + 13, none⟩ = some (Value.int .i64 xs[k].fails_) := hcell 13 (show 13 < 14 by omega)
      have d0 : w.cell? ⟨bb2, off2 + k * 14, none⟩ = some (Value.int .i64 xs[k].id_) := hcell2 0 (show 0 < 14 by omega)
      have d1 : w.cell? ⟨bb2, off2 + k * 14 + 1, none⟩ = some (u0) := hcell2 1 (show 1 < 14 by omega)
      have d2 : w.cell? ⟨bb2, off2 + k * 14 + 2, none⟩ = some (Value.int .i64 xs[k].at_) := hcell2 2 (show 2 < 14 by omega)
      have d3 : w.cell? ⟨bb2, off2 + k * 14 + 3, none⟩ = some (Value.int .i64 xs[k].reg0_) := hcell2 3 (show 3 < 14 by omega)
      have d4 : w.cell? ⟨bb2, off2 + k * 14 + 4, none⟩ = some (Value.int .i64 xs[k].reg1_) := hcell2 4 (show 4 < 14 by omega)
      have d5 : w.cell? ⟨bb2, off2 + k * 14 + 5, none⟩ = some (Value.int .i64 xs[k].reg2_) := hcell2 5 (show 5 < 14 by omega)
      have d6 : w.cell? ⟨bb2, off2 + k * 14 + 6, none⟩ = some (Value.int .i64 xs[k].reg3_) := hcell2 6 (show 6 < 14 by omega)
      have d7 : w.cell? ⟨bb2, off2 + k * 14 + 7, none⟩ = some (u1) := hcell2 7 (show 7 < 14 by omega)
      have d8 : w.cell? ⟨bb2, off2 + k * 14 + 8, none⟩ = some (Value.int .i64 xs[k].check_) := hcell2 8 (show 8 < 14 by omega)
      have d9 : w.cell? ⟨bb2, off2 + k * 14 + 9, none⟩ = some (u2) := hcell2 9 (show 9 < 14 by omega)
      have d10 : w.cell? ⟨bb2, off2 + k * 14 + 10, none⟩ = some (Value.int .i64 xs[k].mine_) := hcell2 10 (show 10 < 14 by omega)
      have d11 : w.cell? ⟨bb2, off2 + k * 14 + 11, none⟩ = some (Value.int .i64 xs[k].state_) := hcell2 11 (show 11 < 14 by omega)
      have d12 : w.cell? ⟨bb2, off2 + k * 14 + 12, none⟩ = some (Value.int .i64 xs[k].commits_) := hcell2 12 (show 12 < 14 by omega)
      have d13 : w.cell? ⟨bb2, off2 + k * 14 + 13, none⟩ = some (Value.int .i64 xs[k].fails_) := hcell2 13 (show 13 < 14 by omega)
      have e0 := (hB.cell (p := ⟨bb, off + k * 14, none⟩) hbs).trans c0
      have i0 := (hB.cell (p := ⟨bb2, off2 + k * 14, none⟩) hbs2).trans d0
      have e1 := (hB.cell (p := ⟨bb, off + k * 14 + 1, none⟩) hbs).trans c1
      have i1 := (hB.cell (p := ⟨bb2, off2 + k * 14 + 1, none⟩) hbs2).trans d1
      have e2 := (hB.cell (p := ⟨bb, off + k * 14 + 2, none⟩) hbs).trans c2
      have i2 := (hB.cell (p := ⟨bb2, off2 + k * 14 + 2, none⟩) hbs2).trans d2
      have e3 := (hB.cell (p := ⟨bb, off + k * 14 + 3, none⟩) hbs).trans c3
      have i3 := (hB.cell (p := ⟨bb2, off2 + k * 14 + 3, none⟩) hbs2).trans d3
      have e4 := (hB.cell (p := ⟨bb, off + k * 14 + 4, none⟩) hbs).trans c4
      have i4 := (hB.cell (p := ⟨bb2, off2 + k * 14 + 4, none⟩) hbs2).trans d4
      have e5 := (hB.cell (p := ⟨bb, off + k * 14 + 5, none⟩) hbs).trans c5
      have i5 := (hB.cell (p := ⟨bb2, off2 + k * 14 + 5, none⟩) hbs2).trans d5
      have e6 := (hB.cell (p := ⟨bb, off + k * 14 + 6, none⟩) hbs).trans c6
      have i6 := (hB.cell (p := ⟨bb2, off2 + k * 14 + 6, none⟩) hbs2).trans d6
      have e7 := (hB.cell (p := ⟨bb, off + k * 14 + 7, none⟩) hbs).trans c7
      have i7 := (hB.cell (p := ⟨bb2, off2 + k * 14 + 7, none⟩) hbs2).trans d7
      have e8 := (hB.cell (p := ⟨bb, off + k * 14 + 8, none⟩) hbs).trans c8
      have i8 := (hB.cell (p := ⟨bb2, off2 + k * 14 + 8, none⟩) hbs2).trans d8
      have e9 := (hB.cell (p := ⟨bb, off + k * 14 + 9, none⟩) hbs).trans c9
      have i9 := (hB.cell (p := ⟨bb2, off2 + k * 14 + 9, none⟩) hbs2).trans d9
      have e10 := (hB.cell (p := ⟨bb, off + k * 14 + 10, none⟩) hbs).trans c10
      have i10 := (hB.cell (p := ⟨bb2, off2 + k * 14 + 10, none⟩) hbs2).trans d10
      have e11 := (hB.cell (p := ⟨bb, off + k * 14 + 11, none⟩) hbs).trans c11
      have i11 := (hB.cell (p := ⟨bb2, off2 + k * 14 + 11, none⟩) hbs2).trans d11
      have e12 := (hB.cell (p := ⟨bb, off + k * 14 + 12, none⟩) hbs).trans c12
      have i12 := (hB.cell (p := ⟨bb2, off2 + k * 14 + 12, none⟩) hbs2).trans d12
      have e13 := (hB.cell (p := ⟨bb, off + k * 14 + 13, none⟩) hbs).trans c13
      have i13 := (hB.cell (p := ⟨bb2, off2 + k * 14 + 13, none⟩) hbs2).trans d13
      have hR0 := hid (rdsL.below h0 hB)
      have hR1 := hid (rdsL.below h1 hB)
      have hR2 := hid (rdsL.below h2 hB)
      have hT0 := hid (rdsL.below g0 hB)
      have hT1 := hid (rdsL.below g1 hB)
      have hT2 := hid (rdsL.below g2 hB)
      clear c0 d0 c1 d1 c2 d2 c3 d3 c4 d4 c5 d5 c6 d6 c7 d7 c8 d8 c9 d9 c10 d10 c11 d11 c12 d12 c13 d13 hcell hcell2 HC GC h0 h1 h2 g0 g1 g2
      go_wp2
      go_still_tail 8, (by kernel_rfl)
      go_wp2_with fail
      have hD : Below wr.heap.size wr wr.drew := (Below.refl _ _).drew
      refine (eqThread_o xs[k] v0 v1 v2 u0 u1 u2 _ (rdsL.below hR0.out hD) (rdsL.below hR1.out hD) (rdsL.below hR2.out hD) (rdsL.below hT0.out hD) (rdsL.below hT1.out hD) (rdsL.below hT2.out hD)).mono ?_
      rintro e w1 ⟨rfl, hB1⟩
      have hB3 := hid (show Below w.heap.size w w1 from hB.drew.trans (hB1.mono (by have := hB.size; simp; omega)))
      clear hR0 hR1 hR2 hT0 hT1 hT2 e0 i0 e1 i1 e2 i2 e3 i3 e4 i4 e5 i5 e6 i6 e7 i7 e8 i8 e9 i9 e10 i10 e11 i11 e12 i12 e13 i13
      go_wp2
      go_roundw
      case rel => exact ⟨k+1, by omega, by go_num, hB3.out⟩
      case measure => simp [intOf]; omega
    · go_wp2
      go_ret
      exact ⟨rfl, hB⟩
set_option maxHeartbeats 8000000 in
theorem szThreadS_v (v : Value) (xs : List ThreadD) (k : Int) (w : World) (h0 : 0 ≤ k) (h1 : k ≤ 1048576) (h : rdsL w v xs) :
    Calls Tryz.prog 15 #[v, .int .i64 k] w fun e w' => e = .returned (.int .i64 (szR k (szThreadSD xs))) ∧ Below w.heap.size w w' := by
  obtain ⟨a, cap, rfl, hl, hm, hc⟩ := rdsL_open h
  clear h
  have HC := hid hc
  clear hc
  have hlen : xs.length ≤ 9223372036854775807 := by omega
  have hsz := hid (show szThreadSD xs = xs.length + tSum xs from rfl)
  by_cases hk : k < (xs.length : Int)
  · have hn := hid (show (szR k (szThreadSD xs)) = -1 from if_pos (by rw [hsz.out]; omega))
    have hk2 : k - (xs.length : Int) < 0 := by omega
    go_enter Tryz.func15, Tryz.ntmps15
    go_wp2
    go_ret
    exact ⟨ret_int hn.out.symm, Below.refl _ _⟩
  have hk2 : ¬ (k - (xs.length : Int) < 0) := by omega
  go_enter Tryz.func15, Tryz.ntmps15
  go_wp2
  go_loopw [1, 5] (fun kk i wr => ∃ j : Nat, j ≤ xs.length ∧ i = .int .i64 j ∧ kk = .int .i64 (k - xs.length - tSum (xs.take j)) ∧ (tSum (xs.take j) : Int) ≤ k - xs.length ∧ Below w.heap.size w wr) (fun _ i _ => xs.length - (intOf i).toNat)
  case atStart => exact ⟨0, by omega, rfl, by simp [tSum], by simp [tSum]; omega, Below.refl _ _⟩
  case round =>
    obtain ⟨j, hj, rfl, rfl, hle, hB⟩ := hrel
    by_cases hlt : j < xs.length
    · obtain ⟨bb, off, cs, rfl, hbs, ⟨v0, v1, v2, rfl, r0, r1, r2⟩, hcell⟩ := HC.out j hlt
      have hst := tSum_take xs j hlt
      have hst2 := tSum_take_le xs (j+1)
      have c0 : w.cell? ⟨bb, off + j * 14, none⟩ = some (Value.int .i64 xs[j].id_) := hcell 0 (show 0 < 14 by omega)
      have c1 : w.cell? ⟨bb, off + j * 14 + 1, none⟩ = some (v0) := hcell 1 (show 1 < 14 by omega)
      have c2 : w.cell? ⟨bb, off + j * 14 + 2, none⟩ = some (Value.int .i64 xs[j].at_) := hcell 2 (show 2 < 14 by omega)
      have c3 : w.cell? ⟨bb, off + j * 14 + 3, none⟩ = some (Value.int .i64 xs[j].reg0_) := hcell 3 (show 3 < 14 by omega)
      have c4 : w.cell? ⟨bb, off + j * 14 + 4, none⟩ = some (Value.int .i64 xs[j].reg1_) := hcell 4 (show 4 < 14 by omega)
      have c5 : w.cell? ⟨bb, off + j * 14 + 5, none⟩ = some (Value.int .i64 xs[j].reg2_) := hcell 5 (show 5 < 14 by omega)
      have c6 : w.cell? ⟨bb, off + j * 14 + 6, none⟩ = some (Value.int .i64 xs[j].reg3_) := hcell 6 (show 6 < 14 by omega)
      have c7 : w.cell? ⟨bb, off + j * 14 + 7, none⟩ = some (v1) := hcell 7 (show 7 < 14 by omega)
      have c8 : w.cell? ⟨bb, off + j * 14 + 8, none⟩ = some (Value.int .i64 xs[j].check_) := hcell 8 (show 8 < 14 by omega)
      have c9 : w.cell? ⟨bb, off + j * 14 + 9, none⟩ = some (v2) := hcell 9 (show 9 < 14 by omega)
      have c10 : w.cell? ⟨bb, off + j * 14 + 10, none⟩ = some (Value.int .i64 xs[j].mine_) := hcell 10 (show 10 < 14 by omega)
      have c11 : w.cell? ⟨bb, off + j * 14 + 11, none⟩ = some (Value.int .i64 xs[j].state_) := hcell 11 (show 11 < 14 by omega)
      have c12 : w.cell? ⟨bb, off + j * 14 + 12, none⟩ = some (Value.int .i64 xs[j].commits_) := hcell 12 (show 12 < 14 by omega)
      have c13 : w.cell? ⟨bb, off + j * 14 + 13, none⟩ = some (Value.int .i64 xs[j].fails_) := hcell 13 (show 13 < 14 by omega)
      have e0 := (hB.cell (p := ⟨bb, off + j * 14, none⟩) hbs).trans c0
      have e1 := (hB.cell (p := ⟨bb, off + j * 14 + 1, none⟩) hbs).trans c1
      have e2 := (hB.cell (p := ⟨bb, off + j * 14 + 2, none⟩) hbs).trans c2
      have e3 := (hB.cell (p := ⟨bb, off + j * 14 + 3, none⟩) hbs).trans c3
      have e4 := (hB.cell (p := ⟨bb, off + j * 14 + 4, none⟩) hbs).trans c4
      have e5 := (hB.cell (p := ⟨bb, off + j * 14 + 5, none⟩) hbs).trans c5
      have e6 := (hB.cell (p := ⟨bb, off + j * 14 + 6, none⟩) hbs).trans c6
      have e7 := (hB.cell (p := ⟨bb, off + j * 14 + 7, none⟩) hbs).trans c7
      have e8 := (hB.cell (p := ⟨bb, off + j * 14 + 8, none⟩) hbs).trans c8
      have e9 := (hB.cell (p := ⟨bb, off + j * 14 + 9, none⟩) hbs).trans c9
      have e10 := (hB.cell (p := ⟨bb, off + j * 14 + 10, none⟩) hbs).trans c10
      have e11 := (hB.cell (p := ⟨bb, off + j * 14 + 11, none⟩) hbs).trans c11
      have e12 := (hB.cell (p := ⟨bb, off + j * 14 + 12, none⟩) hbs).trans c12
      have e13 := (hB.cell (p := ⟨bb, off + j * 14 + 13, none⟩) hbs).trans c13
      generalize hQ : k - (xs.length : Int) - (tSum (xs.take j) : Int) = Q at *
      have hQ0 : 0 ≤ Q := by omega
      have hQ1 : Q ≤ 1048576 := by omega
      have hR0 := hid (rdsL.below r0 hB)
      have hR1 := hid (rdsL.below r1 hB)
      have hR2 := hid (rdsL.below r2 hB)
      clear c0 c1 c2 c3 c4 c5 c6 c7 c8 c9 c10 c11 c12 c13 hcell HC r0 r1 r2
      go_wp2_with fail
      refine (szThread_o xs[j] v0 v1 v2 Q _ hQ0 hQ1 hR0.out hR1.out hR2.out).mono ?_
      rintro e w3 ⟨rfl, b3⟩
      have hB3 := hid (hB.trans (b3.mono hB.size))
      clear e0 e1 e2 e3 e4 e5 e6 e7 e8 e9 e10 e11 e12 e13 hR0 hR1 hR2
      by_cases hq : Q < (szThreadD xs[j] : Int)
      · have hn := hid (show (szR k (szThreadSD xs)) = -1 from if_pos (by rw [hsz.out]; omega))
        rw [szR_of, if_pos hq]
        go_wp2
        go_ret
        exact ⟨ret_int hn.out.symm, hB3.out⟩
      · rw [szR_of, if_neg hq]
        have hKn := hid (show Q - (szThreadD xs[j] : Int) = k - xs.length - tSum (xs.take (j+1)) by omega)
        have hle2 := hid (show (tSum (xs.take (j+1)) : Int) ≤ k - xs.length by omega)
        have hpos : ¬ (Q - (szThreadD xs[j] : Int) < 0) := by omega
        go_wp2
        go_roundw
        case rel => exact ⟨j+1, by omega, by go_num, by rw [← hKn.out], hle2.out, hB3.out⟩
        case measure => simp [intOf]; omega
    · obtain rfl : j = xs.length := by omega
      have hKe : tSum (xs.take xs.length) = tSum xs := by rw [List.take_length]
      have hn := hid (show (szR k (szThreadSD xs)) = k - xs.length - tSum (xs.take xs.length) by rw [szR, if_neg (by rw [hsz.out]; omega), hsz.out, hKe]; omega)
      clear hKe
      go_wp2
      go_ret
      exact ⟨ret_int hn.out.symm, hB⟩
theorem toThreadS_o (xs : List ThreadD) (v : Value) (w : World) (r : rdsL w v xs) (hb : ThreadSB xs) :
    Calls Tryz.prog 21 #[v] w fun e w' => ∃ u : Value, ∃ S : Nat → Prop, e = .returned u ∧ ownL S w' u xs ∧ (∀ b, S b → Rg w.heap.size w'.heap.size b) ∧ Below w.heap.size w w' := by
  refine (toThreadS_v v xs w (by unfold ThreadSB szThreadSD at hb; omega) (fun i hi => threadSB_at hb i hi) r).mono ?_
  rintro e w' ⟨u, rfl, o, b⟩
  exact ⟨u, _, rfl, o, fun _ h => h, b⟩
theorem eqThreadS_o (xs : List ThreadD) (v u : Value) (w : World) (r : rdsL w v xs) (g : rdsL w u xs) :
    Calls Tryz.prog 26 #[v, u] w fun e w' => e = .returned (.bool true) ∧ Below w.heap.size w w' := eqThreadS_v v u xs w r g
theorem szThreadS_o (xs : List ThreadD) (v : Value) (k : Int) (w : World) (h0 : 0 ≤ k) (h1 : k ≤ 1048576) (r : rdsL w v xs) :
    Calls Tryz.prog 15 #[v, .int .i64 k] w fun e w' => e = .returned (.int .i64 (szR k (szThreadSD xs))) ∧ Below w.heap.size w w' := szThreadS_v v xs k w h0 h1 r
end Go.Proofs.YtbbdchlabdilcabGreat
