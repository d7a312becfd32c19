/- Chapter 11's data in memory: what the laws' helpers do on a world. (printed by tools/mk_n11w.py) -/
import Derived.Test.YtbbdchlabdilcabGreatM5
namespace Go.Proofs.YtbbdchlabdilcabGreat
set_option maxRecDepth 100000
open Go.RowKit Go.Proofs Go.Own
set_option linter.unusedVariables false
set_option linter.unusedSimpArgs false
structure WorldD where
  first_ : List Int
  store_ : StoreD
  threads_ : List ThreadD
  log_ : List Event
def szWorldD (t : WorldD) : Nat := t.first_.length + szStoreD t.store_ + szThreadSD t.threads_ + t.log_.length
def WorldB (t : WorldD) : Prop := szWorldD t ≤ 1048576
theorem worldB_parts {t : WorldD} (h : WorldB t) : IntSB t.first_ ∧ StoreB t.store_ ∧ ThreadSB t.threads_ ∧ EventSB t.log_ := by
  unfold WorldB szWorldD szStoreD at h; unfold IntSB StoreB ThreadSB EventSB; omega
def cntWorld (t : WorldD) : Nat := cntIntS t.first_ + cntS t.store_ + cntThreadS t.threads_ + cntEventS t.log_
theorem cntWorld_le {t : WorldD} (h : WorldB t) : cntWorld t ≤ 400000000 := by
  obtain ⟨a, b, c, d⟩ := worldB_parts h
  have := cntIntS_le a; have := cntS_le b; have := cntThreadS_le c; have := cntEventS_le d
  unfold cntWorld; omega
def markWorldD (t : WorldD) (k : Int) : WorldD := ⟨markIntSD t.first_ k, markS t.store_ (k + cntIntS t.first_), markThreadSD t.threads_ (k + cntIntS t.first_ + cntS t.store_), markEventSD t.log_ (k + cntIntS t.first_ + cntS t.store_ + cntThreadS t.threads_)⟩
theorem szWorld_o (t : WorldD) (v0 v1 v2 v3 v4 : Value) (k : Int) (w : World) (h0 : 0 ≤ k) (h1 : k ≤ 1048576) (r0 : rdsL w v0 t.first_) (r1 : rdsL w v1 t.store_.heads_) (r2 : rdsL w v2 t.store_.descs_) (r3 : rdsL w v3 t.threads_) (r4 : rdsL w v4 t.log_) :
    Calls Tryz.prog 4 #[.agg #[v0, v1, v2, v3, v4], .int .i64 k] w fun e w' => e = .returned (.int .i64 (szR k (szWorldD t))) ∧ Below w.heap.size w w' := by
  obtain ⟨W1, hW1⟩ : ∃ X, w.alloc (.cells #[v0, v1, v2, v3, v4] 30) = X := ⟨_, rfl⟩
  have hB1 : Below w.heap.size w W1 := by rw [← hW1]; exact (Below.refl _ _).alloc (Nat.le_refl _) _
  have bx1 : BoxF W1 w.heap.size [v0, v1, v2, v3, v4] := by rw [← hW1]; exact BoxF.alloc _ _ _
  have hz := hid (show szWorldD t = szIntSD t.first_ + szStoreD t.store_ + szThreadSD t.threads_ + szEventSD t.log_ from rfl)
  have q0 := hid (rdsL.below r0 hB1)
  have q1 := hid (rdsL.below r1 hB1)
  have q2 := hid (rdsL.below r2 hB1)
  have q3 := hid (rdsL.below r3 hB1)
  have q4 := hid (rdsL.below r4 hB1)
  have HW1 := hid hW1
  clear hW1 r0 r1 r2 r3 r4
  go_enter Tryz.func4, Tryz.ntmps4
  go_wp2_with fail
  rw [HW1.out]
  refine (szIntS_o t.first_ v0 _ _ (by omega) (by omega) q0.out).mono ?_
  rintro e w2 ⟨rfl, b2⟩
  have B2 := hB1.trans (b2.mono hB1.size)
  have bx2 := bx1.below b2
  have b_1 : Below W1.heap.size W1 w2 := b2
  by_cases g0 : k < (szIntSD t.first_ : Int)
  · have Hn := hid (show szR k (szWorldD t) = -1 by unfold szR; rw [if_pos]; rw [hz.out]; omega)
    rw [szR_of, if_pos g0]
    go_wp2
    go_ret
    exact ⟨ret_int Hn.out.symm, B2⟩
  rw [szR_of, if_neg g0]
  have l0_1 : 0 ≤ k - (szIntSD t.first_ : Int) := by omega
  have l1_1 : k - (szIntSD t.first_ : Int) ≤ 1048576 := by omega
  have x2_1 : w2.cell? ⟨w.heap.size, 1, none⟩ = some v1 := bx2.1.2 1 (by simp)
  have x2_2 : w2.cell? ⟨w.heap.size, 2, none⟩ = some v2 := bx2.1.2 2 (by simp)
  go_wp2_with fail
  refine (szStore_o t.store_ v1 v2 _ _ (by omega) (by omega) (rdsL.below q1.out b_1) (rdsL.below q2.out b_1)).mono ?_
  rintro e w3 ⟨rfl, b3⟩
  have B3 := B2.trans (b3.mono B2.size)
  have bx3 := bx2.below b3
  have b_2 : Below W1.heap.size W1 w3 := b_1.trans (b3.mono b_1.size)
  by_cases g1 : k - (szIntSD t.first_ : Int) < (szStoreD t.store_ : Int)
  · have Hn := hid (show szR k (szWorldD t) = -1 by unfold szR; rw [if_pos]; rw [hz.out]; omega)
    rw [szR_of, if_pos g1]
    go_wp2
    go_ret
    exact ⟨ret_int Hn.out.symm, B3⟩
  rw [szR_of, if_neg g1]
  have l0_2 : 0 ≤ k - (szIntSD t.first_ : Int) - (szStoreD t.store_ : Int) := by omega
  have l1_2 : k - (szIntSD t.first_ : Int) - (szStoreD t.store_ : Int) ≤ 1048576 := by omega
  have x3_3 : w3.cell? ⟨w.heap.size, 3, none⟩ = some v3 := bx3.1.2 3 (by simp)
  go_wp2_with fail
  refine (szThreadS_o t.threads_ v3 _ _ (by omega) (by omega) (rdsL.below q3.out b_2)).mono ?_
  rintro e w4 ⟨rfl, b4⟩
  have B4 := B3.trans (b4.mono B3.size)
  have bx4 := bx3.below b4
  have b_3 : Below W1.heap.size W1 w4 := b_2.trans (b4.mono b_2.size)
  by_cases g2 : k - (szIntSD t.first_ : Int) - (szStoreD t.store_ : Int) < (szThreadSD t.threads_ : Int)
  · have Hn := hid (show szR k (szWorldD t) = -1 by unfold szR; rw [if_pos]; rw [hz.out]; omega)
    rw [szR_of, if_pos g2]
    go_wp2
    go_ret
    exact ⟨ret_int Hn.out.symm, B4⟩
  rw [szR_of, if_neg g2]
  have l0_3 : 0 ≤ k - (szIntSD t.first_ : Int) - (szStoreD t.store_ : Int) - (szThreadSD t.threads_ : Int) := by omega
  have l1_3 : k - (szIntSD t.first_ : Int) - (szStoreD t.store_ : Int) - (szThreadSD t.threads_ : Int) ≤ 1048576 := by omega
  have x4_4 : w4.cell? ⟨w.heap.size, 4, none⟩ = some v4 := bx4.1.2 4 (by simp)
  go_wp2_with fail
  refine (szEventS_o t.log_ v4 _ _ (by omega) (by omega) (rdsL.below q4.out b_3)).mono ?_
  rintro e w5 ⟨rfl, b5⟩
  have B5 := B4.trans (b5.mono B4.size)
  have bx5 := bx4.below b5
  have b_4 : Below W1.heap.size W1 w5 := b_3.trans (b5.mono b_3.size)
  by_cases g3 : k - (szIntSD t.first_ : Int) - (szStoreD t.store_ : Int) - (szThreadSD t.threads_ : Int) < (szEventSD t.log_ : Int)
  · have Hn := hid (show szR k (szWorldD t) = -1 by unfold szR; rw [if_pos]; rw [hz.out]; omega)
    rw [szR_of, if_pos g3]
    go_wp2
    go_ret
    exact ⟨ret_int Hn.out.symm, B5⟩
  rw [szR_of, if_neg g3]
  have Hn := hid (show szR k (szWorldD t) = k - (szIntSD t.first_ : Int) - (szStoreD t.store_ : Int) - (szThreadSD t.threads_ : Int) - (szEventSD t.log_ : Int) by unfold szR; rw [if_neg (by rw [hz.out]; omega), hz.out]; omega)
  have nn : ¬ (k - (szIntSD t.first_ : Int) - (szStoreD t.store_ : Int) - (szThreadSD t.threads_ : Int) - (szEventSD t.log_ : Int) < 0) := by omega
  go_wp2
  go_ret
  exact ⟨ret_int Hn.out.symm, B5⟩
set_option maxHeartbeats 8000000 in
theorem markWorld_o (S0 S1 S2 S3 S4 : Nat → Prop) (t : WorldD) (v0 v1 v2 v3 v4 : Value) (k : Int) (w : World) (hS0 : ∀ b, S0 b → b < w.heap.size) (hS1 : ∀ b, S1 b → b < w.heap.size) (hS2 : ∀ b, S2 b → b < w.heap.size) (hS3 : ∀ b, S3 b → b < w.heap.size) (hS4 : ∀ b, S4 b → b < w.heap.size) (hd01 : ∀ b, S0 b → ¬ S1 b) (hd02 : ∀ b, S0 b → ¬ S2 b) (hd03 : ∀ b, S0 b → ¬ S3 b) (hd04 : ∀ b, S0 b → ¬ S4 b) (hd12 : ∀ b, S1 b → ¬ S2 b) (hd13 : ∀ b, S1 b → ¬ S3 b) (hd14 : ∀ b, S1 b → ¬ S4 b) (hd23 : ∀ b, S2 b → ¬ S3 b) (hd24 : ∀ b, S2 b → ¬ S4 b) (hd34 : ∀ b, S3 b → ¬ S4 b) (hb : WorldB t) (h0 : 0 ≤ k) (h1 : k ≤ 800000000000) (o0 : ownL S0 w v0 t.first_) (o1 : ownL S1 w v1 t.store_.heads_) (o2 : ownL S2 w v2 t.store_.descs_) (o3 : ownL S3 w v3 t.threads_) (o4 : ownL S4 w v4 t.log_) :
    Calls Tryz.prog 10 #[.agg #[v0, v1, v2, v3, v4], .int .i64 k] w fun r w' => r = .returned (.int .i64 (k + cntWorld t)) ∧ ownL S0 w' v0 (markWorldD t k).first_ ∧ ownL S1 w' v1 (markWorldD t k).store_.heads_ ∧ ownL S2 w' v2 (markWorldD t k).store_.descs_ ∧ ownL S3 w' v3 (markWorldD t k).threads_ ∧ ownL S4 w' v4 (markWorldD t k).log_ ∧ ChgS (fun b => S0 b ∨ S1 b ∨ S2 b ∨ S3 b ∨ S4 b) w w' := by
  obtain ⟨hb0, hb1, hb2, hb3⟩ := worldB_parts hb
  have hc0 := cntIntS_le hb0
  have hc1 := cntS_le hb1
  have hc2 := cntThreadS_le hb2
  have hc3 := cntEventS_le hb3
  obtain ⟨W1, hW1⟩ : ∃ X, w.alloc (.cells #[v0, v1, v2, v3, v4] 41) = X := ⟨_, rfl⟩
  have hB1 : Below w.heap.size w W1 := by rw [← hW1]; exact (Below.refl _ _).alloc (Nat.le_refl _) _
  have bx1 : BoxF W1 w.heap.size [v0, v1, v2, v3, v4] := by rw [← hW1]; exact BoxF.alloc _ _ _
  have hN : w.heap.size < W1.heap.size := bx1.1.1
  have nS0 : ¬ S0 w.heap.size := fun h => absurd (hS0 _ h) (Nat.lt_irrefl _)
  have m0_1 := o0.keep (fun b hb => hB1.block b (hS0 b hb))
  have L0_1 : ∀ b, S0 b → b < W1.heap.size := fun b hb => Nat.lt_trans (hS0 b hb) hN
  have nS1 : ¬ S1 w.heap.size := fun h => absurd (hS1 _ h) (Nat.lt_irrefl _)
  have m1_1 := o1.keep (fun b hb => hB1.block b (hS1 b hb))
  have L1_1 : ∀ b, S1 b → b < W1.heap.size := fun b hb => Nat.lt_trans (hS1 b hb) hN
  have nS2 : ¬ S2 w.heap.size := fun h => absurd (hS2 _ h) (Nat.lt_irrefl _)
  have m2_1 := o2.keep (fun b hb => hB1.block b (hS2 b hb))
  have L2_1 : ∀ b, S2 b → b < W1.heap.size := fun b hb => Nat.lt_trans (hS2 b hb) hN
  have nS3 : ¬ S3 w.heap.size := fun h => absurd (hS3 _ h) (Nat.lt_irrefl _)
  have m3_1 := o3.keep (fun b hb => hB1.block b (hS3 b hb))
  have L3_1 : ∀ b, S3 b → b < W1.heap.size := fun b hb => Nat.lt_trans (hS3 b hb) hN
  have nS4 : ¬ S4 w.heap.size := fun h => absurd (hS4 _ h) (Nat.lt_irrefl _)
  have m4_1 := o4.keep (fun b hb => hB1.block b (hS4 b hb))
  have L4_1 : ∀ b, S4 b → b < W1.heap.size := fun b hb => Nat.lt_trans (hS4 b hb) hN
  have C_1 := ChgS.of_below hB1 (fun b => S0 b ∨ S1 b ∨ S2 b ∨ S3 b ∨ S4 b)
  have HW1 := hid hW1
  clear hW1
  go_enter Tryz.func10, Tryz.ntmps10
  go_wp2_with fail
  rw [HW1.out]
  refine (markIntS_o S0 t.first_ v0 _ _ L0_1 hb0 (by omega) (by omega) m0_1).mono ?_
  rintro e w2 ⟨rfl, m0_2, D2⟩
  have m1_2 := m1_1.keep (fun q hq => D2.block q (L1_1 q hq) (fun h => hd01 q h hq))
  have m2_2 := m2_1.keep (fun q hq => D2.block q (L2_1 q hq) (fun h => hd02 q h hq))
  have m3_2 := m3_1.keep (fun q hq => D2.block q (L3_1 q hq) (fun h => hd03 q h hq))
  have m4_2 := m4_1.keep (fun q hq => D2.block q (L4_1 q hq) (fun h => hd04 q h hq))
  have L0_2 : ∀ b, S0 b → b < w2.heap.size := fun q hq => Nat.lt_of_lt_of_le (L0_1 q hq) D2.size
  have L1_2 : ∀ b, S1 b → b < w2.heap.size := fun q hq => Nat.lt_of_lt_of_le (L1_1 q hq) D2.size
  have L2_2 : ∀ b, S2 b → b < w2.heap.size := fun q hq => Nat.lt_of_lt_of_le (L2_1 q hq) D2.size
  have L3_2 : ∀ b, S3 b → b < w2.heap.size := fun q hq => Nat.lt_of_lt_of_le (L3_1 q hq) D2.size
  have L4_2 : ∀ b, S4 b → b < w2.heap.size := fun q hq => Nat.lt_of_lt_of_le (L4_1 q hq) D2.size
  have bx2 := bx1.chg D2 nS0
  have C_2 := C_1.trans (D2.mono (fun b h => .inl h))
  have x2_1 : w2.cell? ⟨w.heap.size, 1, none⟩ = some v1 := bx2.1.2 1 (by simp)
  have x2_2 : w2.cell? ⟨w.heap.size, 2, none⟩ = some v2 := bx2.1.2 2 (by simp)
  go_wp2_with fail
  refine (markStore_o S1 S2 t.store_ v1 v2 _ _ L1_2 L2_2 hd12 hb1 (by omega) (by omega) m1_2 m2_2).mono ?_
  rintro e w3 ⟨rfl, m1_3, m2_3, D3⟩
  have m0_3 := m0_2.keep (fun q hq => D3.block q (L0_2 q hq) (fun h => h.elim (fun h => hd01 q hq h) (fun h => hd02 q hq h)))
  have m3_3 := m3_2.keep (fun q hq => D3.block q (L3_2 q hq) (fun h => h.elim (fun h => hd13 q h hq) (fun h => hd23 q h hq)))
  have m4_3 := m4_2.keep (fun q hq => D3.block q (L4_2 q hq) (fun h => h.elim (fun h => hd14 q h hq) (fun h => hd24 q h hq)))
  have L0_3 : ∀ b, S0 b → b < w3.heap.size := fun q hq => Nat.lt_of_lt_of_le (L0_2 q hq) D3.size
  have L1_3 : ∀ b, S1 b → b < w3.heap.size := fun q hq => Nat.lt_of_lt_of_le (L1_2 q hq) D3.size
  have L2_3 : ∀ b, S2 b → b < w3.heap.size := fun q hq => Nat.lt_of_lt_of_le (L2_2 q hq) D3.size
  have L3_3 : ∀ b, S3 b → b < w3.heap.size := fun q hq => Nat.lt_of_lt_of_le (L3_2 q hq) D3.size
  have L4_3 : ∀ b, S4 b → b < w3.heap.size := fun q hq => Nat.lt_of_lt_of_le (L4_2 q hq) D3.size
  have bx3 := bx2.chg D3 (fun h => h.elim nS1 nS2)
  have C_3 := C_2.trans (D3.mono (fun b h => h.elim (fun h => .inr (.inl h)) (fun h => .inr (.inr (.inl h)))))
  have x3_3 : w3.cell? ⟨w.heap.size, 3, none⟩ = some v3 := bx3.1.2 3 (by simp)
  go_wp2_with fail
  refine (markThreadS_o S3 t.threads_ v3 _ _ L3_3 hb2 (by omega) (by omega) m3_3).mono ?_
  rintro e w4 ⟨rfl, m3_4, D4⟩
  have m0_4 := m0_3.keep (fun q hq => D4.block q (L0_3 q hq) (fun h => hd03 q hq h))
  have m1_4 := m1_3.keep (fun q hq => D4.block q (L1_3 q hq) (fun h => hd13 q hq h))
  have m2_4 := m2_3.keep (fun q hq => D4.block q (L2_3 q hq) (fun h => hd23 q hq h))
  have m4_4 := m4_3.keep (fun q hq => D4.block q (L4_3 q hq) (fun h => hd34 q h hq))
  have L0_4 : ∀ b, S0 b → b < w4.heap.size := fun q hq => Nat.lt_of_lt_of_le (L0_3 q hq) D4.size
  have L1_4 : ∀ b, S1 b → b < w4.heap.size := fun q hq => Nat.lt_of_lt_of_le (L1_3 q hq) D4.size
  have L2_4 : ∀ b, S2 b → b < w4.heap.size := fun q hq => Nat.lt_of_lt_of_le (L2_3 q hq) D4.size
  have L3_4 : ∀ b, S3 b → b < w4.heap.size := fun q hq => Nat.lt_of_lt_of_le (L3_3 q hq) D4.size
  have L4_4 : ∀ b, S4 b → b < w4.heap.size := fun q hq => Nat.lt_of_lt_of_le (L4_3 q hq) D4.size
  have bx4 := bx3.chg D4 nS3
  have C_4 := C_3.trans (D4.mono (fun b h => .inr (.inr (.inr (.inl h)))))
  have x4_4 : w4.cell? ⟨w.heap.size, 4, none⟩ = some v4 := bx4.1.2 4 (by simp)
  go_wp2_with fail
  refine (markEventS_o S4 t.log_ v4 _ _ L4_4 hb3 (by omega) (by omega) m4_4).mono ?_
  rintro e w5 ⟨rfl, m4_5, D5⟩
  have m0_5 := m0_4.keep (fun q hq => D5.block q (L0_4 q hq) (fun h => hd04 q hq h))
  have m1_5 := m1_4.keep (fun q hq => D5.block q (L1_4 q hq) (fun h => hd14 q hq h))
  have m2_5 := m2_4.keep (fun q hq => D5.block q (L2_4 q hq) (fun h => hd24 q hq h))
  have m3_5 := m3_4.keep (fun q hq => D5.block q (L3_4 q hq) (fun h => hd34 q hq h))
  have L0_5 : ∀ b, S0 b → b < w5.heap.size := fun q hq => Nat.lt_of_lt_of_le (L0_4 q hq) D5.size
  have L1_5 : ∀ b, S1 b → b < w5.heap.size := fun q hq => Nat.lt_of_lt_of_le (L1_4 q hq) D5.size
  have L2_5 : ∀ b, S2 b → b < w5.heap.size := fun q hq => Nat.lt_of_lt_of_le (L2_4 q hq) D5.size
  have L3_5 : ∀ b, S3 b → b < w5.heap.size := fun q hq => Nat.lt_of_lt_of_le (L3_4 q hq) D5.size
  have L4_5 : ∀ b, S4 b → b < w5.heap.size := fun q hq => Nat.lt_of_lt_of_le (L4_4 q hq) D5.size
  have bx5 := bx4.chg D5 nS4
  have C_5 := C_4.trans (D5.mono (fun b h => .inr (.inr (.inr (.inr h)))))
  have HM := hid (And.intro m0_5 (And.intro m1_5 (And.intro m2_5 (And.intro m3_5 (And.intro m4_5 C_5)))))
  clear m0_1 m0_2 m0_3 m0_4 m0_5 m1_1 m1_2 m1_3 m1_4 m1_5 m2_1 m2_2 m2_3 m2_4 m2_5 m3_1 m3_2 m3_3 m3_4 m3_5 m4_1 m4_2 m4_3 m4_4 m4_5
  go_wp2
  go_ret
  exact ⟨ret_int (by unfold cntWorld; omega), HM.out⟩
set_option maxHeartbeats 8000000 in
theorem eqWorld_o (t : WorldD) (v0 v1 v2 v3 v4 u0 u1 u2 u3 u4 : Value) (w : World) (r0 : rdsL w v0 t.first_) (r1 : rdsL w v1 t.store_.heads_) (r2 : rdsL w v2 t.store_.descs_) (r3 : rdsL w v3 t.threads_) (r4 : rdsL w v4 t.log_) (g0 : rdsL w u0 t.first_) (g1 : rdsL w u1 t.store_.heads_) (g2 : rdsL w u2 t.store_.descs_) (g3 : rdsL w u3 t.threads_) (g4 : rdsL w u4 t.log_) :
    Calls Tryz.prog 9 #[.agg #[v0, v1, v2, v3, v4], .agg #[u0, u1, u2, u3, u4]] w fun e w' => e = .returned (.bool true) ∧ Below w.heap.size w w' := by
  obtain ⟨W1, hW1⟩ : ∃ X, (w.alloc (.cells #[v0, v1, v2, v3, v4] 41)).alloc (.cells #[u0, u1, u2, u3, u4] 41) = X := ⟨_, rfl⟩
  have hB1 : Below w.heap.size w W1 := by rw [← hW1]; exact ((Below.refl _ _).alloc (Nat.le_refl _) _).alloc (by simp) _
  have bx1 : BoxF W1 w.heap.size [v0, v1, v2, v3, v4] := by
    rw [← hW1]; exact (BoxF.alloc w #[v0, v1, v2, v3, v4] 41).below ((Below.refl _ _).alloc (Nat.le_refl _) _)
  have by1 : BoxF W1 (w.heap.size + 1) [u0, u1, u2, u3, u4] := by
    rw [← hW1]
    have h9 := BoxF.alloc (w.alloc (.cells #[v0, v1, v2, v3, v4] 41)) #[u0, u1, u2, u3, u4] 41
    rw [show (w.alloc (.cells #[v0, v1, v2, v3, v4] 41)).heap.size = w.heap.size + 1 by simp] at h9
    exact h9
  have q0_1 := hid (rdsL.below r0 hB1)
  have p0_1 := hid (rdsL.below g0 hB1)
  have q1_1 := hid (rdsL.below r1 hB1)
  have p1_1 := hid (rdsL.below g1 hB1)
  have q2_1 := hid (rdsL.below r2 hB1)
  have p2_1 := hid (rdsL.below g2 hB1)
  have q3_1 := hid (rdsL.below r3 hB1)
  have p3_1 := hid (rdsL.below g3 hB1)
  have q4_1 := hid (rdsL.below r4 hB1)
  have p4_1 := hid (rdsL.below g4 hB1)
  have B1 := hB1
  have HW1 := hid hW1
  clear hW1 r0 g0 r1 g1 r2 g2 r3 g3 r4 g4
  go_enter Tryz.func9, Tryz.ntmps9
  go_wp2_with fail
  rw [HW1.out]
  refine (eqIntS_o t.first_ v0 u0 _ q0_1.out p0_1.out).mono ?_
  rintro e w2 ⟨rfl, b2⟩
  have B2 := B1.trans (b2.mono B1.size)
  have bx2 := bx1.below b2
  have by2 := by1.below b2
  have q1_2 := hid (rdsL.below q1_1.out b2)
  have p1_2 := hid (rdsL.below p1_1.out b2)
  have q2_2 := hid (rdsL.below q2_1.out b2)
  have p2_2 := hid (rdsL.below p2_1.out b2)
  have q3_2 := hid (rdsL.below q3_1.out b2)
  have p3_2 := hid (rdsL.below p3_1.out b2)
  have q4_2 := hid (rdsL.below q4_1.out b2)
  have p4_2 := hid (rdsL.below p4_1.out b2)
  have x2_1 : w2.cell? ⟨w.heap.size, 1, none⟩ = some v1 := bx2.1.2 1 (by simp)
  have x2_2 : w2.cell? ⟨w.heap.size, 2, none⟩ = some v2 := bx2.1.2 2 (by simp)
  have y2_1 : w2.cell? ⟨w.heap.size + 1, 1, none⟩ = some u1 := by2.1.2 1 (by simp)
  have y2_2 : w2.cell? ⟨w.heap.size + 1, 2, none⟩ = some u2 := by2.1.2 2 (by simp)
  go_wp2_with fail
  refine (eqStore_o t.store_ v1 v2 u1 u2 _ q1_2.out q2_2.out p1_2.out p2_2.out).mono ?_
  rintro e w3 ⟨rfl, b3⟩
  have B3 := B2.trans (b3.mono B2.size)
  have bx3 := bx2.below b3
  have by3 := by2.below b3
  have q3_3 := hid (rdsL.below q3_2.out b3)
  have p3_3 := hid (rdsL.below p3_2.out b3)
  have q4_3 := hid (rdsL.below q4_2.out b3)
  have p4_3 := hid (rdsL.below p4_2.out b3)
  have x3_3 : w3.cell? ⟨w.heap.size, 3, none⟩ = some v3 := bx3.1.2 3 (by simp)
  have y3_3 : w3.cell? ⟨w.heap.size + 1, 3, none⟩ = some u3 := by3.1.2 3 (by simp)
  go_wp2_with fail
  refine (eqThreadS_o t.threads_ v3 u3 _ q3_3.out p3_3.out).mono ?_
  rintro e w4 ⟨rfl, b4⟩
  have B4 := B3.trans (b4.mono B3.size)
  have bx4 := bx3.below b4
  have by4 := by3.below b4
  have q4_4 := hid (rdsL.below q4_3.out b4)
  have p4_4 := hid (rdsL.below p4_3.out b4)
  have x4_4 : w4.cell? ⟨w.heap.size, 4, none⟩ = some v4 := bx4.1.2 4 (by simp)
  have y4_4 : w4.cell? ⟨w.heap.size + 1, 4, none⟩ = some u4 := by4.1.2 4 (by simp)
  go_wp2_with fail
  refine (eqEventS_o t.log_ v4 u4 _ q4_4.out p4_4.out).mono ?_
  rintro e w5 ⟨rfl, b5⟩
  have B5 := B4.trans (b5.mono B4.size)
  have bx5 := bx4.below b5
  have by5 := by4.below b5
  go_wp2
  go_ret
  exact ⟨rfl, B5⟩
set_option maxHeartbeats 16000000 in
theorem toWorld_o (t : WorldD) (v0 v1 v2 v3 v4 : Value) (w : World) (r0 : rdsL w v0 t.first_) (r1 : rdsL w v1 t.store_.heads_) (r2 : rdsL w v2 t.store_.descs_) (r3 : rdsL w v3 t.threads_) (r4 : rdsL w v4 t.log_) (hb : WorldB t) :
    Calls Tryz.prog 6 #[.agg #[v0, v1, v2, v3, v4]] w fun e w' => ∃ u0 u1 u2 u3 u4 : Value, ∃ S0 S1 S2 S3 S4 : Nat → Prop, e = .returned (.agg #[u0, u1, u2, u3, u4]) ∧ ownL S0 w' u0 t.first_ ∧ ownL S1 w' u1 t.store_.heads_ ∧ ownL S2 w' u2 t.store_.descs_ ∧ ownL S3 w' u3 t.threads_ ∧ ownL S4 w' u4 t.log_ ∧ (∀ k, S0 k → Rg w.heap.size w'.heap.size k) ∧ (∀ k, S1 k → Rg w.heap.size w'.heap.size k) ∧ (∀ k, S2 k → Rg w.heap.size w'.heap.size k) ∧ (∀ k, S3 k → Rg w.heap.size w'.heap.size k) ∧ (∀ k, S4 k → Rg w.heap.size w'.heap.size k) ∧ (∀ k, S0 k → ¬ S1 k) ∧ (∀ k, S0 k → ¬ S2 k) ∧ (∀ k, S0 k → ¬ S3 k) ∧ (∀ k, S0 k → ¬ S4 k) ∧ (∀ k, S1 k → ¬ S2 k) ∧ (∀ k, S1 k → ¬ S3 k) ∧ (∀ k, S1 k → ¬ S4 k) ∧ (∀ k, S2 k → ¬ S3 k) ∧ (∀ k, S2 k → ¬ S4 k) ∧ (∀ k, S3 k → ¬ S4 k) ∧ Below w.heap.size w w' := by
  obtain ⟨hb0, hb1, hb2, hb3⟩ := worldB_parts hb
  obtain ⟨W1, hW1⟩ : ∃ X, ((w.alloc (.cells #[v0, v1, v2, v3, v4] 30)).alloc (.cells #[Value.slice none 0 0, Value.slice none 0 0, Value.slice none 0 0, Value.slice none 0 0, Value.slice none 0 0] 41)).alloc (.cells #[Value.slice none 0 0, Value.slice none 0 0, Value.slice none 0 0, Value.slice none 0 0, Value.slice none 0 0] 41) = X := ⟨_, rfl⟩
  have B1 : Below w.heap.size w W1 := by rw [← hW1]; exact (((Below.refl _ _).alloc (Nat.le_refl _) _).alloc (by simp) _).alloc (by simp; omega) _
  have hN : W1.heap.size = w.heap.size + 3 := by rw [← hW1]; simp
  have bx1 : BoxF W1 w.heap.size [v0, v1, v2, v3, v4] := by
    rw [← hW1]; exact ((BoxF.alloc w #[v0, v1, v2, v3, v4] 30).below ((Below.refl _ _).alloc (Nat.le_refl _) _)).below ((Below.refl _ _).alloc (Nat.le_refl _) _)
  have br1 : BoxF W1 (w.heap.size + 1) [Value.slice none 0 0, Value.slice none 0 0, Value.slice none 0 0, Value.slice none 0 0, Value.slice none 0 0] := by
    rw [← hW1]
    have h1 := BoxF.alloc (w.alloc (.cells #[v0, v1, v2, v3, v4] 30)) #[Value.slice none 0 0, Value.slice none 0 0, Value.slice none 0 0, Value.slice none 0 0, Value.slice none 0 0] 41
    rw [show (w.alloc (.cells #[v0, v1, v2, v3, v4] 30)).heap.size = w.heap.size + 1 by simp] at h1
    exact h1.below ((Below.refl _ _).alloc (Nat.le_refl _) _)
  have bo1 : BoxF W1 (w.heap.size + 1 + 1) [Value.slice none 0 0, Value.slice none 0 0, Value.slice none 0 0, Value.slice none 0 0, Value.slice none 0 0] := by
    rw [← hW1]
    have h1 := BoxF.alloc ((w.alloc (.cells #[v0, v1, v2, v3, v4] 30)).alloc (.cells #[Value.slice none 0 0, Value.slice none 0 0, Value.slice none 0 0, Value.slice none 0 0, Value.slice none 0 0] 41)) #[Value.slice none 0 0, Value.slice none 0 0, Value.slice none 0 0, Value.slice none 0 0, Value.slice none 0 0] 41
    rw [show ((w.alloc (.cells #[v0, v1, v2, v3, v4] 30)).alloc (.cells #[Value.slice none 0 0, Value.slice none 0 0, Value.slice none 0 0, Value.slice none 0 0, Value.slice none 0 0] 41)).heap.size = w.heap.size + 1 + 1 by simp] at h1
    exact h1
  have R0 := hid r0
  have R1 := hid r1
  have R2 := hid r2
  have R3 := hid r3
  have R4 := hid r4
  have HW1 := hid hW1
  clear hW1 r0 r1 r2 r3 r4
  go_enter Tryz.func6, Tryz.ntmps6
  go_wp2_with fail
  rw [HW1.out]
  refine (toIntS_o t.first_ v0 _ (rdsL.below R0.out B1) hb0).mono ?_
  rintro e w2 ⟨u0, S0, rfl, m0, g0, b2⟩
  obtain ⟨a0, c0, rfl, -, -⟩ := ownL_len m0
  have bx2 := bx1.below b2
  have br2 := br1.below b2
  have bo2 := bo1.below b2
  have B2 := B1.trans (b2.mono B1.size)
  have hs2 := b2.size
  have C0_2 := ChgS.refl (fun b => b = w.heap.size + 1 + 1) w2
  have o3 : w2.cell? ⟨w.heap.size + 1 + 1, 0, none⟩ = some (Value.slice none 0 0) := bo2.1.2 0 (by simp)
  have f3 : w2.frozen? ⟨w.heap.size + 1 + 1, 0, none⟩ = false := bo2.2 0 (by simp)
  obtain ⟨w3, hw3⟩ : ∃ X, w2.setCell ⟨w.heap.size + 1 + 1, 0, none⟩ (Value.slice a0 t.first_.length c0) = X := ⟨_, rfl⟩
  have bx3 : BoxF w3 w.heap.size [v0, v1, v2, v3, v4] := by rw [← hw3]; exact bx2.other ⟨w.heap.size + 1 + 1, 0, none⟩ (Value.slice a0 t.first_.length c0) (by simp; omega)
  have br3 : BoxF w3 (w.heap.size + 1) [Value.slice none 0 0, Value.slice none 0 0, Value.slice none 0 0, Value.slice none 0 0, Value.slice none 0 0] := by rw [← hw3]; exact br2.other ⟨w.heap.size + 1 + 1, 0, none⟩ (Value.slice a0 t.first_.length c0) (by simp)
  have bo3 : BoxF w3 (w.heap.size + 1 + 1) [Value.slice a0 t.first_.length c0, Value.slice none 0 0, Value.slice none 0 0, Value.slice none 0 0, Value.slice none 0 0] := by rw [← hw3]; exact bo2.set 0 (by simp) _
  have B3 : Below w.heap.size w w3 := by rw [← hw3]; exact B2.setCell (p := ⟨w.heap.size + 1 + 1, 0, none⟩) (by show w.heap.size ≤ w.heap.size + 1 + 1; omega) _
  have C0_3 := C0_2.set ⟨w.heap.size + 1 + 1, 0, none⟩ (Value.slice a0 t.first_.length c0) rfl
  rw [hw3] at C0_3
  have hs3 : w3.heap.size = w2.heap.size := by rw [← hw3]; simp [World.setCell]
  have x3_1 : w3.cell? ⟨w.heap.size, 1, none⟩ = some v1 := bx3.1.2 1 (by simp)
  have x3_2 : w3.cell? ⟨w.heap.size, 2, none⟩ = some v2 := bx3.1.2 2 (by simp)
  go_wp2_with fail
  clear hw3
  refine (toStore_o t.store_ v1 v2 _ (rdsL.below R1.out B3) (rdsL.below R2.out B3) hb1).mono ?_
  rintro e w4 ⟨u1, u2, S1, S2, rfl, m1, m2, g1, g2, d12, b4⟩
  obtain ⟨a1, c1, rfl, -, -⟩ := ownL_len m1
  obtain ⟨a2, c2, rfl, -, -⟩ := ownL_len m2
  have bx4 := bx3.below b4
  have br4 := br3.below b4
  have bo4 := bo3.below b4
  have B4 := B3.trans (b4.mono B3.size)
  have hs4 := b4.size
  have C0_4 := C0_3.trans (ChgS.of_below b4 _)
  have C1_4 := ChgS.refl (fun b => b = w.heap.size + 1 + 1) w4
  have o5 : w4.cell? ⟨w.heap.size + 1 + 1, 1, none⟩ = some (Value.slice none 0 0) := bo4.1.2 1 (by simp)
  have f5 : w4.frozen? ⟨w.heap.size + 1 + 1, 1, none⟩ = false := bo4.2 1 (by simp)
  obtain ⟨w5, hw5⟩ : ∃ X, w4.setCell ⟨w.heap.size + 1 + 1, 1, none⟩ (Value.slice a1 t.store_.heads_.length c1) = X := ⟨_, rfl⟩
  have bx5 : BoxF w5 w.heap.size [v0, v1, v2, v3, v4] := by rw [← hw5]; exact bx4.other ⟨w.heap.size + 1 + 1, 1, none⟩ (Value.slice a1 t.store_.heads_.length c1) (by simp; omega)
  have br5 : BoxF w5 (w.heap.size + 1) [Value.slice none 0 0, Value.slice none 0 0, Value.slice none 0 0, Value.slice none 0 0, Value.slice none 0 0] := by rw [← hw5]; exact br4.other ⟨w.heap.size + 1 + 1, 1, none⟩ (Value.slice a1 t.store_.heads_.length c1) (by simp)
  have bo5 : BoxF w5 (w.heap.size + 1 + 1) [Value.slice a0 t.first_.length c0, Value.slice a1 t.store_.heads_.length c1, Value.slice none 0 0, Value.slice none 0 0, Value.slice none 0 0] := by rw [← hw5]; exact bo4.set 1 (by simp) _
  have B5 : Below w.heap.size w w5 := by rw [← hw5]; exact B4.setCell (p := ⟨w.heap.size + 1 + 1, 1, none⟩) (by show w.heap.size ≤ w.heap.size + 1 + 1; omega) _
  have C0_5 := C0_4.set ⟨w.heap.size + 1 + 1, 1, none⟩ (Value.slice a1 t.store_.heads_.length c1) rfl
  rw [hw5] at C0_5
  have C1_5 := C1_4.set ⟨w.heap.size + 1 + 1, 1, none⟩ (Value.slice a1 t.store_.heads_.length c1) rfl
  rw [hw5] at C1_5
  have hs5 : w5.heap.size = w4.heap.size := by rw [← hw5]; simp [World.setCell]
  have o6 : w5.cell? ⟨w.heap.size + 1 + 1, 2, none⟩ = some (Value.slice none 0 0) := bo5.1.2 2 (by simp)
  have f6 : w5.frozen? ⟨w.heap.size + 1 + 1, 2, none⟩ = false := bo5.2 2 (by simp)
  obtain ⟨w6, hw6⟩ : ∃ X, w5.setCell ⟨w.heap.size + 1 + 1, 2, none⟩ (Value.slice a2 t.store_.descs_.length c2) = X := ⟨_, rfl⟩
  have bx6 : BoxF w6 w.heap.size [v0, v1, v2, v3, v4] := by rw [← hw6]; exact bx5.other ⟨w.heap.size + 1 + 1, 2, none⟩ (Value.slice a2 t.store_.descs_.length c2) (by simp; omega)
  have br6 : BoxF w6 (w.heap.size + 1) [Value.slice none 0 0, Value.slice none 0 0, Value.slice none 0 0, Value.slice none 0 0, Value.slice none 0 0] := by rw [← hw6]; exact br5.other ⟨w.heap.size + 1 + 1, 2, none⟩ (Value.slice a2 t.store_.descs_.length c2) (by simp)
  have bo6 : BoxF w6 (w.heap.size + 1 + 1) [Value.slice a0 t.first_.length c0, Value.slice a1 t.store_.heads_.length c1, Value.slice a2 t.store_.descs_.length c2, Value.slice none 0 0, Value.slice none 0 0] := by rw [← hw6]; exact bo5.set 2 (by simp) _
  have B6 : Below w.heap.size w w6 := by rw [← hw6]; exact B5.setCell (p := ⟨w.heap.size + 1 + 1, 2, none⟩) (by show w.heap.size ≤ w.heap.size + 1 + 1; omega) _
  have C0_6 := C0_5.set ⟨w.heap.size + 1 + 1, 2, none⟩ (Value.slice a2 t.store_.descs_.length c2) rfl
  rw [hw6] at C0_6
  have C1_6 := C1_5.set ⟨w.heap.size + 1 + 1, 2, none⟩ (Value.slice a2 t.store_.descs_.length c2) rfl
  rw [hw6] at C1_6
  have hs6 : w6.heap.size = w5.heap.size := by rw [← hw6]; simp [World.setCell]
  have x6_3 : w6.cell? ⟨w.heap.size, 3, none⟩ = some v3 := bx6.1.2 3 (by simp)
  go_wp2_with fail
  clear hw5 hw6
  refine (toThreadS_o t.threads_ v3 _ (rdsL.below R3.out B6) hb2).mono ?_
  rintro e w7 ⟨u3, S3, rfl, m3, g3, b7⟩
  obtain ⟨a3, c3, rfl, -, -⟩ := ownL_len m3
  have bx7 := bx6.below b7
  have br7 := br6.below b7
  have bo7 := bo6.below b7
  have B7 := B6.trans (b7.mono B6.size)
  have hs7 := b7.size
  have C0_7 := C0_6.trans (ChgS.of_below b7 _)
  have C1_7 := C1_6.trans (ChgS.of_below b7 _)
  have C2_7 := ChgS.refl (fun b => b = w.heap.size + 1 + 1) w7
  have o8 : w7.cell? ⟨w.heap.size + 1 + 1, 3, none⟩ = some (Value.slice none 0 0) := bo7.1.2 3 (by simp)
  have f8 : w7.frozen? ⟨w.heap.size + 1 + 1, 3, none⟩ = false := bo7.2 3 (by simp)
  obtain ⟨w8, hw8⟩ : ∃ X, w7.setCell ⟨w.heap.size + 1 + 1, 3, none⟩ (Value.slice a3 t.threads_.length c3) = X := ⟨_, rfl⟩
  have bx8 : BoxF w8 w.heap.size [v0, v1, v2, v3, v4] := by rw [← hw8]; exact bx7.other ⟨w.heap.size + 1 + 1, 3, none⟩ (Value.slice a3 t.threads_.length c3) (by simp; omega)
  have br8 : BoxF w8 (w.heap.size + 1) [Value.slice none 0 0, Value.slice none 0 0, Value.slice none 0 0, Value.slice none 0 0, Value.slice none 0 0] := by rw [← hw8]; exact br7.other ⟨w.heap.size + 1 + 1, 3, none⟩ (Value.slice a3 t.threads_.length c3) (by simp)
  have bo8 : BoxF w8 (w.heap.size + 1 + 1) [Value.slice a0 t.first_.length c0, Value.slice a1 t.store_.heads_.length c1, Value.slice a2 t.store_.descs_.length c2, Value.slice a3 t.threads_.length c3, Value.slice none 0 0] := by rw [← hw8]; exact bo7.set 3 (by simp) _
  have B8 : Below w.heap.size w w8 := by rw [← hw8]; exact B7.setCell (p := ⟨w.heap.size + 1 + 1, 3, none⟩) (by show w.heap.size ≤ w.heap.size + 1 + 1; omega) _
  have C0_8 := C0_7.set ⟨w.heap.size + 1 + 1, 3, none⟩ (Value.slice a3 t.threads_.length c3) rfl
  rw [hw8] at C0_8
  have C1_8 := C1_7.set ⟨w.heap.size + 1 + 1, 3, none⟩ (Value.slice a3 t.threads_.length c3) rfl
  rw [hw8] at C1_8
  have C2_8 := C2_7.set ⟨w.heap.size + 1 + 1, 3, none⟩ (Value.slice a3 t.threads_.length c3) rfl
  rw [hw8] at C2_8
  have hs8 : w8.heap.size = w7.heap.size := by rw [← hw8]; simp [World.setCell]
  have x8_4 : w8.cell? ⟨w.heap.size, 4, none⟩ = some v4 := bx8.1.2 4 (by simp)
  go_wp2_with fail
  clear hw8
  refine (toEventS_o t.log_ v4 _ (rdsL.below R4.out B8) hb3).mono ?_
  rintro e w9 ⟨u4, S4, rfl, m4, g4, b9⟩
  obtain ⟨a4, c4, rfl, -, -⟩ := ownL_len m4
  have bx9 := bx8.below b9
  have br9 := br8.below b9
  have bo9 := bo8.below b9
  have B9 := B8.trans (b9.mono B8.size)
  have hs9 := b9.size
  have C0_9 := C0_8.trans (ChgS.of_below b9 _)
  have C1_9 := C1_8.trans (ChgS.of_below b9 _)
  have C2_9 := C2_8.trans (ChgS.of_below b9 _)
  have C3_9 := ChgS.refl (fun b => b = w.heap.size + 1 + 1) w9
  have o10 : w9.cell? ⟨w.heap.size + 1 + 1, 4, none⟩ = some (Value.slice none 0 0) := bo9.1.2 4 (by simp)
  have f10 : w9.frozen? ⟨w.heap.size + 1 + 1, 4, none⟩ = false := bo9.2 4 (by simp)
  obtain ⟨w10, hw10⟩ : ∃ X, w9.setCell ⟨w.heap.size + 1 + 1, 4, none⟩ (Value.slice a4 t.log_.length c4) = X := ⟨_, rfl⟩
  have bx10 : BoxF w10 w.heap.size [v0, v1, v2, v3, v4] := by rw [← hw10]; exact bx9.other ⟨w.heap.size + 1 + 1, 4, none⟩ (Value.slice a4 t.log_.length c4) (by simp; omega)
  have br10 : BoxF w10 (w.heap.size + 1) [Value.slice none 0 0, Value.slice none 0 0, Value.slice none 0 0, Value.slice none 0 0, Value.slice none 0 0] := by rw [← hw10]; exact br9.other ⟨w.heap.size + 1 + 1, 4, none⟩ (Value.slice a4 t.log_.length c4) (by simp)
  have bo10 : BoxF w10 (w.heap.size + 1 + 1) [Value.slice a0 t.first_.length c0, Value.slice a1 t.store_.heads_.length c1, Value.slice a2 t.store_.descs_.length c2, Value.slice a3 t.threads_.length c3, Value.slice a4 t.log_.length c4] := by rw [← hw10]; exact bo9.set 4 (by simp) _
  have B10 : Below w.heap.size w w10 := by rw [← hw10]; exact B9.setCell (p := ⟨w.heap.size + 1 + 1, 4, none⟩) (by show w.heap.size ≤ w.heap.size + 1 + 1; omega) _
  have C0_10 := C0_9.set ⟨w.heap.size + 1 + 1, 4, none⟩ (Value.slice a4 t.log_.length c4) rfl
  rw [hw10] at C0_10
  have C1_10 := C1_9.set ⟨w.heap.size + 1 + 1, 4, none⟩ (Value.slice a4 t.log_.length c4) rfl
  rw [hw10] at C1_10
  have C2_10 := C2_9.set ⟨w.heap.size + 1 + 1, 4, none⟩ (Value.slice a4 t.log_.length c4) rfl
  rw [hw10] at C2_10
  have C3_10 := C3_9.set ⟨w.heap.size + 1 + 1, 4, none⟩ (Value.slice a4 t.log_.length c4) rfl
  rw [hw10] at C3_10
  have hs10 : w10.heap.size = w9.heap.size := by rw [← hw10]; simp [World.setCell]
  have z0 : w10.cell? ⟨w.heap.size + 1 + 1, 0, none⟩ = some (Value.slice a0 t.first_.length c0) := bo10.1.2 0 (by simp)
  have z1 : w10.cell? ⟨w.heap.size + 1 + 1, 1, none⟩ = some (Value.slice a1 t.store_.heads_.length c1) := bo10.1.2 1 (by simp)
  have z2 : w10.cell? ⟨w.heap.size + 1 + 1, 2, none⟩ = some (Value.slice a2 t.store_.descs_.length c2) := bo10.1.2 2 (by simp)
  have z3 : w10.cell? ⟨w.heap.size + 1 + 1, 3, none⟩ = some (Value.slice a3 t.threads_.length c3) := bo10.1.2 3 (by simp)
  have z4 : w10.cell? ⟨w.heap.size + 1 + 1, 4, none⟩ = some (Value.slice a4 t.log_.length c4) := bo10.1.2 4 (by simp)
  replace C0_10 := C0_10.mono (T := fun b => b = w.heap.size + 1 ∨ b = w.heap.size + 1 + 1) (fun b hb => .inr hb)
  replace C1_10 := C1_10.mono (T := fun b => b = w.heap.size + 1 ∨ b = w.heap.size + 1 + 1) (fun b hb => .inr hb)
  replace C2_10 := C2_10.mono (T := fun b => b = w.heap.size + 1 ∨ b = w.heap.size + 1 + 1) (fun b hb => .inr hb)
  replace C3_10 := C3_10.mono (T := fun b => b = w.heap.size + 1 ∨ b = w.heap.size + 1 + 1) (fun b hb => .inr hb)
  have r10 : w10.cell? ⟨w.heap.size + 1, 0, none⟩ = some (Value.slice none 0 0) := br10.1.2 0 (by simp)
  have k10 : w10.frozen? ⟨w.heap.size + 1, 0, none⟩ = false := br10.2 0 (by simp)
  obtain ⟨w11, hw11⟩ : ∃ X, w10.setCell ⟨w.heap.size + 1, 0, none⟩ (Value.slice a0 t.first_.length c0) = X := ⟨_, rfl⟩
  have br11 : BoxF w11 (w.heap.size + 1) [Value.slice a0 t.first_.length c0, Value.slice none 0 0, Value.slice none 0 0, Value.slice none 0 0, Value.slice none 0 0] := by rw [← hw11]; exact br10.set 0 (by simp) _
  have B11 : Below w.heap.size w w11 := by rw [← hw11]; exact B10.setCell (p := ⟨w.heap.size + 1, 0, none⟩) (by show w.heap.size ≤ w.heap.size + 1; omega) _
  have C0_11 := C0_10.set ⟨w.heap.size + 1, 0, none⟩ (Value.slice a0 t.first_.length c0) (.inl rfl)
  rw [hw11] at C0_11
  have C1_11 := C1_10.set ⟨w.heap.size + 1, 0, none⟩ (Value.slice a0 t.first_.length c0) (.inl rfl)
  rw [hw11] at C1_11
  have C2_11 := C2_10.set ⟨w.heap.size + 1, 0, none⟩ (Value.slice a0 t.first_.length c0) (.inl rfl)
  rw [hw11] at C2_11
  have C3_11 := C3_10.set ⟨w.heap.size + 1, 0, none⟩ (Value.slice a0 t.first_.length c0) (.inl rfl)
  rw [hw11] at C3_11
  have hs11 : w11.heap.size = w10.heap.size := by rw [← hw11]; simp [World.setCell]
  have r11 : w11.cell? ⟨w.heap.size + 1, 1, none⟩ = some (Value.slice none 0 0) := br11.1.2 1 (by simp)
  have k11 : w11.frozen? ⟨w.heap.size + 1, 1, none⟩ = false := br11.2 1 (by simp)
  obtain ⟨w12, hw12⟩ : ∃ X, w11.setCell ⟨w.heap.size + 1, 1, none⟩ (Value.slice a1 t.store_.heads_.length c1) = X := ⟨_, rfl⟩
  have br12 : BoxF w12 (w.heap.size + 1) [Value.slice a0 t.first_.length c0, Value.slice a1 t.store_.heads_.length c1, Value.slice none 0 0, Value.slice none 0 0, Value.slice none 0 0] := by rw [← hw12]; exact br11.set 1 (by simp) _
  have B12 : Below w.heap.size w w12 := by rw [← hw12]; exact B11.setCell (p := ⟨w.heap.size + 1, 1, none⟩) (by show w.heap.size ≤ w.heap.size + 1; omega) _
  have C0_12 := C0_11.set ⟨w.heap.size + 1, 1, none⟩ (Value.slice a1 t.store_.heads_.length c1) (.inl rfl)
  rw [hw12] at C0_12
  have C1_12 := C1_11.set ⟨w.heap.size + 1, 1, none⟩ (Value.slice a1 t.store_.heads_.length c1) (.inl rfl)
  rw [hw12] at C1_12
  have C2_12 := C2_11.set ⟨w.heap.size + 1, 1, none⟩ (Value.slice a1 t.store_.heads_.length c1) (.inl rfl)
  rw [hw12] at C2_12
  have C3_12 := C3_11.set ⟨w.heap.size + 1, 1, none⟩ (Value.slice a1 t.store_.heads_.length c1) (.inl rfl)
  rw [hw12] at C3_12
  have hs12 : w12.heap.size = w11.heap.size := by rw [← hw12]; simp [World.setCell]
  have r12 : w12.cell? ⟨w.heap.size + 1, 2, none⟩ = some (Value.slice none 0 0) := br12.1.2 2 (by simp)
  have k12 : w12.frozen? ⟨w.heap.size + 1, 2, none⟩ = false := br12.2 2 (by simp)
  obtain ⟨w13, hw13⟩ : ∃ X, w12.setCell ⟨w.heap.size + 1, 2, none⟩ (Value.slice a2 t.store_.descs_.length c2) = X := ⟨_, rfl⟩
  have br13 : BoxF w13 (w.heap.size + 1) [Value.slice a0 t.first_.length c0, Value.slice a1 t.store_.heads_.length c1, Value.slice a2 t.store_.descs_.length c2, Value.slice none 0 0, Value.slice none 0 0] := by rw [← hw13]; exact br12.set 2 (by simp) _
  have B13 : Below w.heap.size w w13 := by rw [← hw13]; exact B12.setCell (p := ⟨w.heap.size + 1, 2, none⟩) (by show w.heap.size ≤ w.heap.size + 1; omega) _
  have C0_13 := C0_12.set ⟨w.heap.size + 1, 2, none⟩ (Value.slice a2 t.store_.descs_.length c2) (.inl rfl)
  rw [hw13] at C0_13
  have C1_13 := C1_12.set ⟨w.heap.size + 1, 2, none⟩ (Value.slice a2 t.store_.descs_.length c2) (.inl rfl)
  rw [hw13] at C1_13
  have C2_13 := C2_12.set ⟨w.heap.size + 1, 2, none⟩ (Value.slice a2 t.store_.descs_.length c2) (.inl rfl)
  rw [hw13] at C2_13
  have C3_13 := C3_12.set ⟨w.heap.size + 1, 2, none⟩ (Value.slice a2 t.store_.descs_.length c2) (.inl rfl)
  rw [hw13] at C3_13
  have hs13 : w13.heap.size = w12.heap.size := by rw [← hw13]; simp [World.setCell]
  have r13 : w13.cell? ⟨w.heap.size + 1, 3, none⟩ = some (Value.slice none 0 0) := br13.1.2 3 (by simp)
  have k13 : w13.frozen? ⟨w.heap.size + 1, 3, none⟩ = false := br13.2 3 (by simp)
  obtain ⟨w14, hw14⟩ : ∃ X, w13.setCell ⟨w.heap.size + 1, 3, none⟩ (Value.slice a3 t.threads_.length c3) = X := ⟨_, rfl⟩
  have br14 : BoxF w14 (w.heap.size + 1) [Value.slice a0 t.first_.length c0, Value.slice a1 t.store_.heads_.length c1, Value.slice a2 t.store_.descs_.length c2, Value.slice a3 t.threads_.length c3, Value.slice none 0 0] := by rw [← hw14]; exact br13.set 3 (by simp) _
  have B14 : Below w.heap.size w w14 := by rw [← hw14]; exact B13.setCell (p := ⟨w.heap.size + 1, 3, none⟩) (by show w.heap.size ≤ w.heap.size + 1; omega) _
  have C0_14 := C0_13.set ⟨w.heap.size + 1, 3, none⟩ (Value.slice a3 t.threads_.length c3) (.inl rfl)
  rw [hw14] at C0_14
  have C1_14 := C1_13.set ⟨w.heap.size + 1, 3, none⟩ (Value.slice a3 t.threads_.length c3) (.inl rfl)
  rw [hw14] at C1_14
  have C2_14 := C2_13.set ⟨w.heap.size + 1, 3, none⟩ (Value.slice a3 t.threads_.length c3) (.inl rfl)
  rw [hw14] at C2_14
  have C3_14 := C3_13.set ⟨w.heap.size + 1, 3, none⟩ (Value.slice a3 t.threads_.length c3) (.inl rfl)
  rw [hw14] at C3_14
  have hs14 : w14.heap.size = w13.heap.size := by rw [← hw14]; simp [World.setCell]
  have r14 : w14.cell? ⟨w.heap.size + 1, 4, none⟩ = some (Value.slice none 0 0) := br14.1.2 4 (by simp)
  have k14 : w14.frozen? ⟨w.heap.size + 1, 4, none⟩ = false := br14.2 4 (by simp)
  obtain ⟨w15, hw15⟩ : ∃ X, w14.setCell ⟨w.heap.size + 1, 4, none⟩ (Value.slice a4 t.log_.length c4) = X := ⟨_, rfl⟩
  have br15 : BoxF w15 (w.heap.size + 1) [Value.slice a0 t.first_.length c0, Value.slice a1 t.store_.heads_.length c1, Value.slice a2 t.store_.descs_.length c2, Value.slice a3 t.threads_.length c3, Value.slice a4 t.log_.length c4] := by rw [← hw15]; exact br14.set 4 (by simp) _
  have B15 : Below w.heap.size w w15 := by rw [← hw15]; exact B14.setCell (p := ⟨w.heap.size + 1, 4, none⟩) (by show w.heap.size ≤ w.heap.size + 1; omega) _
  have C0_15 := C0_14.set ⟨w.heap.size + 1, 4, none⟩ (Value.slice a4 t.log_.length c4) (.inl rfl)
  rw [hw15] at C0_15
  have C1_15 := C1_14.set ⟨w.heap.size + 1, 4, none⟩ (Value.slice a4 t.log_.length c4) (.inl rfl)
  rw [hw15] at C1_15
  have C2_15 := C2_14.set ⟨w.heap.size + 1, 4, none⟩ (Value.slice a4 t.log_.length c4) (.inl rfl)
  rw [hw15] at C2_15
  have C3_15 := C3_14.set ⟨w.heap.size + 1, 4, none⟩ (Value.slice a4 t.log_.length c4) (.inl rfl)
  rw [hw15] at C3_15
  have hs15 : w15.heap.size = w14.heap.size := by rw [← hw15]; simp [World.setCell]
  have y0 : w15.cell? ⟨w.heap.size + 1, 0, none⟩ = some (Value.slice a0 t.first_.length c0) := br15.1.2 0 (by simp)
  have y1 : w15.cell? ⟨w.heap.size + 1, 1, none⟩ = some (Value.slice a1 t.store_.heads_.length c1) := br15.1.2 1 (by simp)
  have y2 : w15.cell? ⟨w.heap.size + 1, 2, none⟩ = some (Value.slice a2 t.store_.descs_.length c2) := br15.1.2 2 (by simp)
  have y3 : w15.cell? ⟨w.heap.size + 1, 3, none⟩ = some (Value.slice a3 t.threads_.length c3) := br15.1.2 3 (by simp)
  have y4 : w15.cell? ⟨w.heap.size + 1, 4, none⟩ = some (Value.slice a4 t.log_.length c4) := br15.1.2 4 (by simp)
  have FC0 := hid C0_15
  have FC1 := hid C1_15
  have FC2 := hid C2_15
  have FC3 := hid C3_15
  have BE := hid B15
  clear B1 B2 B3 B4 B5 B6 B7 B8 B9 B10 B11 B12 B13 B14 B15 C0_2 C0_3 C0_4 C0_5 C0_6 C0_7 C0_8 C0_9 C0_10 C0_11 C0_12 C0_13 C0_14 C0_15 C1_4 C1_5 C1_6 C1_7 C1_8 C1_9 C1_10 C1_11 C1_12 C1_13 C1_14 C1_15 C2_7 C2_8 C2_9 C2_10 C2_11 C2_12 C2_13 C2_14 C2_15 C3_9 C3_10 C3_11 C3_12 C3_13 C3_14 C3_15 br1 br2 br3 br4 br5 br6 br7 br8 br9 br10 br11 br12 br13 br14 br15 bo1 bo2 bo3 bo4 bo5 bo6 bo7 bo8 bo9 bo10 bx1 bx2 bx3 bx4 bx5 bx6 bx7 bx8 bx9 bx10
  go_wp2
  refine bodyPost_ret (v := .agg #[Value.slice a0 t.first_.length c0, Value.slice a1 t.store_.heads_.length c1, Value.slice a2 t.store_.descs_.length c2, Value.slice a3 t.threads_.length c3, Value.slice a4 t.log_.length c4]) ?_ rfl ⟨_, _, _, _, _, S0, S1, S2, S3, S4, rfl, m0.chg FC0.out ?_, m1.chg FC1.out ?_, m2.chg FC1.out ?_, m3.chg FC2.out ?_, m4.chg FC3.out ?_, ?_, ?_, ?_, ?_, ?_, ?_, ?_, ?_, ?_, d12, ?_, ?_, ?_, ?_, ?_, BE.out⟩
  · simp [results, Tryz.results6, go_sem, y0, y1, y2, y3, y4]
  · intro b hb
    have h9 := g0 b hb
    exact ⟨h9.2, fun h => by have := h9.1; rcases h with h | h <;> omega⟩
  · intro b hb
    have h9 := g1 b hb
    exact ⟨h9.2, fun h => by have := h9.1; rcases h with h | h <;> omega⟩
  · intro b hb
    have h9 := g2 b hb
    exact ⟨h9.2, fun h => by have := h9.1; rcases h with h | h <;> omega⟩
  · intro b hb
    have h9 := g3 b hb
    exact ⟨h9.2, fun h => by have := h9.1; rcases h with h | h <;> omega⟩
  · intro b hb
    have h9 := g4 b hb
    exact ⟨h9.2, fun h => by have := h9.1; rcases h with h | h <;> omega⟩
  · intro b hb
    have h9 := g0 b hb
    exact ⟨by have := h9.1; omega, by have := h9.2; have := FC0.out.size; omega⟩
  · intro b hb
    have h9 := g1 b hb
    exact ⟨by have := h9.1; omega, by have := h9.2; have := FC1.out.size; omega⟩
  · intro b hb
    have h9 := g2 b hb
    exact ⟨by have := h9.1; omega, by have := h9.2; have := FC1.out.size; omega⟩
  · intro b hb
    have h9 := g3 b hb
    exact ⟨by have := h9.1; omega, by have := h9.2; have := FC2.out.size; omega⟩
  · intro b hb
    have h9 := g4 b hb
    exact ⟨by have := h9.1; omega, by have := h9.2; have := FC3.out.size; omega⟩
  · intro b hb hc
    have h8 := g0 b hb; have h9 := g1 b hc
    have := h8.2; have := h9.1; omega
  · intro b hb hc
    have h8 := g0 b hb; have h9 := g2 b hc
    have := h8.2; have := h9.1; omega
  · intro b hb hc
    have h8 := g0 b hb; have h9 := g3 b hc
    have := h8.2; have := h9.1; omega
  · intro b hb hc
    have h8 := g0 b hb; have h9 := g4 b hc
    have := h8.2; have := h9.1; omega
  · intro b hb hc
    have h8 := g1 b hb; have h9 := g3 b hc
    have := h8.2; have := h9.1; omega
  · intro b hb hc
    have h8 := g1 b hb; have h9 := g4 b hc
    have := h8.2; have := h9.1; omega
  · intro b hb hc
    have h8 := g2 b hb; have h9 := g3 b hc
    have := h8.2; have := h9.1; omega
  · intro b hb hc
    have h8 := g2 b hb; have h9 := g4 b hc
    have := h8.2; have := h9.1; omega
  · intro b hb hc
    have h8 := g3 b hb; have h9 := g4 b hc
    have := h8.2; have := h9.1; omega
end Go.Proofs.YtbbdchlabdilcabGreat
