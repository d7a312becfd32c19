/- Chapter 11's data in memory: what the laws' helpers do on a world. (printed by tools/mk_n11w.py) -/
import Derived.Test.YtcafdihekamnkaaN11h
import Derived.Test.YtcafdihekamnkaaN10e
namespace Go.Proofs.Ytcafdihekamnkaa
set_option maxRecDepth 100000
open Go.RowKit Go.Proofs Go.Own
set_option linter.unusedVariables false
set_option linter.unusedSimpArgs false
structure WorldD where
  first_ : List Int
  store_ : StoreD
  threads_ : List ThreadD
  log_ : List Event
def szWorldD (t : WorldD) : Nat := t.first_.length + szStoreD t.store_ + szThreadSD t.threads_ + t.log_.length
def WorldB (t : WorldD) : Prop := szWorldD t ≤ 1048576
theorem worldB_parts {t : WorldD} (h : WorldB t) : IntSB t.first_ ∧ StoreB t.store_ ∧ ThreadSB t.threads_ ∧ EventSB t.log_ := by
  unfold WorldB szWorldD szStoreD at h; unfold IntSB StoreB ThreadSB EventSB; omega
def cntWorld (t : WorldD) : Nat := cntIntS t.first_ + cntS t.store_ + cntThreadS t.threads_ + cntEventS t.log_
theorem cntWorld_le {t : WorldD} (h : WorldB t) : cntWorld t ≤ 400000000 := by
  obtain ⟨a, b, c, d⟩ := worldB_parts h
  have := cntIntS_le a; have := cntS_le b; have := cntThreadS_le c; have := cntEventS_le d
  unfold cntWorld; omega
def markWorldD (t : WorldD) (k : Int) : WorldD := ⟨markIntSD t.first_ k, markS t.store_ (k + cntIntS t.first_), markThreadSD t.threads_ (k + cntIntS t.first_ + cntS t.store_), markEventSD t.log_ (k + cntIntS t.first_ + cntS t.store_ + cntThreadS t.threads_)⟩
set_option maxHeartbeats 8000000 in
theorem markWorld_o (S0 S1 S2 S3 S4 : Nat → Prop) (t : WorldD) (v0 v1 v2 v3 v4 : Value) (k : Int) (w : World) (hS0 : ∀ b, S0 b → b < w.heap.size) (hS1 : ∀ b, S1 b → b < w.heap.size) (hS2 : ∀ b, S2 b → b < w.heap.size) (hS3 : ∀ b, S3 b → b < w.heap.size) (hS4 : ∀ b, S4 b → b < w.heap.size) (hd01 : ∀ b, S0 b → ¬ S1 b) (hd02 : ∀ b, S0 b → ¬ S2 b) (hd03 : ∀ b, S0 b → ¬ S3 b) (hd04 : ∀ b, S0 b → ¬ S4 b) (hd12 : ∀ b, S1 b → ¬ S2 b) (hd13 : ∀ b, S1 b → ¬ S3 b) (hd14 : ∀ b, S1 b → ¬ S4 b) (hd23 : ∀ b, S2 b → ¬ S3 b) (hd24 : ∀ b, S2 b → ¬ S4 b) (hd34 : ∀ b, S3 b → ¬ S4 b) (hb : WorldB t) (h0 : 0 ≤ k) (h1 : k ≤ 800000000000) (o0 : ownL S0 w v0 t.first_) (o1 : ownL S1 w v1 t.store_.heads_) (o2 : ownL S2 w v2 t.store_.descs_) (o3 : ownL S3 w v3 t.threads_) (o4 : ownL S4 w v4 t.log_) :
    Calls Try.prog 14 #[.agg #[v0, v1, v2, v3, v4], .int .i64 k] w fun r w' => r = .returned (.int .i64 (k + cntWorld t)) ∧ ownL S0 w' v0 (markWorldD t k).first_ ∧ ownL S1 w' v1 (markWorldD t k).store_.heads_ ∧ ownL S2 w' v2 (markWorldD t k).store_.descs_ ∧ ownL S3 w' v3 (markWorldD t k).threads_ ∧ ownL S4 w' v4 (markWorldD t k).log_ ∧ ChgS (fun b => S0 b ∨ S1 b ∨ S2 b ∨ S3 b ∨ S4 b) w w' := by
  obtain ⟨hb0, hb1, hb2, hb3⟩ := worldB_parts hb
  have hc0 := cntIntS_le hb0
  have hc1 := cntS_le hb1
  have hc2 := cntThreadS_le hb2
  have hc3 := cntEventS_le hb3
  obtain ⟨W1, hW1⟩ : ∃ X, w.alloc (.cells #[v0, v1, v2, v3, v4] 32) = X := ⟨_, rfl⟩
  have hB1 : Below w.heap.size w W1 := by rw [← hW1]; exact (Below.refl _ _).alloc (Nat.le_refl _) _
  have bx1 : BoxF W1 w.heap.size [v0, v1, v2, v3, v4] := by rw [← hW1]; exact BoxF.alloc _ _ _
  have hN : w.heap.size < W1.heap.size := bx1.1.1
  have nS0 : ¬ S0 w.heap.size := fun h => absurd (hS0 _ h) (Nat.lt_irrefl _)
  have m0_1 := o0.keep (fun b hb => hB1.block b (hS0 b hb))
  have L0_1 : ∀ b, S0 b → b < W1.heap.size := fun b hb => Nat.lt_trans (hS0 b hb) hN
  have nS1 : ¬ S1 w.heap.size := fun h => absurd (hS1 _ h) (Nat.lt_irrefl _)
  have m1_1 := o1.keep (fun b hb => hB1.block b (hS1 b hb))
  have L1_1 : ∀ b, S1 b → b < W1.heap.size := fun b hb => Nat.lt_trans (hS1 b hb) hN
  have nS2 : ¬ S2 w.heap.size := fun h => absurd (hS2 _ h) (Nat.lt_irrefl _)
  have m2_1 := o2.keep (fun b hb => hB1.block b (hS2 b hb))
  have L2_1 : ∀ b, S2 b → b < W1.heap.size := fun b hb => Nat.lt_trans (hS2 b hb) hN
  have nS3 : ¬ S3 w.heap.size := fun h => absurd (hS3 _ h) (Nat.lt_irrefl _)
  have m3_1 := o3.keep (fun b hb => hB1.block b (hS3 b hb))
  have L3_1 : ∀ b, S3 b → b < W1.heap.size := fun b hb => Nat.lt_trans (hS3 b hb) hN
  have nS4 : ¬ S4 w.heap.size := fun h => absurd (hS4 _ h) (Nat.lt_irrefl _)
  have m4_1 := o4.keep (fun b hb => hB1.block b (hS4 b hb))
  have L4_1 : ∀ b, S4 b → b < W1.heap.size := fun b hb => Nat.lt_trans (hS4 b hb) hN
  have C_1 := ChgS.of_below hB1 (fun b => S0 b ∨ S1 b ∨ S2 b ∨ S3 b ∨ S4 b)
  have HW1 := hid hW1
  clear hW1
  go_enter Try.func14, Try.ntmps14
  go_wp2_with fail
  rw [HW1.out]
  refine (markIntS_o S0 t.first_ v0 _ _ L0_1 hb0 (by omega) (by omega) m0_1).mono ?_
  rintro e w2 ⟨rfl, m0_2, D2⟩
  have m1_2 := m1_1.keep (fun q hq => D2.block q (L1_1 q hq) (fun h => hd01 q h hq))
  have m2_2 := m2_1.keep (fun q hq => D2.block q (L2_1 q hq) (fun h => hd02 q h hq))
  have m3_2 := m3_1.keep (fun q hq => D2.block q (L3_1 q hq) (fun h => hd03 q h hq))
  have m4_2 := m4_1.keep (fun q hq => D2.block q (L4_1 q hq) (fun h => hd04 q h hq))
  have L0_2 : ∀ b, S0 b → b < w2.heap.size := fun q hq => Nat.lt_of_lt_of_le (L0_1 q hq) D2.size
  have L1_2 : ∀ b, S1 b → b < w2.heap.size := fun q hq => Nat.lt_of_lt_of_le (L1_1 q hq) D2.size
  have L2_2 : ∀ b, S2 b → b < w2.heap.size := fun q hq => Nat.lt_of_lt_of_le (L2_1 q hq) D2.size
  have L3_2 : ∀ b, S3 b → b < w2.heap.size := fun q hq => Nat.lt_of_lt_of_le (L3_1 q hq) D2.size
  have L4_2 : ∀ b, S4 b → b < w2.heap.size := fun q hq => Nat.lt_of_lt_of_le (L4_1 q hq) D2.size
  have bx2 := bx1.chg D2 nS0
  have C_2 := C_1.trans (D2.mono (fun b h => .inl h))
  have x2_1 : w2.cell? ⟨w.heap.size, 1, none⟩ = some v1 := bx2.1.2 1 (by simp)
  have x2_2 : w2.cell? ⟨w.heap.size, 2, none⟩ = some v2 := bx2.1.2 2 (by simp)
  go_wp2_with fail
  refine (markStore_o S1 S2 t.store_ v1 v2 _ _ L1_2 L2_2 hd12 hb1 (by omega) (by omega) m1_2 m2_2).mono ?_
  rintro e w3 ⟨rfl, m1_3, m2_3, D3⟩
  have m0_3 := m0_2.keep (fun q hq => D3.block q (L0_2 q hq) (fun h => h.elim (fun h => hd01 q hq h) (fun h => hd02 q hq h)))
  have m3_3 := m3_2.keep (fun q hq => D3.block q (L3_2 q hq) (fun h => h.elim (fun h => hd13 q h hq) (fun h => hd23 q h hq)))
  have m4_3 := m4_2.keep (fun q hq => D3.block q (L4_2 q hq) (fun h => h.elim (fun h => hd14 q h hq) (fun h => hd24 q h hq)))
  have L0_3 : ∀ b, S0 b → b < w3.heap.size := fun q hq => Nat.lt_of_lt_of_le (L0_2 q hq) D3.size
  have L1_3 : ∀ b, S1 b → b < w3.heap.size := fun q hq => Nat.lt_of_lt_of_le (L1_2 q hq) D3.size
  have L2_3 : ∀ b, S2 b → b < w3.heap.size := fun q hq => Nat.lt_of_lt_of_le (L2_2 q hq) D3.size
  have L3_3 : ∀ b, S3 b → b < w3.heap.size := fun q hq => Nat.lt_of_lt_of_le (L3_2 q hq) D3.size
  have L4_3 : ∀ b, S4 b → b < w3.heap.size := fun q hq => Nat.lt_of_lt_of_le (L4_2 q hq) D3.size
  have bx3 := bx2.chg D3 (fun h => h.elim nS1 nS2)
  have C_3 := C_2.trans (D3.mono (fun b h => h.elim (fun h => .inr (.inl h)) (fun h => .inr (.inr (.inl h)))))
  have x3_3 : w3.cell? ⟨w.heap.size, 3, none⟩ = some v3 := bx3.1.2 3 (by simp)
  go_wp2_with fail
  refine (markThreadS_o S3 t.threads_ v3 _ _ L3_3 hb2 (by omega) (by omega) m3_3).mono ?_
  rintro e w4 ⟨rfl, m3_4, D4⟩
  have m0_4 := m0_3.keep (fun q hq => D4.block q (L0_3 q hq) (fun h => hd03 q hq h))
  have m1_4 := m1_3.keep (fun q hq => D4.block q (L1_3 q hq) (fun h => hd13 q hq h))
  have m2_4 := m2_3.keep (fun q hq => D4.block q (L2_3 q hq) (fun h => hd23 q hq h))
  have m4_4 := m4_3.keep (fun q hq => D4.block q (L4_3 q hq) (fun h => hd34 q h hq))
  have L0_4 : ∀ b, S0 b → b < w4.heap.size := fun q hq => Nat.lt_of_lt_of_le (L0_3 q hq) D4.size
  have L1_4 : ∀ b, S1 b → b < w4.heap.size := fun q hq => Nat.lt_of_lt_of_le (L1_3 q hq) D4.size
  have L2_4 : ∀ b, S2 b → b < w4.heap.size := fun q hq => Nat.lt_of_lt_of_le (L2_3 q hq) D4.size
  have L3_4 : ∀ b, S3 b → b < w4.heap.size := fun q hq => Nat.lt_of_lt_of_le (L3_3 q hq) D4.size
  have L4_4 : ∀ b, S4 b → b < w4.heap.size := fun q hq => Nat.lt_of_lt_of_le (L4_3 q hq) D4.size
  have bx4 := bx3.chg D4 nS3
  have C_4 := C_3.trans (D4.mono (fun b h => .inr (.inr (.inr (.inl h)))))
  have x4_4 : w4.cell? ⟨w.heap.size, 4, none⟩ = some v4 := bx4.1.2 4 (by simp)
  go_wp2_with fail
  refine (markEventS_o S4 t.log_ v4 _ _ L4_4 hb3 (by omega) (by omega) m4_4).mono ?_
  rintro e w5 ⟨rfl, m4_5, D5⟩
  have m0_5 := m0_4.keep (fun q hq => D5.block q (L0_4 q hq) (fun h => hd04 q hq h))
  have m1_5 := m1_4.keep (fun q hq => D5.block q (L1_4 q hq) (fun h => hd14 q hq h))
  have m2_5 := m2_4.keep (fun q hq => D5.block q (L2_4 q hq) (fun h => hd24 q hq h))
  have m3_5 := m3_4.keep (fun q hq => D5.block q (L3_4 q hq) (fun h => hd34 q hq h))
  have L0_5 : ∀ b, S0 b → b < w5.heap.size := fun q hq => Nat.lt_of_lt_of_le (L0_4 q hq) D5.size
  have L1_5 : ∀ b, S1 b → b < w5.heap.size := fun q hq => Nat.lt_of_lt_of_le (L1_4 q hq) D5.size
  have L2_5 : ∀ b, S2 b → b < w5.heap.size := fun q hq => Nat.lt_of_lt_of_le (L2_4 q hq) D5.size
  have L3_5 : ∀ b, S3 b → b < w5.heap.size := fun q hq => Nat.lt_of_lt_of_le (L3_4 q hq) D5.size
  have L4_5 : ∀ b, S4 b → b < w5.heap.size := fun q hq => Nat.lt_of_lt_of_le (L4_4 q hq) D5.size
  have bx5 := bx4.chg D5 nS4
  have C_5 := C_4.trans (D5.mono (fun b h => .inr (.inr (.inr (.inr h)))))
  have HM := hid (And.intro m0_5 (And.intro m1_5 (And.intro m2_5 (And.intro m3_5 (And.intro m4_5 C_5)))))
  clear m0_1 m0_2 m0_3 m0_4 m0_5 m1_1 m1_2 m1_3 m1_4 m1_5 m2_1 m2_2 m2_3 m2_4 m2_5 m3_1 m3_2 m3_3 m3_4 m3_5 m4_1 m4_2 m4_3 m4_4 m4_5
  go_wp2
  go_ret
  exact ⟨ret_int (by unfold cntWorld; omega), HM.out⟩
set_option maxHeartbeats 8000000 in
theorem heldWorld_o (t : WorldD) (v0 v1 v2 v3 v4 : Value) (k : Int) (w : World) (hb : WorldB t) (h0 : 0 ≤ k) (h1 : k ≤ 800000000000) (r0 : rdsL w v0 (markWorldD t k).first_) (r1 : rdsL w v1 (markWorldD t k).store_.heads_) (r2 : rdsL w v2 (markWorldD t k).store_.descs_) (r3 : rdsL w v3 (markWorldD t k).threads_) (r4 : rdsL w v4 (markWorldD t k).log_) :
    Calls Try.prog 15 #[.agg #[v0, v1, v2, v3, v4], .int .i64 k] w fun r w' => r = .returned (.int .i64 (k + cntWorld t)) ∧ Below w.heap.size w w' := by
  obtain ⟨hb0, hb1, hb2, hb3⟩ := worldB_parts hb
  have hc0 := cntIntS_le hb0
  have hc1 := cntS_le hb1
  have hc2 := cntThreadS_le hb2
  have hc3 := cntEventS_le hb3
  obtain ⟨W1, hW1⟩ : ∃ X, w.alloc (.cells #[v0, v1, v2, v3, v4] 32) = X := ⟨_, rfl⟩
  have hB1 : Below w.heap.size w W1 := by rw [← hW1]; exact (Below.refl _ _).alloc (Nat.le_refl _) _
  have bx1 : BoxF W1 w.heap.size [v0, v1, v2, v3, v4] := by rw [← hW1]; exact BoxF.alloc _ _ _
  have q0_1 := hid (rdsL.below r0 hB1)
  have q1_1 := hid (rdsL.below r1 hB1)
  have q2_1 := hid (rdsL.below r2 hB1)
  have q3_1 := hid (rdsL.below r3 hB1)
  have q4_1 := hid (rdsL.below r4 hB1)
  have B1 := hB1
  have HW1 := hid hW1
  clear hW1 r0 r1 r2 r3 r4
  have p1 : ¬ (k + (cntIntS t.first_ : Int) < 0) := by omega
  have p2 : ¬ (k + (cntIntS t.first_ : Int) + (cntS t.store_ : Int) < 0) := by omega
  have p3 : ¬ (k + (cntIntS t.first_ : Int) + (cntS t.store_ : Int) + (cntThreadS t.threads_ : Int) < 0) := by omega
  have p4 : ¬ (k + (cntIntS t.first_ : Int) + (cntS t.store_ : Int) + (cntThreadS t.threads_ : Int) + (cntEventS t.log_ : Int) < 0) := by omega
  go_enter Try.func15, Try.ntmps15
  go_wp2_with fail
  rw [HW1.out]
  refine (heldIntS_o t.first_ v0 _ _ hb0 (by omega) (by omega) q0_1.out).mono ?_
  rintro e w2 ⟨rfl, b2⟩
  have B2 := B1.trans (b2.mono B1.size)
  have bx2 := bx1.below b2
  have q1_2 := hid (rdsL.below q1_1.out b2)
  have q2_2 := hid (rdsL.below q2_1.out b2)
  have q3_2 := hid (rdsL.below q3_1.out b2)
  have q4_2 := hid (rdsL.below q4_1.out b2)
  have x2_1 : w2.cell? ⟨w.heap.size, 1, none⟩ = some v1 := bx2.1.2 1 (by simp)
  have x2_2 : w2.cell? ⟨w.heap.size, 2, none⟩ = some v2 := bx2.1.2 2 (by simp)
  go_wp2_with fail
  refine (heldStore_o t.store_ v1 v2 _ _ hb1 (by omega) (by omega) q1_2.out q2_2.out).mono ?_
  rintro e w3 ⟨rfl, b3⟩
  have B3 := B2.trans (b3.mono B2.size)
  have bx3 := bx2.below b3
  have q3_3 := hid (rdsL.below q3_2.out b3)
  have q4_3 := hid (rdsL.below q4_2.out b3)
  have x3_3 : w3.cell? ⟨w.heap.size, 3, none⟩ = some v3 := bx3.1.2 3 (by simp)
  go_wp2_with fail
  refine (heldThreadS_o t.threads_ v3 _ _ hb2 (by omega) (by omega) q3_3.out).mono ?_
  rintro e w4 ⟨rfl, b4⟩
  have B4 := B3.trans (b4.mono B3.size)
  have bx4 := bx3.below b4
  have q4_4 := hid (rdsL.below q4_3.out b4)
  have x4_4 : w4.cell? ⟨w.heap.size, 4, none⟩ = some v4 := bx4.1.2 4 (by simp)
  go_wp2_with fail
  refine (heldEventS_o t.log_ v4 _ _ hb3 (by omega) (by omega) q4_4.out).mono ?_
  rintro e w5 ⟨rfl, b5⟩
  have B5 := B4.trans (b5.mono B4.size)
  have bx5 := bx4.below b5
  go_wp2
  go_ret
  exact ⟨ret_int (by unfold cntWorld; omega), B5⟩
set_option maxHeartbeats 8000000 in
theorem eqWorld_o (t : WorldD) (v0 v1 v2 v3 v4 u0 u1 u2 u3 u4 : Value) (w : World) (r0 : rdsL w v0 t.first_) (r1 : rdsL w v1 t.store_.heads_) (r2 : rdsL w v2 t.store_.descs_) (r3 : rdsL w v3 t.threads_) (r4 : rdsL w v4 t.log_) (g0 : rdsL w u0 t.first_) (g1 : rdsL w u1 t.store_.heads_) (g2 : rdsL w u2 t.store_.descs_) (g3 : rdsL w u3 t.threads_) (g4 : rdsL w u4 t.log_) :
    Calls Try.prog 9 #[.agg #[v0, v1, v2, v3, v4], .agg #[u0, u1, u2, u3, u4]] w fun e w' => e = .returned (.bool true) ∧ Below w.heap.size w w' := by
  obtain ⟨W1, hW1⟩ : ∃ X, (w.alloc (.cells #[v0, v1, v2, v3, v4] 32)).alloc (.cells #[u0, u1, u2, u3, u4] 32) = X := ⟨_, rfl⟩
  have hB1 : Below w.heap.size w W1 := by rw [← hW1]; exact ((Below.refl _ _).alloc (Nat.le_refl _) _).alloc (by simp) _
  have bx1 : BoxF W1 w.heap.size [v0, v1, v2, v3, v4] := by
    rw [← hW1]; exact (BoxF.alloc w #[v0, v1, v2, v3, v4] 32).below ((Below.refl _ _).alloc (Nat.le_refl _) _)
  have by1 : BoxF W1 (w.heap.size + 1) [u0, u1, u2, u3, u4] := by
    rw [← hW1]
    have h9 := BoxF.alloc (w.alloc (.cells #[v0, v1, v2, v3, v4] 32)) #[u0, u1, u2, u3, u4] 32
    rw [show (w.alloc (.cells #[v0, v1, v2, v3, v4] 32)).heap.size = w.heap.size + 1 by simp] at h9
    exact h9
  have q0_1 := hid (rdsL.below r0 hB1)
  have p0_1 := hid (rdsL.below g0 hB1)
  have q1_1 := hid (rdsL.below r1 hB1)
  have p1_1 := hid (rdsL.below g1 hB1)
  have q2_1 := hid (rdsL.below r2 hB1)
  have p2_1 := hid (rdsL.below g2 hB1)
  have q3_1 := hid (rdsL.below r3 hB1)
  have p3_1 := hid (rdsL.below g3 hB1)
  have q4_1 := hid (rdsL.below r4 hB1)
  have p4_1 := hid (rdsL.below g4 hB1)
  have B1 := hB1
  have HW1 := hid hW1
  clear hW1 r0 g0 r1 g1 r2 g2 r3 g3 r4 g4
  go_enter Try.func9, Try.ntmps9
  go_wp2_with fail
  rw [HW1.out]
  refine (eqIntS_o t.first_ v0 u0 _ q0_1.out p0_1.out).mono ?_
  rintro e w2 ⟨rfl, b2⟩
  have B2 := B1.trans (b2.mono B1.size)
  have bx2 := bx1.below b2
  have by2 := by1.below b2
  have q1_2 := hid (rdsL.below q1_1.out b2)
  have p1_2 := hid (rdsL.below p1_1.out b2)
  have q2_2 := hid (rdsL.below q2_1.out b2)
  have p2_2 := hid (rdsL.below p2_1.out b2)
  have q3_2 := hid (rdsL.below q3_1.out b2)
  have p3_2 := hid (rdsL.below p3_1.out b2)
  have q4_2 := hid (rdsL.below q4_1.out b2)
  have p4_2 := hid (rdsL.below p4_1.out b2)
  have x2_1 : w2.cell? ⟨w.heap.size, 1, none⟩ = some v1 := bx2.1.2 1 (by simp)
  have x2_2 : w2.cell? ⟨w.heap.size, 2, none⟩ = some v2 := bx2.1.2 2 (by simp)
  have y2_1 : w2.cell? ⟨w.heap.size + 1, 1, none⟩ = some u1 := by2.1.2 1 (by simp)
  have y2_2 : w2.cell? ⟨w.heap.size + 1, 2, none⟩ = some u2 := by2.1.2 2 (by simp)
  go_wp2_with fail
  refine (eqStore_o t.store_ v1 v2 u1 u2 _ q1_2.out q2_2.out p1_2.out p2_2.out).mono ?_
  rintro e w3 ⟨rfl, b3⟩
  have B3 := B2.trans (b3.mono B2.size)
  have bx3 := bx2.below b3
  have by3 := by2.below b3
  have q3_3 := hid (rdsL.below q3_2.out b3)
  have p3_3 := hid (rdsL.below p3_2.out b3)
  have q4_3 := hid (rdsL.below q4_2.out b3)
  have p4_3 := hid (rdsL.below p4_2.out b3)
  have x3_3 : w3.cell? ⟨w.heap.size, 3, none⟩ = some v3 := bx3.1.2 3 (by simp)
  have y3_3 : w3.cell? ⟨w.heap.size + 1, 3, none⟩ = some u3 := by3.1.2 3 (by simp)
  go_wp2_with fail
  refine (eqThreadS_o t.threads_ v3 u3 _ q3_3.out p3_3.out).mono ?_
  rintro e w4 ⟨rfl, b4⟩
  have B4 := B3.trans (b4.mono B3.size)
  have bx4 := bx3.below b4
  have by4 := by3.below b4
  have q4_4 := hid (rdsL.below q4_3.out b4)
  have p4_4 := hid (rdsL.below p4_3.out b4)
  have x4_4 : w4.cell? ⟨w.heap.size, 4, none⟩ = some v4 := bx4.1.2 4 (by simp)
  have y4_4 : w4.cell? ⟨w.heap.size + 1, 4, none⟩ = some u4 := by4.1.2 4 (by simp)
  go_wp2_with fail
  refine (eqEventS_o t.log_ v4 u4 _ q4_4.out p4_4.out).mono ?_
  rintro e w5 ⟨rfl, b5⟩
  have B5 := B4.trans (b5.mono B4.size)
  have bx5 := bx4.below b5
  have by5 := by4.below b5
  go_wp2
  go_ret
  exact ⟨rfl, B5⟩
end Go.Proofs.Ytcafdihekamnkaa
