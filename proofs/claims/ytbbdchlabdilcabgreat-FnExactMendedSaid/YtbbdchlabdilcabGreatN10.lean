/- Chapter 10's data in memory: what the laws' helpers do on a thread. (printed by tools/mk_thread.py) -/
import Derived.Test.YtbbdchlabdilcabGreatN10o
import Derived.Test.YtbbdchlabdilcabGreatM4
import Derived.Deep.Cut
namespace Go.Proofs.YtbbdchlabdilcabGreat
set_option maxRecDepth 100000
open Go.RowKit Go.Proofs Go.Own
set_option linter.unusedVariables false
set_option linter.unusedSimpArgs false
-- a list of entries
def EntrySB (xs : List Entry) : Prop := xs.length ≤ 1048576
def szEntrySD (xs : List Entry) : Nat := xs.length
def cntEntryS (xs : List Entry) : Nat := 5 * xs.length
def markEntrySD (xs : List Entry) (k : Int) : List Entry := markEs k xs.length
theorem cntEntryS_le {xs : List Entry} (h : EntrySB xs) : cntEntryS xs ≤ 100000000 := by unfold EntrySB at h; unfold cntEntryS; omega
theorem ownEntry_of {w w' : World} {u : Value} {xs : List Entry} (o : w'.ownsRow w.heap.size 121 5 u xs.length (xs.flatMap Entry.enc)) : ownL (Rg w.heap.size w'.heap.size) w' u xs := ownEntrys.2 ⟨owns_base o (fun _ _ => Nat.zero_le _), fun k hk => owns_in o k hk⟩
theorem toEntryS_o (xs : List Entry) (v : Value) (w : World) (r : rdsL w v xs) (hb : EntrySB xs) :
    Calls Tryz.prog 79 #[v] w fun e w' => ∃ u : Value, ∃ S : Nat → Prop, e = .returned u ∧ ownL S w' u xs ∧ (∀ b, S b → Rg w.heap.size w'.heap.size b) ∧ Below w.heap.size w w' := by
  refine (toEntryS_c v xs w hb (rdsEntrys.1 r)).mono ?_
  rintro e w' ⟨u, rfl, o, b⟩
  exact ⟨u, _, rfl, ownEntry_of o, fun _ h => h, b⟩
theorem eqEntryS_o (xs : List Entry) (v u : Value) (w : World) (r : rdsL w v xs) (g : rdsL w u xs) :
    Calls Tryz.prog 96 #[v, u] w fun e w' => e = .returned (.bool true) ∧ Below w.heap.size w w' := eqEntryS_c v u xs w (rdsEntrys.1 r) (rdsEntrys.1 g)
theorem szEntryS_o (xs : List Entry) (v : Value) (k : Int) (w : World) (h0 : 0 ≤ k) (h1 : k ≤ 1048576) (r : rdsL w v xs) :
    Calls Tryz.prog 64 #[v, .int .i64 k] w fun e w' => e = .returned (.int .i64 (szR k (szEntrySD xs))) ∧ Below w.heap.size w w' := by
  obtain ⟨a, cap, rfl, hl, hm⟩ := (rdsEntrys.1 r).form
  refine (szEntryS_c a xs.length cap k w (by omega) h0 h1).mono ?_
  rintro e w' ⟨rfl, rfl⟩
  exact ⟨rfl, Below.refl _ _⟩
theorem markEntryS_o (S : Nat → Prop) (xs : List Entry) (v : Value) (k : Int) (w : World) (hS : ∀ b, S b → b < w.heap.size) (hb : EntrySB xs) (h0 : 0 ≤ k) (h1 : k ≤ 1000000000000000) (o : ownL S w v xs) :
    Calls Tryz.prog 60 #[v, .int .i64 k] w fun r w' => r = .returned (.int .i64 (k + cntEntryS xs)) ∧ ownL S w' v (markEntrySD xs k) ∧ ChgS S w w' := by
  obtain ⟨r, hbk⟩ := ownEntrys.1 o
  unfold EntrySB at hb
  refine (markEntryS_c 0 121 v xs.length _ k w (by omega) h0 (by omega) r).mono ?_
  rintro e w' ⟨rfl, r2, g2⟩
  refine ⟨by unfold cntEntryS; exact ret_int (by omega), ownEntrys.2 ⟨?_, hbk⟩, ChgS.of_grown g2 fun b e => hbk b e⟩
  show w'.ownsRow 0 _ 5 v (markEs k xs.length).length ((markEs k xs.length).flatMap Entry.enc)
  rw [markEs_len, markEs_enc]; exact r2
-- a thread
structure ThreadD where
  id_ : Int
  prog_ : List Instr
  at_ : Int
  reg0_ : Int
  reg1_ : Int
  reg2_ : Int
  reg3_ : Int
  open_ : List Entry
  check_ : Int
  stack_ : List Frame
  mine_ : Int
  state_ : Int
  commits_ : Int
  fails_ : Int
def ThreadB (t : ThreadD) : Prop := t.prog_.length + t.open_.length + t.stack_.length ≤ 1048576
def szThreadD (t : ThreadD) : Nat := t.prog_.length + t.open_.length + t.stack_.length
def cntThread (t : ThreadD) : Nat := cntInstrS t.prog_ + cntEntryS t.open_ + cntFrameS t.stack_
def markThreadD (t : ThreadD) (k : Int) : ThreadD := { t with prog_ := markInstrSD t.prog_ k, open_ := markEntrySD t.open_ (k + cntInstrS t.prog_), stack_ := markFrameSD t.stack_ (k + cntInstrS t.prog_ + cntEntryS t.open_) }
theorem threadB_parts {t : ThreadD} (h : ThreadB t) : InstrSB t.prog_ ∧ EntrySB t.open_ ∧ FrameSB t.stack_ := by unfold ThreadB at h; unfold InstrSB EntrySB FrameSB; omega
theorem cntThread_le {t : ThreadD} (h : ThreadB t) : cntThread t ≤ 100000000 := by unfold ThreadB at h; unfold cntThread cntInstrS cntEntryS cntFrameS; omega
theorem szThread_o (t : ThreadD) (v0 v1 v2 : Value) (k : Int) (w : World) (h0 : 0 ≤ k) (h1 : k ≤ 1048576) (r0 : rdsL w v0 t.prog_) (r1 : rdsL w v1 t.open_) (r2 : rdsL w v2 t.stack_) :
    Calls Tryz.prog 33 #[.agg #[.int .i64 t.id_, v0, .int .i64 t.at_, .int .i64 t.reg0_, .int .i64 t.reg1_, .int .i64 t.reg2_, .int .i64 t.reg3_, v1, .int .i64 t.check_, v2, .int .i64 t.mine_, .int .i64 t.state_, .int .i64 t.commits_, .int .i64 t.fails_], .int .i64 k] w fun e w' => e = .returned (.int .i64 (szR k (szThreadD t))) ∧ Below w.heap.size w w' := by
  obtain ⟨W1, hW1⟩ : ∃ X, w.alloc (.cells #[.int .i64 t.id_, v0, .int .i64 t.at_, .int .i64 t.reg0_, .int .i64 t.reg1_, .int .i64 t.reg2_, .int .i64 t.reg3_, v1, .int .i64 t.check_, v2, .int .i64 t.mine_, .int .i64 t.state_, .int .i64 t.commits_, .int .i64 t.fails_] 74) = X := ⟨_, rfl⟩
  have hB1 : Below w.heap.size w W1 := by rw [← hW1]; exact (Below.refl _ _).alloc (Nat.le_refl _) _
  have bx : Box W1 w.heap.size [.int .i64 t.id_, v0, .int .i64 t.at_, .int .i64 t.reg0_, .int .i64 t.reg1_, .int .i64 t.reg2_, .int .i64 t.reg3_, v1, .int .i64 t.check_, v2, .int .i64 t.mine_, .int .i64 t.state_, .int .i64 t.commits_, .int .i64 t.fails_] := by rw [← hW1]; exact Box.alloc _ _ _
  have hN : w.heap.size < W1.heap.size := bx.1
  have q0 := hid (rdsL.below r0 hB1)
  have q1 := hid (rdsL.below r1 hB1)
  have q2 := hid (rdsL.below r2 hB1)
  have HW1 := hid hW1
  clear hW1 r0 r1 r2
  go_enter Tryz.func33, Tryz.ntmps33
  go_wp2_with fail
  rw [HW1.out]
  refine (szInstrS_o t.prog_ v0 k _ h0 h1 q0.out).mono ?_
  rintro e w2 ⟨rfl, b2⟩
  have B2 := hid (hB1.trans (b2.mono hB1.size))
  have c1 : w2.cell? ⟨w.heap.size, 7, none⟩ = some v1 := (b2.cell (p := ⟨w.heap.size, 7, none⟩) hN).trans (bx.2 7 (by simp))
  have bx2 : Box w2 w.heap.size _ := bx.below b2
  by_cases g0 : k < (szInstrSD t.prog_ : Int)
  · have e0 : szR k (szInstrSD t.prog_) = -1 := by unfold szR; rw [if_pos g0]
    have Hn := hid (show szR k (szThreadD t) = -1 by unfold szR; rw [if_pos]; unfold szInstrSD at g0; unfold szThreadD; omega)
    rw [e0]
    go_wp2
    go_ret
    exact ⟨ret_int Hn.out.symm, B2.out⟩
  · have e0 : szR k (szInstrSD t.prog_) = k - szInstrSD t.prog_ := by unfold szR; rw [if_neg g0]
    rw [e0]
    have p0 : 0 ≤ k - (szInstrSD t.prog_ : Int) := by omega
    have p1 : k - (szInstrSD t.prog_ : Int) ≤ 1048576 := by omega
    have s1 := hid (rdsL.below q1.out b2)
    have s2 := hid (rdsL.below q2.out b2)
    go_wp2_with fail
    refine (szEntryS_o t.open_ v1 _ _ p0 p1 s1.out).mono ?_
    rintro e w3 ⟨rfl, b3⟩
    have B3 := hid (B2.out.trans (b3.mono B2.out.size))
    have c2 : w3.cell? ⟨w.heap.size, 9, none⟩ = some v2 := (b3.cell (p := ⟨w.heap.size, 9, none⟩) bx2.1).trans (bx2.2 9 (by simp))
    by_cases g1 : k - (szInstrSD t.prog_ : Int) < (szEntrySD t.open_ : Int)
    · have e1 : szR (k - szInstrSD t.prog_) (szEntrySD t.open_) = -1 := by unfold szR; rw [if_pos g1]
      have Hn := hid (show szR k (szThreadD t) = -1 by unfold szR; rw [if_pos]; unfold szInstrSD szEntrySD at g1; unfold szThreadD; omega)
      rw [e1]
      go_wp2
      go_ret
      exact ⟨ret_int Hn.out.symm, B3.out⟩
    · have e1 : szR (k - szInstrSD t.prog_) (szEntrySD t.open_) = k - szInstrSD t.prog_ - szEntrySD t.open_ := by unfold szR; rw [if_neg g1]
      rw [e1]
      have p2 : 0 ≤ k - (szInstrSD t.prog_ : Int) - szEntrySD t.open_ := by omega
      have p3 : k - (szInstrSD t.prog_ : Int) - szEntrySD t.open_ ≤ 1048576 := by omega
      have s3 := hid (rdsL.below s2.out b3)
      go_wp2_with fail
      refine (szFrameS_o t.stack_ v2 _ _ p2 p3 s3.out).mono ?_
      rintro e w4 ⟨rfl, b4⟩
      have B4 := hid (B3.out.trans (b4.mono B3.out.size))
      by_cases g2 : k - (szInstrSD t.prog_ : Int) - szEntrySD t.open_ < (szFrameSD t.stack_ : Int)
      · have e2 : szR (k - szInstrSD t.prog_ - szEntrySD t.open_) (szFrameSD t.stack_) = -1 := by unfold szR; rw [if_pos g2]
        have Hn := hid (show szR k (szThreadD t) = -1 by unfold szR; rw [if_pos]; unfold szInstrSD szEntrySD szFrameSD at g2; unfold szThreadD; omega)
        rw [e2]
        go_wp2
        go_ret
        exact ⟨ret_int Hn.out.symm, B4.out⟩
      · have e2 : szR (k - szInstrSD t.prog_ - szEntrySD t.open_) (szFrameSD t.stack_) = k - szInstrSD t.prog_ - szEntrySD t.open_ - szFrameSD t.stack_ := by unfold szR; rw [if_neg g2]
        have Hn := hid (show szR k (szThreadD t) = k - szInstrSD t.prog_ - szEntrySD t.open_ - szFrameSD t.stack_ by unfold szR; rw [if_neg (by unfold szInstrSD szEntrySD szFrameSD at g2; unfold szThreadD; omega)]; unfold szThreadD szInstrSD szEntrySD szFrameSD; omega)
        rw [e2]
        have p4 : ¬ (k - (szInstrSD t.prog_ : Int) - szEntrySD t.open_ - szFrameSD t.stack_ < 0) := by omega
        go_wp2
        go_ret
        exact ⟨ret_int Hn.out.symm, B4.out⟩
theorem eqThread_o (t : ThreadD) (v0 v1 v2 u0 u1 u2 : Value) (w : World) (r0 : rdsL w v0 t.prog_) (r1 : rdsL w v1 t.open_) (r2 : rdsL w v2 t.stack_) (g0 : rdsL w u0 t.prog_) (g1 : rdsL w u1 t.open_) (g2 : rdsL w u2 t.stack_) :
    Calls Tryz.prog 55 #[.agg #[.int .i64 t.id_, v0, .int .i64 t.at_, .int .i64 t.reg0_, .int .i64 t.reg1_, .int .i64 t.reg2_, .int .i64 t.reg3_, v1, .int .i64 t.check_, v2, .int .i64 t.mine_, .int .i64 t.state_, .int .i64 t.commits_, .int .i64 t.fails_], .agg #[.int .i64 t.id_, u0, .int .i64 t.at_, .int .i64 t.reg0_, .int .i64 t.reg1_, .int .i64 t.reg2_, .int .i64 t.reg3_, u1, .int .i64 t.check_, u2, .int .i64 t.mine_, .int .i64 t.state_, .int .i64 t.commits_, .int .i64 t.fails_]] w fun e w' => e = .returned (.bool true) ∧ Below w.heap.size w w' := by
  obtain ⟨W1, hW1⟩ : ∃ X, (w.alloc (.cells #[.int .i64 t.id_, v0, .int .i64 t.at_, .int .i64 t.reg0_, .int .i64 t.reg1_, .int .i64 t.reg2_, .int .i64 t.reg3_, v1, .int .i64 t.check_, v2, .int .i64 t.mine_, .int .i64 t.state_, .int .i64 t.commits_, .int .i64 t.fails_] 82)).alloc (.cells #[.int .i64 t.id_, u0, .int .i64 t.at_, .int .i64 t.reg0_, .int .i64 t.reg1_, .int .i64 t.reg2_, .int .i64 t.reg3_, u1, .int .i64 t.check_, u2, .int .i64 t.mine_, .int .i64 t.state_, .int .i64 t.commits_, .int .i64 t.fails_] 82) = X := ⟨_, rfl⟩
  have hB1 : Below w.heap.size w W1 := by rw [← hW1]; exact ((Below.refl _ _).alloc (Nat.le_refl _) _).alloc (by simp) _
  have bx : Box W1 w.heap.size [.int .i64 t.id_, v0, .int .i64 t.at_, .int .i64 t.reg0_, .int .i64 t.reg1_, .int .i64 t.reg2_, .int .i64 t.reg3_, v1, .int .i64 t.check_, v2, .int .i64 t.mine_, .int .i64 t.state_, .int .i64 t.commits_, .int .i64 t.fails_] := by
    rw [← hW1]; exact (Box.alloc w #[.int .i64 t.id_, v0, .int .i64 t.at_, .int .i64 t.reg0_, .int .i64 t.reg1_, .int .i64 t.reg2_, .int .i64 t.reg3_, v1, .int .i64 t.check_, v2, .int .i64 t.mine_, .int .i64 t.state_, .int .i64 t.commits_, .int .i64 t.fails_] 82).below ((Below.refl _ _).alloc (Nat.le_refl _) _)
  have by1 : Box W1 (w.heap.size + 1) [.int .i64 t.id_, u0, .int .i64 t.at_, .int .i64 t.reg0_, .int .i64 t.reg1_, .int .i64 t.reg2_, .int .i64 t.reg3_, u1, .int .i64 t.check_, u2, .int .i64 t.mine_, .int .i64 t.state_, .int .i64 t.commits_, .int .i64 t.fails_] := by
    rw [← hW1]
    have h9 := Box.alloc (w.alloc (.cells #[.int .i64 t.id_, v0, .int .i64 t.at_, .int .i64 t.reg0_, .int .i64 t.reg1_, .int .i64 t.reg2_, .int .i64 t.reg3_, v1, .int .i64 t.check_, v2, .int .i64 t.mine_, .int .i64 t.state_, .int .i64 t.commits_, .int .i64 t.fails_] 82)) #[.int .i64 t.id_, u0, .int .i64 t.at_, .int .i64 t.reg0_, .int .i64 t.reg1_, .int .i64 t.reg2_, .int .i64 t.reg3_, u1, .int .i64 t.check_, u2, .int .i64 t.mine_, .int .i64 t.state_, .int .i64 t.commits_, .int .i64 t.fails_] 82
    rw [show (w.alloc (.cells #[.int .i64 t.id_, v0, .int .i64 t.at_, .int .i64 t.reg0_, .int .i64 t.reg1_, .int .i64 t.reg2_, .int .i64 t.reg3_, v1, .int .i64 t.check_, v2, .int .i64 t.mine_, .int .i64 t.state_, .int .i64 t.commits_, .int .i64 t.fails_] 82)).heap.size = w.heap.size + 1 by simp] at h9
    exact h9
  have q0 := hid (rdsL.below r0 hB1)
  have q1 := hid (rdsL.below r1 hB1)
  have q2 := hid (rdsL.below r2 hB1)
  have p0 := hid (rdsL.below g0 hB1)
  have p1 := hid (rdsL.below g1 hB1)
  have p2 := hid (rdsL.below g2 hB1)
  have HW1 := hid hW1
  clear hW1 r0 r1 r2 g0 g1 g2
  go_enter Tryz.func55, Tryz.ntmps55
  go_wp2_with fail
  rw [HW1.out]
  refine (eqInstrS_o t.prog_ v0 u0 _ q0.out p0.out).mono ?_
  rintro e w2 ⟨rfl, b2⟩
  have B2 := hid (hB1.trans (b2.mono hB1.size))
  have bx_2 := bx.below b2
  have by_2 := by1.below b2
  have x2 : w2.cell? ⟨w.heap.size, 2, none⟩ = some (.int .i64 t.at_) := bx_2.2 2 (by simp)
  have y2 : w2.cell? ⟨w.heap.size + 1, 2, none⟩ = some (.int .i64 t.at_) := by_2.2 2 (by simp)
  have x3 : w2.cell? ⟨w.heap.size, 3, none⟩ = some (.int .i64 t.reg0_) := bx_2.2 3 (by simp)
  have y3 : w2.cell? ⟨w.heap.size + 1, 3, none⟩ = some (.int .i64 t.reg0_) := by_2.2 3 (by simp)
  have x4 : w2.cell? ⟨w.heap.size, 4, none⟩ = some (.int .i64 t.reg1_) := bx_2.2 4 (by simp)
  have y4 : w2.cell? ⟨w.heap.size + 1, 4, none⟩ = some (.int .i64 t.reg1_) := by_2.2 4 (by simp)
  have x5 : w2.cell? ⟨w.heap.size, 5, none⟩ = some (.int .i64 t.reg2_) := bx_2.2 5 (by simp)
  have y5 : w2.cell? ⟨w.heap.size + 1, 5, none⟩ = some (.int .i64 t.reg2_) := by_2.2 5 (by simp)
  have x6 : w2.cell? ⟨w.heap.size, 6, none⟩ = some (.int .i64 t.reg3_) := bx_2.2 6 (by simp)
  have y6 : w2.cell? ⟨w.heap.size + 1, 6, none⟩ = some (.int .i64 t.reg3_) := by_2.2 6 (by simp)
  go_wp2_with fail
  refine (eqIntA4_c _ _ _ _ _).mono ?_
  rintro e w3 ⟨rfl, b3⟩
  have B3 := hid (B2.out.trans (b3.mono B2.out.size))
  have s1 := hid (rdsL.below q1.out (b2.trans (b3.mono b2.size)))
  have s2 := hid (rdsL.below q2.out (b2.trans (b3.mono b2.size)))
  have t1 := hid (rdsL.below p1.out (b2.trans (b3.mono b2.size)))
  have t2 := hid (rdsL.below p2.out (b2.trans (b3.mono b2.size)))
  have bx_3 := bx_2.below b3
  have by_3 := by_2.below b3
  have x7 : w3.cell? ⟨w.heap.size, 7, none⟩ = some (v1) := bx_3.2 7 (by simp)
  have y7 : w3.cell? ⟨w.heap.size + 1, 7, none⟩ = some (u1) := by_3.2 7 (by simp)
  go_wp2_with fail
  refine (eqEntryS_o t.open_ v1 u1 _ s1.out t1.out).mono ?_
  rintro e w4 ⟨rfl, b4⟩
  have B4 := hid (B3.out.trans (b4.mono B3.out.size))
  have s3 := hid (rdsL.below s2.out b4)
  have t3 := hid (rdsL.below t2.out b4)
  have bx_4 := bx_3.below b4
  have by_4 := by_3.below b4
  have x8 : w4.cell? ⟨w.heap.size, 8, none⟩ = some (.int .i64 t.check_) := bx_4.2 8 (by simp)
  have y8 : w4.cell? ⟨w.heap.size + 1, 8, none⟩ = some (.int .i64 t.check_) := by_4.2 8 (by simp)
  have x9 : w4.cell? ⟨w.heap.size, 9, none⟩ = some (v2) := bx_4.2 9 (by simp)
  have y9 : w4.cell? ⟨w.heap.size + 1, 9, none⟩ = some (u2) := by_4.2 9 (by simp)
  go_wp2_with fail
  refine (eqFrameS_o t.stack_ v2 u2 _ s3.out t3.out).mono ?_
  rintro e w5 ⟨rfl, b5⟩
  have B5 := hid (B4.out.trans (b5.mono B4.out.size))
  have bx_5 := bx_4.below b5
  have by_5 := by_4.below b5
  have x10 : w5.cell? ⟨w.heap.size, 10, none⟩ = some (.int .i64 t.mine_) := bx_5.2 10 (by simp)
  have y10 : w5.cell? ⟨w.heap.size + 1, 10, none⟩ = some (.int .i64 t.mine_) := by_5.2 10 (by simp)
  have x11 : w5.cell? ⟨w.heap.size, 11, none⟩ = some (.int .i64 t.state_) := bx_5.2 11 (by simp)
  have y11 : w5.cell? ⟨w.heap.size + 1, 11, none⟩ = some (.int .i64 t.state_) := by_5.2 11 (by simp)
  have x12 : w5.cell? ⟨w.heap.size, 12, none⟩ = some (.int .i64 t.commits_) := bx_5.2 12 (by simp)
  have y12 : w5.cell? ⟨w.heap.size + 1, 12, none⟩ = some (.int .i64 t.commits_) := by_5.2 12 (by simp)
  have x13 : w5.cell? ⟨w.heap.size, 13, none⟩ = some (.int .i64 t.fails_) := bx_5.2 13 (by simp)
  have y13 : w5.cell? ⟨w.heap.size + 1, 13, none⟩ = some (.int .i64 t.fails_) := by_5.2 13 (by simp)
  go_wp2
  go_ret
  exact ⟨rfl, B5.out⟩
set_option maxHeartbeats 8000000 in
theorem toThread_o (t : ThreadD) (v0 v1 v2 : Value) (w : World) (r0 : rdsL w v0 t.prog_) (r1 : rdsL w v1 t.open_) (r2 : rdsL w v2 t.stack_) (hb : ThreadB t) :
    Calls Tryz.prog 44 #[.agg #[.int .i64 t.id_, v0, .int .i64 t.at_, .int .i64 t.reg0_, .int .i64 t.reg1_, .int .i64 t.reg2_, .int .i64 t.reg3_, v1, .int .i64 t.check_, v2, .int .i64 t.mine_, .int .i64 t.state_, .int .i64 t.commits_, .int .i64 t.fails_]] w fun e w' => ∃ u0 u1 u2 : Value, ∃ S0 S1 S2 : Nat → Prop, e = .returned (.agg #[.int .i64 t.id_, u0, .int .i64 t.at_, .int .i64 t.reg0_, .int .i64 t.reg1_, .int .i64 t.reg2_, .int .i64 t.reg3_, u1, .int .i64 t.check_, u2, .int .i64 t.mine_, .int .i64 t.state_, .int .i64 t.commits_, .int .i64 t.fails_]) ∧ ownL S0 w' u0 t.prog_ ∧ ownL S1 w' u1 t.open_ ∧ ownL S2 w' u2 t.stack_ ∧ (∀ k, S0 k → Rg w.heap.size w'.heap.size k) ∧ (∀ k, S1 k → Rg w.heap.size w'.heap.size k) ∧ (∀ k, S2 k → Rg w.heap.size w'.heap.size k) ∧ (∀ k, S0 k → ¬ S1 k) ∧ (∀ k, S0 k → ¬ S2 k) ∧ (∀ k, S1 k → ¬ S2 k) ∧ Below w.heap.size w w' := by
  obtain ⟨hb0, hb1, hb2⟩ := threadB_parts hb
  obtain ⟨W1, hW1⟩ : ∃ X, ((w.alloc (.cells #[.int .i64 t.id_, v0, .int .i64 t.at_, .int .i64 t.reg0_, .int .i64 t.reg1_, .int .i64 t.reg2_, .int .i64 t.reg3_, v1, .int .i64 t.check_, v2, .int .i64 t.mine_, .int .i64 t.state_, .int .i64 t.commits_, .int .i64 t.fails_] 74)).alloc (.cells #[.int .i64 0, Value.slice none 0 0, .int .i64 0, .int .i64 0, .int .i64 0, .int .i64 0, .int .i64 0, Value.slice none 0 0, .int .i64 0, Value.slice none 0 0, .int .i64 0, .int .i64 0, .int .i64 0, .int .i64 0] 82)).alloc (.cells #[.int .i64 t.id_, Value.slice none 0 0, .int .i64 0, .int .i64 0, .int .i64 0, .int .i64 0, .int .i64 0, Value.slice none 0 0, .int .i64 0, Value.slice none 0 0, .int .i64 0, .int .i64 0, .int .i64 0, .int .i64 0] 82) = X := ⟨_, rfl⟩
  have hB1 : Below w.heap.size w W1 := by rw [← hW1]; exact (((Below.refl _ _).alloc (Nat.le_refl _) _).alloc (by simp) _).alloc (by simp; omega) _
  have hN : W1.heap.size = w.heap.size + 3 := by rw [← hW1]; simp
  have bx1 : Box W1 w.heap.size [.int .i64 t.id_, v0, .int .i64 t.at_, .int .i64 t.reg0_, .int .i64 t.reg1_, .int .i64 t.reg2_, .int .i64 t.reg3_, v1, .int .i64 t.check_, v2, .int .i64 t.mine_, .int .i64 t.state_, .int .i64 t.commits_, .int .i64 t.fails_] := by
    rw [← hW1]; exact ((Box.alloc w #[.int .i64 t.id_, v0, .int .i64 t.at_, .int .i64 t.reg0_, .int .i64 t.reg1_, .int .i64 t.reg2_, .int .i64 t.reg3_, v1, .int .i64 t.check_, v2, .int .i64 t.mine_, .int .i64 t.state_, .int .i64 t.commits_, .int .i64 t.fails_] 74).below ((Below.refl _ _).alloc (Nat.le_refl _) _)).below ((Below.refl _ _).alloc (Nat.le_refl _) _)
  have br1 : BoxF W1 (w.heap.size + 1) [.int .i64 0, Value.slice none 0 0, .int .i64 0, .int .i64 0, .int .i64 0, .int .i64 0, .int .i64 0, Value.slice none 0 0, .int .i64 0, Value.slice none 0 0, .int .i64 0, .int .i64 0, .int .i64 0, .int .i64 0] := by
    rw [← hW1]
    have h1 := BoxF.alloc (w.alloc (.cells #[.int .i64 t.id_, v0, .int .i64 t.at_, .int .i64 t.reg0_, .int .i64 t.reg1_, .int .i64 t.reg2_, .int .i64 t.reg3_, v1, .int .i64 t.check_, v2, .int .i64 t.mine_, .int .i64 t.state_, .int .i64 t.commits_, .int .i64 t.fails_] 74)) #[.int .i64 0, Value.slice none 0 0, .int .i64 0, .int .i64 0, .int .i64 0, .int .i64 0, .int .i64 0, Value.slice none 0 0, .int .i64 0, Value.slice none 0 0, .int .i64 0, .int .i64 0, .int .i64 0, .int .i64 0] 82
    rw [show (w.alloc (.cells #[.int .i64 t.id_, v0, .int .i64 t.at_, .int .i64 t.reg0_, .int .i64 t.reg1_, .int .i64 t.reg2_, .int .i64 t.reg3_, v1, .int .i64 t.check_, v2, .int .i64 t.mine_, .int .i64 t.state_, .int .i64 t.commits_, .int .i64 t.fails_] 74)).heap.size = w.heap.size + 1 by simp] at h1
    exact h1.below ((Below.refl _ _).alloc (Nat.le_refl _) _)
  have bo1 : BoxF W1 (w.heap.size + 1 + 1) [.int .i64 t.id_, Value.slice none 0 0, .int .i64 0, .int .i64 0, .int .i64 0, .int .i64 0, .int .i64 0, Value.slice none 0 0, .int .i64 0, Value.slice none 0 0, .int .i64 0, .int .i64 0, .int .i64 0, .int .i64 0] := by
    rw [← hW1]
    have h1 := BoxF.alloc ((w.alloc (.cells #[.int .i64 t.id_, v0, .int .i64 t.at_, .int .i64 t.reg0_, .int .i64 t.reg1_, .int .i64 t.reg2_, .int .i64 t.reg3_, v1, .int .i64 t.check_, v2, .int .i64 t.mine_, .int .i64 t.state_, .int .i64 t.commits_, .int .i64 t.fails_] 74)).alloc (.cells #[.int .i64 0, Value.slice none 0 0, .int .i64 0, .int .i64 0, .int .i64 0, .int .i64 0, .int .i64 0, Value.slice none 0 0, .int .i64 0, Value.slice none 0 0, .int .i64 0, .int .i64 0, .int .i64 0, .int .i64 0] 82)) #[.int .i64 t.id_, Value.slice none 0 0, .int .i64 0, .int .i64 0, .int .i64 0, .int .i64 0, .int .i64 0, Value.slice none 0 0, .int .i64 0, Value.slice none 0 0, .int .i64 0, .int .i64 0, .int .i64 0, .int .i64 0] 82
    rw [show ((w.alloc (.cells #[.int .i64 t.id_, v0, .int .i64 t.at_, .int .i64 t.reg0_, .int .i64 t.reg1_, .int .i64 t.reg2_, .int .i64 t.reg3_, v1, .int .i64 t.check_, v2, .int .i64 t.mine_, .int .i64 t.state_, .int .i64 t.commits_, .int .i64 t.fails_] 74)).alloc (.cells #[.int .i64 0, Value.slice none 0 0, .int .i64 0, .int .i64 0, .int .i64 0, .int .i64 0, .int .i64 0, Value.slice none 0 0, .int .i64 0, Value.slice none 0 0, .int .i64 0, .int .i64 0, .int .i64 0, .int .i64 0] 82)).heap.size = w.heap.size + 1 + 1 by simp] at h1
    exact h1
  have q0 := hid (rdsL.below r0 hB1)
  have R1 := hid r1
  have R2 := hid r2
  have HW1 := hid hW1
  clear hW1 r0 r1 r2
  go_enter Tryz.func44, Tryz.ntmps44
  go_wp2_with fail
  rw [HW1.out]
  refine (toInstrS_o t.prog_ v0 _ q0.out hb0).mono ?_
  rintro e w2 ⟨u0, S0, rfl, m0, g0, b2⟩
  obtain ⟨ua, uc, rfl, -, -⟩ := ownL_len m0
  have B2 := hB1.trans (b2.mono hB1.size)
  have C2 := ChgS.refl (fun b => b = w.heap.size + 1 + 1) w2
  have hs2 := b2.size
  have bx2 := bx1.below b2
  have br2 := br1.below b2
  have bo2 := bo1.below b2
  have o2_1 : w2.cell? ⟨w.heap.size + 1 + 1, 1, none⟩ = some (Value.slice none 0 0) := bo2.1.2 1 (by simp)
  have f2_1 : w2.frozen? ⟨w.heap.size + 1 + 1, 1, none⟩ = false := bo2.2 1 (by simp)
  obtain ⟨w3, hw3⟩ : ∃ X, w2.setCell ⟨w.heap.size + 1 + 1, 1, none⟩ (Value.slice ua t.prog_.length uc) = X := ⟨_, rfl⟩
  have bx3 := bx2.chg ((ChgS.refl (fun b => b = w.heap.size + 1 + 1) w2).set ⟨w.heap.size + 1 + 1, 1, none⟩ (Value.slice ua t.prog_.length uc) rfl) (by show ¬ (w.heap.size = w.heap.size + 1 + 1); omega)
  rw [hw3] at bx3
  have br3 := br2.other ⟨w.heap.size + 1 + 1, 1, none⟩ (Value.slice ua t.prog_.length uc) (by simp)
  rw [hw3] at br3
  have bo3 : BoxF w3 (w.heap.size + 1 + 1) [.int .i64 t.id_, Value.slice ua t.prog_.length uc, .int .i64 0, .int .i64 0, .int .i64 0, .int .i64 0, .int .i64 0, Value.slice none 0 0, .int .i64 0, Value.slice none 0 0, .int .i64 0, .int .i64 0, .int .i64 0, .int .i64 0] := by rw [← hw3]; exact bo2.set 1 (by simp) _
  have B3 : Below w.heap.size w w3 := by rw [← hw3]; exact B2.setCell (p := ⟨w.heap.size + 1 + 1, 1, none⟩) (by show w.heap.size ≤ w.heap.size + 1 + 1; omega) _
  have C3 := C2.set ⟨w.heap.size + 1 + 1, 1, none⟩ (Value.slice ua t.prog_.length uc) rfl
  rw [hw3] at C3
  have hs3 : w3.heap.size = w2.heap.size := by rw [← hw3]; simp [World.setCell]
  have x3_2 : w3.cell? ⟨w.heap.size, 2, none⟩ = some (.int .i64 t.at_) := bx3.2 2 (by simp)
  have o3_2 : w3.cell? ⟨w.heap.size + 1 + 1, 2, none⟩ = some (.int .i64 0) := bo3.1.2 2 (by simp)
  have f3_2 : w3.frozen? ⟨w.heap.size + 1 + 1, 2, none⟩ = false := bo3.2 2 (by simp)
  obtain ⟨w4, hw4⟩ : ∃ X, w3.setCell ⟨w.heap.size + 1 + 1, 2, none⟩ (.int .i64 t.at_) = X := ⟨_, rfl⟩
  have bx4 := bx3.chg ((ChgS.refl (fun b => b = w.heap.size + 1 + 1) w3).set ⟨w.heap.size + 1 + 1, 2, none⟩ (.int .i64 t.at_) rfl) (by show ¬ (w.heap.size = w.heap.size + 1 + 1); omega)
  rw [hw4] at bx4
  have br4 := br3.other ⟨w.heap.size + 1 + 1, 2, none⟩ (.int .i64 t.at_) (by simp)
  rw [hw4] at br4
  have bo4 : BoxF w4 (w.heap.size + 1 + 1) [.int .i64 t.id_, Value.slice ua t.prog_.length uc, .int .i64 t.at_, .int .i64 0, .int .i64 0, .int .i64 0, .int .i64 0, Value.slice none 0 0, .int .i64 0, Value.slice none 0 0, .int .i64 0, .int .i64 0, .int .i64 0, .int .i64 0] := by rw [← hw4]; exact bo3.set 2 (by simp) _
  have B4 : Below w.heap.size w w4 := by rw [← hw4]; exact B3.setCell (p := ⟨w.heap.size + 1 + 1, 2, none⟩) (by show w.heap.size ≤ w.heap.size + 1 + 1; omega) _
  have C4 := C3.set ⟨w.heap.size + 1 + 1, 2, none⟩ (.int .i64 t.at_) rfl
  rw [hw4] at C4
  have hs4 : w4.heap.size = w3.heap.size := by rw [← hw4]; simp [World.setCell]
  have x4_3 : w4.cell? ⟨w.heap.size, 3, none⟩ = some (.int .i64 t.reg0_) := bx4.2 3 (by simp)
  have x4_4 : w4.cell? ⟨w.heap.size, 4, none⟩ = some (.int .i64 t.reg1_) := bx4.2 4 (by simp)
  have x4_5 : w4.cell? ⟨w.heap.size, 5, none⟩ = some (.int .i64 t.reg2_) := bx4.2 5 (by simp)
  have x4_6 : w4.cell? ⟨w.heap.size, 6, none⟩ = some (.int .i64 t.reg3_) := bx4.2 6 (by simp)
  go_wp2_with fail
  clear hw3 hw4
  refine (toIntA4_c _ _ _ _ _).mono ?_
  rintro e w5 ⟨rfl, b5⟩
  have bx5 := bx4.below b5
  have br5 := br4.below b5
  have bo5 := bo4.below b5
  have B5 := B4.trans (b5.mono B4.size)
  have C5 := C4.trans (ChgS.of_below b5 _)
  have hs5 := b5.size
  have o5_3 : w5.cell? ⟨w.heap.size + 1 + 1, 3, none⟩ = some (.int .i64 0) := bo5.1.2 3 (by simp)
  have f5_3 : w5.frozen? ⟨w.heap.size + 1 + 1, 3, none⟩ = false := bo5.2 3 (by simp)
  obtain ⟨w6, hw6⟩ : ∃ X, w5.setCell ⟨w.heap.size + 1 + 1, 3, none⟩ (.int .i64 t.reg0_) = X := ⟨_, rfl⟩
  have bx6 := bx5.chg ((ChgS.refl (fun b => b = w.heap.size + 1 + 1) w5).set ⟨w.heap.size + 1 + 1, 3, none⟩ (.int .i64 t.reg0_) rfl) (by show ¬ (w.heap.size = w.heap.size + 1 + 1); omega)
  rw [hw6] at bx6
  have br6 := br5.other ⟨w.heap.size + 1 + 1, 3, none⟩ (.int .i64 t.reg0_) (by simp)
  rw [hw6] at br6
  have bo6 : BoxF w6 (w.heap.size + 1 + 1) [.int .i64 t.id_, Value.slice ua t.prog_.length uc, .int .i64 t.at_, .int .i64 t.reg0_, .int .i64 0, .int .i64 0, .int .i64 0, Value.slice none 0 0, .int .i64 0, Value.slice none 0 0, .int .i64 0, .int .i64 0, .int .i64 0, .int .i64 0] := by rw [← hw6]; exact bo5.set 3 (by simp) _
  have B6 : Below w.heap.size w w6 := by rw [← hw6]; exact B5.setCell (p := ⟨w.heap.size + 1 + 1, 3, none⟩) (by show w.heap.size ≤ w.heap.size + 1 + 1; omega) _
  have C6 := C5.set ⟨w.heap.size + 1 + 1, 3, none⟩ (.int .i64 t.reg0_) rfl
  rw [hw6] at C6
  have hs6 : w6.heap.size = w5.heap.size := by rw [← hw6]; simp [World.setCell]
  have o6_4 : w6.cell? ⟨w.heap.size + 1 + 1, 4, none⟩ = some (.int .i64 0) := bo6.1.2 4 (by simp)
  have f6_4 : w6.frozen? ⟨w.heap.size + 1 + 1, 4, none⟩ = false := bo6.2 4 (by simp)
  obtain ⟨w7, hw7⟩ : ∃ X, w6.setCell ⟨w.heap.size + 1 + 1, 4, none⟩ (.int .i64 t.reg1_) = X := ⟨_, rfl⟩
  have bx7 := bx6.chg ((ChgS.refl (fun b => b = w.heap.size + 1 + 1) w6).set ⟨w.heap.size + 1 + 1, 4, none⟩ (.int .i64 t.reg1_) rfl) (by show ¬ (w.heap.size = w.heap.size + 1 + 1); omega)
  rw [hw7] at bx7
  have br7 := br6.other ⟨w.heap.size + 1 + 1, 4, none⟩ (.int .i64 t.reg1_) (by simp)
  rw [hw7] at br7
  have bo7 : BoxF w7 (w.heap.size + 1 + 1) [.int .i64 t.id_, Value.slice ua t.prog_.length uc, .int .i64 t.at_, .int .i64 t.reg0_, .int .i64 t.reg1_, .int .i64 0, .int .i64 0, Value.slice none 0 0, .int .i64 0, Value.slice none 0 0, .int .i64 0, .int .i64 0, .int .i64 0, .int .i64 0] := by rw [← hw7]; exact bo6.set 4 (by simp) _
  have B7 : Below w.heap.size w w7 := by rw [← hw7]; exact B6.setCell (p := ⟨w.heap.size + 1 + 1, 4, none⟩) (by show w.heap.size ≤ w.heap.size + 1 + 1; omega) _
  have C7 := C6.set ⟨w.heap.size + 1 + 1, 4, none⟩ (.int .i64 t.reg1_) rfl
  rw [hw7] at C7
  have hs7 : w7.heap.size = w6.heap.size := by rw [← hw7]; simp [World.setCell]
  have o7_5 : w7.cell? ⟨w.heap.size + 1 + 1, 5, none⟩ = some (.int .i64 0) := bo7.1.2 5 (by simp)
  have f7_5 : w7.frozen? ⟨w.heap.size + 1 + 1, 5, none⟩ = false := bo7.2 5 (by simp)
  obtain ⟨w8, hw8⟩ : ∃ X, w7.setCell ⟨w.heap.size + 1 + 1, 5, none⟩ (.int .i64 t.reg2_) = X := ⟨_, rfl⟩
  have bx8 := bx7.chg ((ChgS.refl (fun b => b = w.heap.size + 1 + 1) w7).set ⟨w.heap.size + 1 + 1, 5, none⟩ (.int .i64 t.reg2_) rfl) (by show ¬ (w.heap.size = w.heap.size + 1 + 1); omega)
  rw [hw8] at bx8
  have br8 := br7.other ⟨w.heap.size + 1 + 1, 5, none⟩ (.int .i64 t.reg2_) (by simp)
  rw [hw8] at br8
  have bo8 : BoxF w8 (w.heap.size + 1 + 1) [.int .i64 t.id_, Value.slice ua t.prog_.length uc, .int .i64 t.at_, .int .i64 t.reg0_, .int .i64 t.reg1_, .int .i64 t.reg2_, .int .i64 0, Value.slice none 0 0, .int .i64 0, Value.slice none 0 0, .int .i64 0, .int .i64 0, .int .i64 0, .int .i64 0] := by rw [← hw8]; exact bo7.set 5 (by simp) _
  have B8 : Below w.heap.size w w8 := by rw [← hw8]; exact B7.setCell (p := ⟨w.heap.size + 1 + 1, 5, none⟩) (by show w.heap.size ≤ w.heap.size + 1 + 1; omega) _
  have C8 := C7.set ⟨w.heap.size + 1 + 1, 5, none⟩ (.int .i64 t.reg2_) rfl
  rw [hw8] at C8
  have hs8 : w8.heap.size = w7.heap.size := by rw [← hw8]; simp [World.setCell]
  have o8_6 : w8.cell? ⟨w.heap.size + 1 + 1, 6, none⟩ = some (.int .i64 0) := bo8.1.2 6 (by simp)
  have f8_6 : w8.frozen? ⟨w.heap.size + 1 + 1, 6, none⟩ = false := bo8.2 6 (by simp)
  obtain ⟨w9, hw9⟩ : ∃ X, w8.setCell ⟨w.heap.size + 1 + 1, 6, none⟩ (.int .i64 t.reg3_) = X := ⟨_, rfl⟩
  have bx9 := bx8.chg ((ChgS.refl (fun b => b = w.heap.size + 1 + 1) w8).set ⟨w.heap.size + 1 + 1, 6, none⟩ (.int .i64 t.reg3_) rfl) (by show ¬ (w.heap.size = w.heap.size + 1 + 1); omega)
  rw [hw9] at bx9
  have br9 := br8.other ⟨w.heap.size + 1 + 1, 6, none⟩ (.int .i64 t.reg3_) (by simp)
  rw [hw9] at br9
  have bo9 : BoxF w9 (w.heap.size + 1 + 1) [.int .i64 t.id_, Value.slice ua t.prog_.length uc, .int .i64 t.at_, .int .i64 t.reg0_, .int .i64 t.reg1_, .int .i64 t.reg2_, .int .i64 t.reg3_, Value.slice none 0 0, .int .i64 0, Value.slice none 0 0, .int .i64 0, .int .i64 0, .int .i64 0, .int .i64 0] := by rw [← hw9]; exact bo8.set 6 (by simp) _
  have B9 : Below w.heap.size w w9 := by rw [← hw9]; exact B8.setCell (p := ⟨w.heap.size + 1 + 1, 6, none⟩) (by show w.heap.size ≤ w.heap.size + 1 + 1; omega) _
  have C9 := C8.set ⟨w.heap.size + 1 + 1, 6, none⟩ (.int .i64 t.reg3_) rfl
  rw [hw9] at C9
  have hs9 : w9.heap.size = w8.heap.size := by rw [← hw9]; simp [World.setCell]
  have x9_7 : w9.cell? ⟨w.heap.size, 7, none⟩ = some (v1) := bx9.2 7 (by simp)
  have s1 := hid (rdsL.below R1.out B9)
  go_wp2_with fail
  clear hw6 hw7 hw8 hw9
  refine (toEntryS_o t.open_ v1 _ s1.out hb1).mono ?_
  rintro e w10 ⟨u1, S1, rfl, m1, g1, b10⟩
  have bx10 := bx9.below b10
  have br10 := br9.below b10
  have bo10 := bo9.below b10
  have B10 := B9.trans (b10.mono B9.size)
  have C10 := C9.trans (ChgS.of_below b10 _)
  have hs10 := b10.size
  obtain ⟨va, vc, rfl, -, -⟩ := ownL_len m1
  have D10 := ChgS.refl (fun b => b = w.heap.size + 1 + 1) w10
  have o10_7 : w10.cell? ⟨w.heap.size + 1 + 1, 7, none⟩ = some (Value.slice none 0 0) := bo10.1.2 7 (by simp)
  have f10_7 : w10.frozen? ⟨w.heap.size + 1 + 1, 7, none⟩ = false := bo10.2 7 (by simp)
  obtain ⟨w11, hw11⟩ : ∃ X, w10.setCell ⟨w.heap.size + 1 + 1, 7, none⟩ (Value.slice va t.open_.length vc) = X := ⟨_, rfl⟩
  have bx11 := bx10.chg ((ChgS.refl (fun b => b = w.heap.size + 1 + 1) w10).set ⟨w.heap.size + 1 + 1, 7, none⟩ (Value.slice va t.open_.length vc) rfl) (by show ¬ (w.heap.size = w.heap.size + 1 + 1); omega)
  rw [hw11] at bx11
  have br11 := br10.other ⟨w.heap.size + 1 + 1, 7, none⟩ (Value.slice va t.open_.length vc) (by simp)
  rw [hw11] at br11
  have bo11 : BoxF w11 (w.heap.size + 1 + 1) [.int .i64 t.id_, Value.slice ua t.prog_.length uc, .int .i64 t.at_, .int .i64 t.reg0_, .int .i64 t.reg1_, .int .i64 t.reg2_, .int .i64 t.reg3_, Value.slice va t.open_.length vc, .int .i64 0, Value.slice none 0 0, .int .i64 0, .int .i64 0, .int .i64 0, .int .i64 0] := by rw [← hw11]; exact bo10.set 7 (by simp) _
  have B11 : Below w.heap.size w w11 := by rw [← hw11]; exact B10.setCell (p := ⟨w.heap.size + 1 + 1, 7, none⟩) (by show w.heap.size ≤ w.heap.size + 1 + 1; omega) _
  have C11 := C10.set ⟨w.heap.size + 1 + 1, 7, none⟩ (Value.slice va t.open_.length vc) rfl
  rw [hw11] at C11
  have D11 := D10.set ⟨w.heap.size + 1 + 1, 7, none⟩ (Value.slice va t.open_.length vc) rfl
  rw [hw11] at D11
  have hs11 : w11.heap.size = w10.heap.size := by rw [← hw11]; simp [World.setCell]
  have x11_8 : w11.cell? ⟨w.heap.size, 8, none⟩ = some (.int .i64 t.check_) := bx11.2 8 (by simp)
  have o11_8 : w11.cell? ⟨w.heap.size + 1 + 1, 8, none⟩ = some (.int .i64 0) := bo11.1.2 8 (by simp)
  have f11_8 : w11.frozen? ⟨w.heap.size + 1 + 1, 8, none⟩ = false := bo11.2 8 (by simp)
  obtain ⟨w12, hw12⟩ : ∃ X, w11.setCell ⟨w.heap.size + 1 + 1, 8, none⟩ (.int .i64 t.check_) = X := ⟨_, rfl⟩
  have bx12 := bx11.chg ((ChgS.refl (fun b => b = w.heap.size + 1 + 1) w11).set ⟨w.heap.size + 1 + 1, 8, none⟩ (.int .i64 t.check_) rfl) (by show ¬ (w.heap.size = w.heap.size + 1 + 1); omega)
  rw [hw12] at bx12
  have br12 := br11.other ⟨w.heap.size + 1 + 1, 8, none⟩ (.int .i64 t.check_) (by simp)
  rw [hw12] at br12
  have bo12 : BoxF w12 (w.heap.size + 1 + 1) [.int .i64 t.id_, Value.slice ua t.prog_.length uc, .int .i64 t.at_, .int .i64 t.reg0_, .int .i64 t.reg1_, .int .i64 t.reg2_, .int .i64 t.reg3_, Value.slice va t.open_.length vc, .int .i64 t.check_, Value.slice none 0 0, .int .i64 0, .int .i64 0, .int .i64 0, .int .i64 0] := by rw [← hw12]; exact bo11.set 8 (by simp) _
  have B12 : Below w.heap.size w w12 := by rw [← hw12]; exact B11.setCell (p := ⟨w.heap.size + 1 + 1, 8, none⟩) (by show w.heap.size ≤ w.heap.size + 1 + 1; omega) _
  have C12 := C11.set ⟨w.heap.size + 1 + 1, 8, none⟩ (.int .i64 t.check_) rfl
  rw [hw12] at C12
  have D12 := D11.set ⟨w.heap.size + 1 + 1, 8, none⟩ (.int .i64 t.check_) rfl
  rw [hw12] at D12
  have hs12 : w12.heap.size = w11.heap.size := by rw [← hw12]; simp [World.setCell]
  have x12_9 : w12.cell? ⟨w.heap.size, 9, none⟩ = some (v2) := bx12.2 9 (by simp)
  have s2 := hid (rdsL.below R2.out B12)
  go_wp2_with fail
  clear hw11 hw12
  refine (toFrameS_o t.stack_ v2 _ s2.out hb2).mono ?_
  rintro e w13 ⟨u2, S2, rfl, m2, g2, b13⟩
  have bx13 := bx12.below b13
  have br13 := br12.below b13
  have bo13 := bo12.below b13
  have B13 := B12.trans (b13.mono B12.size)
  have C13 := C12.trans (ChgS.of_below b13 _)
  have D13 := D12.trans (ChgS.of_below b13 _)
  have hs13 := b13.size
  obtain ⟨xa, xc, rfl, -, -⟩ := ownL_len m2
  have F13 := ChgS.refl (fun b => b = w.heap.size + 1 + 1) w13
  have o13_9 : w13.cell? ⟨w.heap.size + 1 + 1, 9, none⟩ = some (Value.slice none 0 0) := bo13.1.2 9 (by simp)
  have f13_9 : w13.frozen? ⟨w.heap.size + 1 + 1, 9, none⟩ = false := bo13.2 9 (by simp)
  obtain ⟨w14, hw14⟩ : ∃ X, w13.setCell ⟨w.heap.size + 1 + 1, 9, none⟩ (Value.slice xa t.stack_.length xc) = X := ⟨_, rfl⟩
  have bx14 := bx13.chg ((ChgS.refl (fun b => b = w.heap.size + 1 + 1) w13).set ⟨w.heap.size + 1 + 1, 9, none⟩ (Value.slice xa t.stack_.length xc) rfl) (by show ¬ (w.heap.size = w.heap.size + 1 + 1); omega)
  rw [hw14] at bx14
  have br14 := br13.other ⟨w.heap.size + 1 + 1, 9, none⟩ (Value.slice xa t.stack_.length xc) (by simp)
  rw [hw14] at br14
  have bo14 : BoxF w14 (w.heap.size + 1 + 1) [.int .i64 t.id_, Value.slice ua t.prog_.length uc, .int .i64 t.at_, .int .i64 t.reg0_, .int .i64 t.reg1_, .int .i64 t.reg2_, .int .i64 t.reg3_, Value.slice va t.open_.length vc, .int .i64 t.check_, Value.slice xa t.stack_.length xc, .int .i64 0, .int .i64 0, .int .i64 0, .int .i64 0] := by rw [← hw14]; exact bo13.set 9 (by simp) _
  have B14 : Below w.heap.size w w14 := by rw [← hw14]; exact B13.setCell (p := ⟨w.heap.size + 1 + 1, 9, none⟩) (by show w.heap.size ≤ w.heap.size + 1 + 1; omega) _
  have C14 := C13.set ⟨w.heap.size + 1 + 1, 9, none⟩ (Value.slice xa t.stack_.length xc) rfl
  rw [hw14] at C14
  have D14 := D13.set ⟨w.heap.size + 1 + 1, 9, none⟩ (Value.slice xa t.stack_.length xc) rfl
  rw [hw14] at D14
  have F14 := F13.set ⟨w.heap.size + 1 + 1, 9, none⟩ (Value.slice xa t.stack_.length xc) rfl
  rw [hw14] at F14
  have hs14 : w14.heap.size = w13.heap.size := by rw [← hw14]; simp [World.setCell]
  have x14_10 : w14.cell? ⟨w.heap.size, 10, none⟩ = some (.int .i64 t.mine_) := bx14.2 10 (by simp)
  have o14_10 : w14.cell? ⟨w.heap.size + 1 + 1, 10, none⟩ = some (.int .i64 0) := bo14.1.2 10 (by simp)
  have f14_10 : w14.frozen? ⟨w.heap.size + 1 + 1, 10, none⟩ = false := bo14.2 10 (by simp)
  obtain ⟨w15, hw15⟩ : ∃ X, w14.setCell ⟨w.heap.size + 1 + 1, 10, none⟩ (.int .i64 t.mine_) = X := ⟨_, rfl⟩
  have bx15 := bx14.chg ((ChgS.refl (fun b => b = w.heap.size + 1 + 1) w14).set ⟨w.heap.size + 1 + 1, 10, none⟩ (.int .i64 t.mine_) rfl) (by show ¬ (w.heap.size = w.heap.size + 1 + 1); omega)
  rw [hw15] at bx15
  have br15 := br14.other ⟨w.heap.size + 1 + 1, 10, none⟩ (.int .i64 t.mine_) (by simp)
  rw [hw15] at br15
  have bo15 : BoxF w15 (w.heap.size + 1 + 1) [.int .i64 t.id_, Value.slice ua t.prog_.length uc, .int .i64 t.at_, .int .i64 t.reg0_, .int .i64 t.reg1_, .int .i64 t.reg2_, .int .i64 t.reg3_, Value.slice va t.open_.length vc, .int .i64 t.check_, Value.slice xa t.stack_.length xc, .int .i64 t.mine_, .int .i64 0, .int .i64 0, .int .i64 0] := by rw [← hw15]; exact bo14.set 10 (by simp) _
  have B15 : Below w.heap.size w w15 := by rw [← hw15]; exact B14.setCell (p := ⟨w.heap.size + 1 + 1, 10, none⟩) (by show w.heap.size ≤ w.heap.size + 1 + 1; omega) _
  have C15 := C14.set ⟨w.heap.size + 1 + 1, 10, none⟩ (.int .i64 t.mine_) rfl
  rw [hw15] at C15
  have D15 := D14.set ⟨w.heap.size + 1 + 1, 10, none⟩ (.int .i64 t.mine_) rfl
  rw [hw15] at D15
  have F15 := F14.set ⟨w.heap.size + 1 + 1, 10, none⟩ (.int .i64 t.mine_) rfl
  rw [hw15] at F15
  have hs15 : w15.heap.size = w14.heap.size := by rw [← hw15]; simp [World.setCell]
  have x15_11 : w15.cell? ⟨w.heap.size, 11, none⟩ = some (.int .i64 t.state_) := bx15.2 11 (by simp)
  have o15_11 : w15.cell? ⟨w.heap.size + 1 + 1, 11, none⟩ = some (.int .i64 0) := bo15.1.2 11 (by simp)
  have f15_11 : w15.frozen? ⟨w.heap.size + 1 + 1, 11, none⟩ = false := bo15.2 11 (by simp)
  obtain ⟨w16, hw16⟩ : ∃ X, w15.setCell ⟨w.heap.size + 1 + 1, 11, none⟩ (.int .i64 t.state_) = X := ⟨_, rfl⟩
  have bx16 := bx15.chg ((ChgS.refl (fun b => b = w.heap.size + 1 + 1) w15).set ⟨w.heap.size + 1 + 1, 11, none⟩ (.int .i64 t.state_) rfl) (by show ¬ (w.heap.size = w.heap.size + 1 + 1); omega)
  rw [hw16] at bx16
  have br16 := br15.other ⟨w.heap.size + 1 + 1, 11, none⟩ (.int .i64 t.state_) (by simp)
  rw [hw16] at br16
  have bo16 : BoxF w16 (w.heap.size + 1 + 1) [.int .i64 t.id_, Value.slice ua t.prog_.length uc, .int .i64 t.at_, .int .i64 t.reg0_, .int .i64 t.reg1_, .int .i64 t.reg2_, .int .i64 t.reg3_, Value.slice va t.open_.length vc, .int .i64 t.check_, Value.slice xa t.stack_.length xc, .int .i64 t.mine_, .int .i64 t.state_, .int .i64 0, .int .i64 0] := by rw [← hw16]; exact bo15.set 11 (by simp) _
  have B16 : Below w.heap.size w w16 := by rw [← hw16]; exact B15.setCell (p := ⟨w.heap.size + 1 + 1, 11, none⟩) (by show w.heap.size ≤ w.heap.size + 1 + 1; omega) _
  have C16 := C15.set ⟨w.heap.size + 1 + 1, 11, none⟩ (.int .i64 t.state_) rfl
  rw [hw16] at C16
  have D16 := D15.set ⟨w.heap.size + 1 + 1, 11, none⟩ (.int .i64 t.state_) rfl
  rw [hw16] at D16
  have F16 := F15.set ⟨w.heap.size + 1 + 1, 11, none⟩ (.int .i64 t.state_) rfl
  rw [hw16] at F16
  have hs16 : w16.heap.size = w15.heap.size := by rw [← hw16]; simp [World.setCell]
  have x16_12 : w16.cell? ⟨w.heap.size, 12, none⟩ = some (.int .i64 t.commits_) := bx16.2 12 (by simp)
  have o16_12 : w16.cell? ⟨w.heap.size + 1 + 1, 12, none⟩ = some (.int .i64 0) := bo16.1.2 12 (by simp)
  have f16_12 : w16.frozen? ⟨w.heap.size + 1 + 1, 12, none⟩ = false := bo16.2 12 (by simp)
  obtain ⟨w17, hw17⟩ : ∃ X, w16.setCell ⟨w.heap.size + 1 + 1, 12, none⟩ (.int .i64 t.commits_) = X := ⟨_, rfl⟩
  have bx17 := bx16.chg ((ChgS.refl (fun b => b = w.heap.size + 1 + 1) w16).set ⟨w.heap.size + 1 + 1, 12, none⟩ (.int .i64 t.commits_) rfl) (by show ¬ (w.heap.size = w.heap.size + 1 + 1); omega)
  rw [hw17] at bx17
  have br17 := br16.other ⟨w.heap.size + 1 + 1, 12, none⟩ (.int .i64 t.commits_) (by simp)
  rw [hw17] at br17
  have bo17 : BoxF w17 (w.heap.size + 1 + 1) [.int .i64 t.id_, Value.slice ua t.prog_.length uc, .int .i64 t.at_, .int .i64 t.reg0_, .int .i64 t.reg1_, .int .i64 t.reg2_, .int .i64 t.reg3_, Value.slice va t.open_.length vc, .int .i64 t.check_, Value.slice xa t.stack_.length xc, .int .i64 t.mine_, .int .i64 t.state_, .int .i64 t.commits_, .int .i64 0] := by rw [← hw17]; exact bo16.set 12 (by simp) _
  have B17 : Below w.heap.size w w17 := by rw [← hw17]; exact B16.setCell (p := ⟨w.heap.size + 1 + 1, 12, none⟩) (by show w.heap.size ≤ w.heap.size + 1 + 1; omega) _
  have C17 := C16.set ⟨w.heap.size + 1 + 1, 12, none⟩ (.int .i64 t.commits_) rfl
  rw [hw17] at C17
  have D17 := D16.set ⟨w.heap.size + 1 + 1, 12, none⟩ (.int .i64 t.commits_) rfl
  rw [hw17] at D17
  have F17 := F16.set ⟨w.heap.size + 1 + 1, 12, none⟩ (.int .i64 t.commits_) rfl
  rw [hw17] at F17
  have hs17 : w17.heap.size = w16.heap.size := by rw [← hw17]; simp [World.setCell]
  have x17_13 : w17.cell? ⟨w.heap.size, 13, none⟩ = some (.int .i64 t.fails_) := bx17.2 13 (by simp)
  have o17_13 : w17.cell? ⟨w.heap.size + 1 + 1, 13, none⟩ = some (.int .i64 0) := bo17.1.2 13 (by simp)
  have f17_13 : w17.frozen? ⟨w.heap.size + 1 + 1, 13, none⟩ = false := bo17.2 13 (by simp)
  obtain ⟨w18, hw18⟩ : ∃ X, w17.setCell ⟨w.heap.size + 1 + 1, 13, none⟩ (.int .i64 t.fails_) = X := ⟨_, rfl⟩
  have bx18 := bx17.chg ((ChgS.refl (fun b => b = w.heap.size + 1 + 1) w17).set ⟨w.heap.size + 1 + 1, 13, none⟩ (.int .i64 t.fails_) rfl) (by show ¬ (w.heap.size = w.heap.size + 1 + 1); omega)
  rw [hw18] at bx18
  have br18 := br17.other ⟨w.heap.size + 1 + 1, 13, none⟩ (.int .i64 t.fails_) (by simp)
  rw [hw18] at br18
  have bo18 : BoxF w18 (w.heap.size + 1 + 1) [.int .i64 t.id_, Value.slice ua t.prog_.length uc, .int .i64 t.at_, .int .i64 t.reg0_, .int .i64 t.reg1_, .int .i64 t.reg2_, .int .i64 t.reg3_, Value.slice va t.open_.length vc, .int .i64 t.check_, Value.slice xa t.stack_.length xc, .int .i64 t.mine_, .int .i64 t.state_, .int .i64 t.commits_, .int .i64 t.fails_] := by rw [← hw18]; exact bo17.set 13 (by simp) _
  have B18 : Below w.heap.size w w18 := by rw [← hw18]; exact B17.setCell (p := ⟨w.heap.size + 1 + 1, 13, none⟩) (by show w.heap.size ≤ w.heap.size + 1 + 1; omega) _
  have C18 := C17.set ⟨w.heap.size + 1 + 1, 13, none⟩ (.int .i64 t.fails_) rfl
  rw [hw18] at C18
  have D18 := D17.set ⟨w.heap.size + 1 + 1, 13, none⟩ (.int .i64 t.fails_) rfl
  rw [hw18] at D18
  have F18 := F17.set ⟨w.heap.size + 1 + 1, 13, none⟩ (.int .i64 t.fails_) rfl
  rw [hw18] at F18
  have hs18 : w18.heap.size = w17.heap.size := by rw [← hw18]; simp [World.setCell]
  have z0 : w18.cell? ⟨w.heap.size + 1 + 1, 0, none⟩ = some (.int .i64 t.id_) := bo18.1.2 0 (by simp)
  have z1 : w18.cell? ⟨w.heap.size + 1 + 1, 1, none⟩ = some (Value.slice ua t.prog_.length uc) := bo18.1.2 1 (by simp)
  have z2 : w18.cell? ⟨w.heap.size + 1 + 1, 2, none⟩ = some (.int .i64 t.at_) := bo18.1.2 2 (by simp)
  have z3 : w18.cell? ⟨w.heap.size + 1 + 1, 3, none⟩ = some (.int .i64 t.reg0_) := bo18.1.2 3 (by simp)
  have z4 : w18.cell? ⟨w.heap.size + 1 + 1, 4, none⟩ = some (.int .i64 t.reg1_) := bo18.1.2 4 (by simp)
  have z5 : w18.cell? ⟨w.heap.size + 1 + 1, 5, none⟩ = some (.int .i64 t.reg2_) := bo18.1.2 5 (by simp)
  have z6 : w18.cell? ⟨w.heap.size + 1 + 1, 6, none⟩ = some (.int .i64 t.reg3_) := bo18.1.2 6 (by simp)
  have z7 : w18.cell? ⟨w.heap.size + 1 + 1, 7, none⟩ = some (Value.slice va t.open_.length vc) := bo18.1.2 7 (by simp)
  have z8 : w18.cell? ⟨w.heap.size + 1 + 1, 8, none⟩ = some (.int .i64 t.check_) := bo18.1.2 8 (by simp)
  have z9 : w18.cell? ⟨w.heap.size + 1 + 1, 9, none⟩ = some (Value.slice xa t.stack_.length xc) := bo18.1.2 9 (by simp)
  have z10 : w18.cell? ⟨w.heap.size + 1 + 1, 10, none⟩ = some (.int .i64 t.mine_) := bo18.1.2 10 (by simp)
  have z11 : w18.cell? ⟨w.heap.size + 1 + 1, 11, none⟩ = some (.int .i64 t.state_) := bo18.1.2 11 (by simp)
  have z12 : w18.cell? ⟨w.heap.size + 1 + 1, 12, none⟩ = some (.int .i64 t.commits_) := bo18.1.2 12 (by simp)
  have z13 : w18.cell? ⟨w.heap.size + 1 + 1, 13, none⟩ = some (.int .i64 t.fails_) := bo18.1.2 13 (by simp)
  clear bx1 bx2 bx3 bx4 bx5 bx6 bx7 bx8 bx9 bx10 bx11 bx12 bx13 bx14 bx15 bx16 bx17 bx18
  replace C18 := C18.mono (T := fun b => b = w.heap.size + 1 ∨ b = w.heap.size + 1 + 1) (fun b hb => .inr hb)
  replace D18 := D18.mono (T := fun b => b = w.heap.size + 1 ∨ b = w.heap.size + 1 + 1) (fun b hb => .inr hb)
  replace F18 := F18.mono (T := fun b => b = w.heap.size + 1 ∨ b = w.heap.size + 1 + 1) (fun b hb => .inr hb)
  have r18 : w18.cell? ⟨w.heap.size + 1, 0, none⟩ = some (.int .i64 0) := br18.1.2 0 (by simp)
  have k18 : w18.frozen? ⟨w.heap.size + 1, 0, none⟩ = false := br18.2 0 (by simp)
  obtain ⟨w19, hw19⟩ : ∃ X, w18.setCell ⟨w.heap.size + 1, 0, none⟩ (.int .i64 t.id_) = X := ⟨_, rfl⟩
  have br19 : BoxF w19 (w.heap.size + 1) [.int .i64 t.id_, Value.slice none 0 0, .int .i64 0, .int .i64 0, .int .i64 0, .int .i64 0, .int .i64 0, Value.slice none 0 0, .int .i64 0, Value.slice none 0 0, .int .i64 0, .int .i64 0, .int .i64 0, .int .i64 0] := by rw [← hw19]; exact br18.set 0 (by simp) _
  have B19 : Below w.heap.size w w19 := by rw [← hw19]; exact B18.setCell (p := ⟨w.heap.size + 1, 0, none⟩) (by show w.heap.size ≤ w.heap.size + 1; omega) _
  have C19 := C18.set ⟨w.heap.size + 1, 0, none⟩ (.int .i64 t.id_) (.inl rfl)
  rw [hw19] at C19
  have D19 := D18.set ⟨w.heap.size + 1, 0, none⟩ (.int .i64 t.id_) (.inl rfl)
  rw [hw19] at D19
  have F19 := F18.set ⟨w.heap.size + 1, 0, none⟩ (.int .i64 t.id_) (.inl rfl)
  rw [hw19] at F19
  have hs19 : w19.heap.size = w18.heap.size := by rw [← hw19]; simp [World.setCell]
  have r19 : w19.cell? ⟨w.heap.size + 1, 1, none⟩ = some (Value.slice none 0 0) := br19.1.2 1 (by simp)
  have k19 : w19.frozen? ⟨w.heap.size + 1, 1, none⟩ = false := br19.2 1 (by simp)
  obtain ⟨w20, hw20⟩ : ∃ X, w19.setCell ⟨w.heap.size + 1, 1, none⟩ (Value.slice ua t.prog_.length uc) = X := ⟨_, rfl⟩
  have br20 : BoxF w20 (w.heap.size + 1) [.int .i64 t.id_, Value.slice ua t.prog_.length uc, .int .i64 0, .int .i64 0, .int .i64 0, .int .i64 0, .int .i64 0, Value.slice none 0 0, .int .i64 0, Value.slice none 0 0, .int .i64 0, .int .i64 0, .int .i64 0, .int .i64 0] := by rw [← hw20]; exact br19.set 1 (by simp) _
  have B20 : Below w.heap.size w w20 := by rw [← hw20]; exact B19.setCell (p := ⟨w.heap.size + 1, 1, none⟩) (by show w.heap.size ≤ w.heap.size + 1; omega) _
  have C20 := C19.set ⟨w.heap.size + 1, 1, none⟩ (Value.slice ua t.prog_.length uc) (.inl rfl)
  rw [hw20] at C20
  have D20 := D19.set ⟨w.heap.size + 1, 1, none⟩ (Value.slice ua t.prog_.length uc) (.inl rfl)
  rw [hw20] at D20
  have F20 := F19.set ⟨w.heap.size + 1, 1, none⟩ (Value.slice ua t.prog_.length uc) (.inl rfl)
  rw [hw20] at F20
  have hs20 : w20.heap.size = w19.heap.size := by rw [← hw20]; simp [World.setCell]
  have r20 : w20.cell? ⟨w.heap.size + 1, 2, none⟩ = some (.int .i64 0) := br20.1.2 2 (by simp)
  have k20 : w20.frozen? ⟨w.heap.size + 1, 2, none⟩ = false := br20.2 2 (by simp)
  obtain ⟨w21, hw21⟩ : ∃ X, w20.setCell ⟨w.heap.size + 1, 2, none⟩ (.int .i64 t.at_) = X := ⟨_, rfl⟩
  have br21 : BoxF w21 (w.heap.size + 1) [.int .i64 t.id_, Value.slice ua t.prog_.length uc, .int .i64 t.at_, .int .i64 0, .int .i64 0, .int .i64 0, .int .i64 0, Value.slice none 0 0, .int .i64 0, Value.slice none 0 0, .int .i64 0, .int .i64 0, .int .i64 0, .int .i64 0] := by rw [← hw21]; exact br20.set 2 (by simp) _
  have B21 : Below w.heap.size w w21 := by rw [← hw21]; exact B20.setCell (p := ⟨w.heap.size + 1, 2, none⟩) (by show w.heap.size ≤ w.heap.size + 1; omega) _
  have C21 := C20.set ⟨w.heap.size + 1, 2, none⟩ (.int .i64 t.at_) (.inl rfl)
  rw [hw21] at C21
  have D21 := D20.set ⟨w.heap.size + 1, 2, none⟩ (.int .i64 t.at_) (.inl rfl)
  rw [hw21] at D21
  have F21 := F20.set ⟨w.heap.size + 1, 2, none⟩ (.int .i64 t.at_) (.inl rfl)
  rw [hw21] at F21
  have hs21 : w21.heap.size = w20.heap.size := by rw [← hw21]; simp [World.setCell]
  have r21 : w21.cell? ⟨w.heap.size + 1, 3, none⟩ = some (.int .i64 0) := br21.1.2 3 (by simp)
  have k21 : w21.frozen? ⟨w.heap.size + 1, 3, none⟩ = false := br21.2 3 (by simp)
  obtain ⟨w22, hw22⟩ : ∃ X, w21.setCell ⟨w.heap.size + 1, 3, none⟩ (.int .i64 t.reg0_) = X := ⟨_, rfl⟩
  have br22 : BoxF w22 (w.heap.size + 1) [.int .i64 t.id_, Value.slice ua t.prog_.length uc, .int .i64 t.at_, .int .i64 t.reg0_, .int .i64 0, .int .i64 0, .int .i64 0, Value.slice none 0 0, .int .i64 0, Value.slice none 0 0, .int .i64 0, .int .i64 0, .int .i64 0, .int .i64 0] := by rw [← hw22]; exact br21.set 3 (by simp) _
  have B22 : Below w.heap.size w w22 := by rw [← hw22]; exact B21.setCell (p := ⟨w.heap.size + 1, 3, none⟩) (by show w.heap.size ≤ w.heap.size + 1; omega) _
  have C22 := C21.set ⟨w.heap.size + 1, 3, none⟩ (.int .i64 t.reg0_) (.inl rfl)
  rw [hw22] at C22
  have D22 := D21.set ⟨w.heap.size + 1, 3, none⟩ (.int .i64 t.reg0_) (.inl rfl)
  rw [hw22] at D22
  have F22 := F21.set ⟨w.heap.size + 1, 3, none⟩ (.int .i64 t.reg0_) (.inl rfl)
  rw [hw22] at F22
  have hs22 : w22.heap.size = w21.heap.size := by rw [← hw22]; simp [World.setCell]
  have r22 : w22.cell? ⟨w.heap.size + 1, 4, none⟩ = some (.int .i64 0) := br22.1.2 4 (by simp)
  have k22 : w22.frozen? ⟨w.heap.size + 1, 4, none⟩ = false := br22.2 4 (by simp)
  obtain ⟨w23, hw23⟩ : ∃ X, w22.setCell ⟨w.heap.size + 1, 4, none⟩ (.int .i64 t.reg1_) = X := ⟨_, rfl⟩
  have br23 : BoxF w23 (w.heap.size + 1) [.int .i64 t.id_, Value.slice ua t.prog_.length uc, .int .i64 t.at_, .int .i64 t.reg0_, .int .i64 t.reg1_, .int .i64 0, .int .i64 0, Value.slice none 0 0, .int .i64 0, Value.slice none 0 0, .int .i64 0, .int .i64 0, .int .i64 0, .int .i64 0] := by rw [← hw23]; exact br22.set 4 (by simp) _
  have B23 : Below w.heap.size w w23 := by rw [← hw23]; exact B22.setCell (p := ⟨w.heap.size + 1, 4, none⟩) (by show w.heap.size ≤ w.heap.size + 1; omega) _
  have C23 := C22.set ⟨w.heap.size + 1, 4, none⟩ (.int .i64 t.reg1_) (.inl rfl)
  rw [hw23] at C23
  have D23 := D22.set ⟨w.heap.size + 1, 4, none⟩ (.int .i64 t.reg1_) (.inl rfl)
  rw [hw23] at D23
  have F23 := F22.set ⟨w.heap.size + 1, 4, none⟩ (.int .i64 t.reg1_) (.inl rfl)
  rw [hw23] at F23
  have hs23 : w23.heap.size = w22.heap.size := by rw [← hw23]; simp [World.setCell]
  have r23 : w23.cell? ⟨w.heap.size + 1, 5, none⟩ = some (.int .i64 0) := br23.1.2 5 (by simp)
  have k23 : w23.frozen? ⟨w.heap.size + 1, 5, none⟩ = false := br23.2 5 (by simp)
  obtain ⟨w24, hw24⟩ : ∃ X, w23.setCell ⟨w.heap.size + 1, 5, none⟩ (.int .i64 t.reg2_) = X := ⟨_, rfl⟩
  have br24 : BoxF w24 (w.heap.size + 1) [.int .i64 t.id_, Value.slice ua t.prog_.length uc, .int .i64 t.at_, .int .i64 t.reg0_, .int .i64 t.reg1_, .int .i64 t.reg2_, .int .i64 0, Value.slice none 0 0, .int .i64 0, Value.slice none 0 0, .int .i64 0, .int .i64 0, .int .i64 0, .int .i64 0] := by rw [← hw24]; exact br23.set 5 (by simp) _
  have B24 : Below w.heap.size w w24 := by rw [← hw24]; exact B23.setCell (p := ⟨w.heap.size + 1, 5, none⟩) (by show w.heap.size ≤ w.heap.size + 1; omega) _
  have C24 := C23.set ⟨w.heap.size + 1, 5, none⟩ (.int .i64 t.reg2_) (.inl rfl)
  rw [hw24] at C24
  have D24 := D23.set ⟨w.heap.size + 1, 5, none⟩ (.int .i64 t.reg2_) (.inl rfl)
  rw [hw24] at D24
  have F24 := F23.set ⟨w.heap.size + 1, 5, none⟩ (.int .i64 t.reg2_) (.inl rfl)
  rw [hw24] at F24
  have hs24 : w24.heap.size = w23.heap.size := by rw [← hw24]; simp [World.setCell]
  have r24 : w24.cell? ⟨w.heap.size + 1, 6, none⟩ = some (.int .i64 0) := br24.1.2 6 (by simp)
  have k24 : w24.frozen? ⟨w.heap.size + 1, 6, none⟩ = false := br24.2 6 (by simp)
  obtain ⟨w25, hw25⟩ : ∃ X, w24.setCell ⟨w.heap.size + 1, 6, none⟩ (.int .i64 t.reg3_) = X := ⟨_, rfl⟩
  have br25 : BoxF w25 (w.heap.size + 1) [.int .i64 t.id_, Value.slice ua t.prog_.length uc, .int .i64 t.at_, .int .i64 t.reg0_, .int .i64 t.reg1_, .int .i64 t.reg2_, .int .i64 t.reg3_, Value.slice none 0 0, .int .i64 0, Value.slice none 0 0, .int .i64 0, .int .i64 0, .int .i64 0, .int .i64 0] := by rw [← hw25]; exact br24.set 6 (by simp) _
  have B25 : Below w.heap.size w w25 := by rw [← hw25]; exact B24.setCell (p := ⟨w.heap.size + 1, 6, none⟩) (by show w.heap.size ≤ w.heap.size + 1; omega) _
  have C25 := C24.set ⟨w.heap.size + 1, 6, none⟩ (.int .i64 t.reg3_) (.inl rfl)
  rw [hw25] at C25
  have D25 := D24.set ⟨w.heap.size + 1, 6, none⟩ (.int .i64 t.reg3_) (.inl rfl)
  rw [hw25] at D25
  have F25 := F24.set ⟨w.heap.size + 1, 6, none⟩ (.int .i64 t.reg3_) (.inl rfl)
  rw [hw25] at F25
  have hs25 : w25.heap.size = w24.heap.size := by rw [← hw25]; simp [World.setCell]
  have r25 : w25.cell? ⟨w.heap.size + 1, 7, none⟩ = some (Value.slice none 0 0) := br25.1.2 7 (by simp)
  have k25 : w25.frozen? ⟨w.heap.size + 1, 7, none⟩ = false := br25.2 7 (by simp)
  obtain ⟨w26, hw26⟩ : ∃ X, w25.setCell ⟨w.heap.size + 1, 7, none⟩ (Value.slice va t.open_.length vc) = X := ⟨_, rfl⟩
  have br26 : BoxF w26 (w.heap.size + 1) [.int .i64 t.id_, Value.slice ua t.prog_.length uc, .int .i64 t.at_, .int .i64 t.reg0_, .int .i64 t.reg1_, .int .i64 t.reg2_, .int .i64 t.reg3_, Value.slice va t.open_.length vc, .int .i64 0, Value.slice none 0 0, .int .i64 0, .int .i64 0, .int .i64 0, .int .i64 0] := by rw [← hw26]; exact br25.set 7 (by simp) _
  have B26 : Below w.heap.size w w26 := by rw [← hw26]; exact B25.setCell (p := ⟨w.heap.size + 1, 7, none⟩) (by show w.heap.size ≤ w.heap.size + 1; omega) _
  have C26 := C25.set ⟨w.heap.size + 1, 7, none⟩ (Value.slice va t.open_.length vc) (.inl rfl)
  rw [hw26] at C26
  have D26 := D25.set ⟨w.heap.size + 1, 7, none⟩ (Value.slice va t.open_.length vc) (.inl rfl)
  rw [hw26] at D26
  have F26 := F25.set ⟨w.heap.size + 1, 7, none⟩ (Value.slice va t.open_.length vc) (.inl rfl)
  rw [hw26] at F26
  have hs26 : w26.heap.size = w25.heap.size := by rw [← hw26]; simp [World.setCell]
  have r26 : w26.cell? ⟨w.heap.size + 1, 8, none⟩ = some (.int .i64 0) := br26.1.2 8 (by simp)
  have k26 : w26.frozen? ⟨w.heap.size + 1, 8, none⟩ = false := br26.2 8 (by simp)
  obtain ⟨w27, hw27⟩ : ∃ X, w26.setCell ⟨w.heap.size + 1, 8, none⟩ (.int .i64 t.check_) = X := ⟨_, rfl⟩
  have br27 : BoxF w27 (w.heap.size + 1) [.int .i64 t.id_, Value.slice ua t.prog_.length uc, .int .i64 t.at_, .int .i64 t.reg0_, .int .i64 t.reg1_, .int .i64 t.reg2_, .int .i64 t.reg3_, Value.slice va t.open_.length vc, .int .i64 t.check_, Value.slice none 0 0, .int .i64 0, .int .i64 0, .int .i64 0, .int .i64 0] := by rw [← hw27]; exact br26.set 8 (by simp) _
  have B27 : Below w.heap.size w w27 := by rw [← hw27]; exact B26.setCell (p := ⟨w.heap.size + 1, 8, none⟩) (by show w.heap.size ≤ w.heap.size + 1; omega) _
  have C27 := C26.set ⟨w.heap.size + 1, 8, none⟩ (.int .i64 t.check_) (.inl rfl)
  rw [hw27] at C27
  have D27 := D26.set ⟨w.heap.size + 1, 8, none⟩ (.int .i64 t.check_) (.inl rfl)
  rw [hw27] at D27
  have F27 := F26.set ⟨w.heap.size + 1, 8, none⟩ (.int .i64 t.check_) (.inl rfl)
  rw [hw27] at F27
  have hs27 : w27.heap.size = w26.heap.size := by rw [← hw27]; simp [World.setCell]
  have r27 : w27.cell? ⟨w.heap.size + 1, 9, none⟩ = some (Value.slice none 0 0) := br27.1.2 9 (by simp)
  have k27 : w27.frozen? ⟨w.heap.size + 1, 9, none⟩ = false := br27.2 9 (by simp)
  obtain ⟨w28, hw28⟩ : ∃ X, w27.setCell ⟨w.heap.size + 1, 9, none⟩ (Value.slice xa t.stack_.length xc) = X := ⟨_, rfl⟩
  have br28 : BoxF w28 (w.heap.size + 1) [.int .i64 t.id_, Value.slice ua t.prog_.length uc, .int .i64 t.at_, .int .i64 t.reg0_, .int .i64 t.reg1_, .int .i64 t.reg2_, .int .i64 t.reg3_, Value.slice va t.open_.length vc, .int .i64 t.check_, Value.slice xa t.stack_.length xc, .int .i64 0, .int .i64 0, .int .i64 0, .int .i64 0] := by rw [← hw28]; exact br27.set 9 (by simp) _
  have B28 : Below w.heap.size w w28 := by rw [← hw28]; exact B27.setCell (p := ⟨w.heap.size + 1, 9, none⟩) (by show w.heap.size ≤ w.heap.size + 1; omega) _
  have C28 := C27.set ⟨w.heap.size + 1, 9, none⟩ (Value.slice xa t.stack_.length xc) (.inl rfl)
  rw [hw28] at C28
  have D28 := D27.set ⟨w.heap.size + 1, 9, none⟩ (Value.slice xa t.stack_.length xc) (.inl rfl)
  rw [hw28] at D28
  have F28 := F27.set ⟨w.heap.size + 1, 9, none⟩ (Value.slice xa t.stack_.length xc) (.inl rfl)
  rw [hw28] at F28
  have hs28 : w28.heap.size = w27.heap.size := by rw [← hw28]; simp [World.setCell]
  have r28 : w28.cell? ⟨w.heap.size + 1, 10, none⟩ = some (.int .i64 0) := br28.1.2 10 (by simp)
  have k28 : w28.frozen? ⟨w.heap.size + 1, 10, none⟩ = false := br28.2 10 (by simp)
  obtain ⟨w29, hw29⟩ : ∃ X, w28.setCell ⟨w.heap.size + 1, 10, none⟩ (.int .i64 t.mine_) = X := ⟨_, rfl⟩
  have br29 : BoxF w29 (w.heap.size + 1) [.int .i64 t.id_, Value.slice ua t.prog_.length uc, .int .i64 t.at_, .int .i64 t.reg0_, .int .i64 t.reg1_, .int .i64 t.reg2_, .int .i64 t.reg3_, Value.slice va t.open_.length vc, .int .i64 t.check_, Value.slice xa t.stack_.length xc, .int .i64 t.mine_, .int .i64 0, .int .i64 0, .int .i64 0] := by rw [← hw29]; exact br28.set 10 (by simp) _
  have B29 : Below w.heap.size w w29 := by rw [← hw29]; exact B28.setCell (p := ⟨w.heap.size + 1, 10, none⟩) (by show w.heap.size ≤ w.heap.size + 1; omega) _
  have C29 := C28.set ⟨w.heap.size + 1, 10, none⟩ (.int .i64 t.mine_) (.inl rfl)
  rw [hw29] at C29
  have D29 := D28.set ⟨w.heap.size + 1, 10, none⟩ (.int .i64 t.mine_) (.inl rfl)
  rw [hw29] at D29
  have F29 := F28.set ⟨w.heap.size + 1, 10, none⟩ (.int .i64 t.mine_) (.inl rfl)
  rw [hw29] at F29
  have hs29 : w29.heap.size = w28.heap.size := by rw [← hw29]; simp [World.setCell]
  have r29 : w29.cell? ⟨w.heap.size + 1, 11, none⟩ = some (.int .i64 0) := br29.1.2 11 (by simp)
  have k29 : w29.frozen? ⟨w.heap.size + 1, 11, none⟩ = false := br29.2 11 (by simp)
  obtain ⟨w30, hw30⟩ : ∃ X, w29.setCell ⟨w.heap.size + 1, 11, none⟩ (.int .i64 t.state_) = X := ⟨_, rfl⟩
  have br30 : BoxF w30 (w.heap.size + 1) [.int .i64 t.id_, Value.slice ua t.prog_.length uc, .int .i64 t.at_, .int .i64 t.reg0_, .int .i64 t.reg1_, .int .i64 t.reg2_, .int .i64 t.reg3_, Value.slice va t.open_.length vc, .int .i64 t.check_, Value.slice xa t.stack_.length xc, .int .i64 t.mine_, .int .i64 t.state_, .int .i64 0, .int .i64 0] := by rw [← hw30]; exact br29.set 11 (by simp) _
  have B30 : Below w.heap.size w w30 := by rw [← hw30]; exact B29.setCell (p := ⟨w.heap.size + 1, 11, none⟩) (by show w.heap.size ≤ w.heap.size + 1; omega) _
  have C30 := C29.set ⟨w.heap.size + 1, 11, none⟩ (.int .i64 t.state_) (.inl rfl)
  rw [hw30] at C30
  have D30 := D29.set ⟨w.heap.size + 1, 11, none⟩ (.int .i64 t.state_) (.inl rfl)
  rw [hw30] at D30
  have F30 := F29.set ⟨w.heap.size + 1, 11, none⟩ (.int .i64 t.state_) (.inl rfl)
  rw [hw30] at F30
  have hs30 : w30.heap.size = w29.heap.size := by rw [← hw30]; simp [World.setCell]
  have r30 : w30.cell? ⟨w.heap.size + 1, 12, none⟩ = some (.int .i64 0) := br30.1.2 12 (by simp)
  have k30 : w30.frozen? ⟨w.heap.size + 1, 12, none⟩ = false := br30.2 12 (by simp)
  obtain ⟨w31, hw31⟩ : ∃ X, w30.setCell ⟨w.heap.size + 1, 12, none⟩ (.int .i64 t.commits_) = X := ⟨_, rfl⟩
  have br31 : BoxF w31 (w.heap.size + 1) [.int .i64 t.id_, Value.slice ua t.prog_.length uc, .int .i64 t.at_, .int .i64 t.reg0_, .int .i64 t.reg1_, .int .i64 t.reg2_, .int .i64 t.reg3_, Value.slice va t.open_.length vc, .int .i64 t.check_, Value.slice xa t.stack_.length xc, .int .i64 t.mine_, .int .i64 t.state_, .int .i64 t.commits_, .int .i64 0] := by rw [← hw31]; exact br30.set 12 (by simp) _
  have B31 : Below w.heap.size w w31 := by rw [← hw31]; exact B30.setCell (p := ⟨w.heap.size + 1, 12, none⟩) (by show w.heap.size ≤ w.heap.size + 1; omega) _
  have C31 := C30.set ⟨w.heap.size + 1, 12, none⟩ (.int .i64 t.commits_) (.inl rfl)
  rw [hw31] at C31
  have D31 := D30.set ⟨w.heap.size + 1, 12, none⟩ (.int .i64 t.commits_) (.inl rfl)
  rw [hw31] at D31
  have F31 := F30.set ⟨w.heap.size + 1, 12, none⟩ (.int .i64 t.commits_) (.inl rfl)
  rw [hw31] at F31
  have hs31 : w31.heap.size = w30.heap.size := by rw [← hw31]; simp [World.setCell]
  have r31 : w31.cell? ⟨w.heap.size + 1, 13, none⟩ = some (.int .i64 0) := br31.1.2 13 (by simp)
  have k31 : w31.frozen? ⟨w.heap.size + 1, 13, none⟩ = false := br31.2 13 (by simp)
  obtain ⟨w32, hw32⟩ : ∃ X, w31.setCell ⟨w.heap.size + 1, 13, none⟩ (.int .i64 t.fails_) = X := ⟨_, rfl⟩
  have br32 : BoxF w32 (w.heap.size + 1) [.int .i64 t.id_, Value.slice ua t.prog_.length uc, .int .i64 t.at_, .int .i64 t.reg0_, .int .i64 t.reg1_, .int .i64 t.reg2_, .int .i64 t.reg3_, Value.slice va t.open_.length vc, .int .i64 t.check_, Value.slice xa t.stack_.length xc, .int .i64 t.mine_, .int .i64 t.state_, .int .i64 t.commits_, .int .i64 t.fails_] := by rw [← hw32]; exact br31.set 13 (by simp) _
  have B32 : Below w.heap.size w w32 := by rw [← hw32]; exact B31.setCell (p := ⟨w.heap.size + 1, 13, none⟩) (by show w.heap.size ≤ w.heap.size + 1; omega) _
  have C32 := C31.set ⟨w.heap.size + 1, 13, none⟩ (.int .i64 t.fails_) (.inl rfl)
  rw [hw32] at C32
  have D32 := D31.set ⟨w.heap.size + 1, 13, none⟩ (.int .i64 t.fails_) (.inl rfl)
  rw [hw32] at D32
  have F32 := F31.set ⟨w.heap.size + 1, 13, none⟩ (.int .i64 t.fails_) (.inl rfl)
  rw [hw32] at F32
  have hs32 : w32.heap.size = w31.heap.size := by rw [← hw32]; simp [World.setCell]
  have y0 : w32.cell? ⟨w.heap.size + 1, 0, none⟩ = some (.int .i64 t.id_) := br32.1.2 0 (by simp)
  have y1 : w32.cell? ⟨w.heap.size + 1, 1, none⟩ = some (Value.slice ua t.prog_.length uc) := br32.1.2 1 (by simp)
  have y2 : w32.cell? ⟨w.heap.size + 1, 2, none⟩ = some (.int .i64 t.at_) := br32.1.2 2 (by simp)
  have y3 : w32.cell? ⟨w.heap.size + 1, 3, none⟩ = some (.int .i64 t.reg0_) := br32.1.2 3 (by simp)
  have y4 : w32.cell? ⟨w.heap.size + 1, 4, none⟩ = some (.int .i64 t.reg1_) := br32.1.2 4 (by simp)
  have y5 : w32.cell? ⟨w.heap.size + 1, 5, none⟩ = some (.int .i64 t.reg2_) := br32.1.2 5 (by simp)
  have y6 : w32.cell? ⟨w.heap.size + 1, 6, none⟩ = some (.int .i64 t.reg3_) := br32.1.2 6 (by simp)
  have y7 : w32.cell? ⟨w.heap.size + 1, 7, none⟩ = some (Value.slice va t.open_.length vc) := br32.1.2 7 (by simp)
  have y8 : w32.cell? ⟨w.heap.size + 1, 8, none⟩ = some (.int .i64 t.check_) := br32.1.2 8 (by simp)
  have y9 : w32.cell? ⟨w.heap.size + 1, 9, none⟩ = some (Value.slice xa t.stack_.length xc) := br32.1.2 9 (by simp)
  have y10 : w32.cell? ⟨w.heap.size + 1, 10, none⟩ = some (.int .i64 t.mine_) := br32.1.2 10 (by simp)
  have y11 : w32.cell? ⟨w.heap.size + 1, 11, none⟩ = some (.int .i64 t.state_) := br32.1.2 11 (by simp)
  have y12 : w32.cell? ⟨w.heap.size + 1, 12, none⟩ = some (.int .i64 t.commits_) := br32.1.2 12 (by simp)
  have y13 : w32.cell? ⟨w.heap.size + 1, 13, none⟩ = some (.int .i64 t.fails_) := br32.1.2 13 (by simp)
  have CE := hid C32
  have DE := hid D32
  have FE := hid F32
  have BE := hid B32
  clear B2 B3 B4 B5 B6 B7 B8 B9 B10 B11 B12 B13 B14 B15 B16 B17 B18 B19 B20 B21 B22 B23 B24 B25 B26 B27 B28 B29 B30 B31 B32 C2 C3 C4 C5 C6 C7 C8 C9 C10 C11 C12 C13 C14 C15 C16 C17 C18 C19 C20 C21 C22 C23 C24 C25 C26 C27 C28 C29 C30 C31 C32 D10 D11 D12 D13 D14 D15 D16 D17 D18 D19 D20 D21 D22 D23 D24 D25 D26 D27 D28 D29 D30 D31 D32 F13 F14 F15 F16 F17 F18 F19 F20 F21 F22 F23 F24 F25 F26 F27 F28 F29 F30 F31 F32 br1 br2 br3 br4 br5 br6 br7 br8 br9 br10 br11 br12 br13 br14 br15 br16 br17 br18 br19 br20 br21 br22 br23 br24 br25 br26 br27 br28 br29 br30 br31 br32 bo1 bo2 bo3 bo4 bo5 bo6 bo7 bo8 bo9 bo10 bo11 bo12 bo13 bo14 bo15 bo16 bo17 bo18
  go_wp2
  refine bodyPost_ret (v := .agg #[.int .i64 t.id_, Value.slice ua t.prog_.length uc, .int .i64 t.at_, .int .i64 t.reg0_, .int .i64 t.reg1_, .int .i64 t.reg2_, .int .i64 t.reg3_, Value.slice va t.open_.length vc, .int .i64 t.check_, Value.slice xa t.stack_.length xc, .int .i64 t.mine_, .int .i64 t.state_, .int .i64 t.commits_, .int .i64 t.fails_]) ?_ rfl ⟨_, _, _, S0, S1, S2, rfl, m0.chg CE.out ?_, m1.chg DE.out ?_, m2.chg FE.out ?_, ?_, ?_, ?_, ?_, ?_, ?_, BE.out⟩
  · simp [results, Tryz.results44, go_sem, y0, y1, y2, y3, y4, y5, y6, y7, y8, y9, y10, y11, y12, y13]
  · intro b hb
    have h9 := g0 b hb
    exact ⟨h9.2, fun h => by have := h9.1; rcases h with h | h <;> omega⟩
  · intro b hb
    have h9 := g1 b hb
    exact ⟨h9.2, fun h => by have := h9.1; rcases h with h | h <;> omega⟩
  · intro b hb
    have h9 := g2 b hb
    exact ⟨h9.2, fun h => by have := h9.1; rcases h with h | h <;> omega⟩
  · intro b hb
    have h9 := g0 b hb
    exact ⟨by have := h9.1; omega, by have := h9.2; have := CE.out.size; omega⟩
  · intro b hb
    have h9 := g1 b hb
    exact ⟨by have := h9.1; omega, by have := h9.2; have := DE.out.size; omega⟩
  · intro b hb
    have h9 := g2 b hb
    exact ⟨by have := h9.1; omega, by have := h9.2; have := FE.out.size; omega⟩
  · intro b hb hc
    have h8 := g0 b hb; have h9 := g1 b hc
    have := h8.2; have := h9.1; omega
  · intro b hb hc
    have h8 := g0 b hb; have h9 := g2 b hc
    have := h8.2; have := h9.1; omega
  · intro b hb hc
    have h8 := g1 b hb; have h9 := g2 b hc
    have := h8.2; have := h9.1; omega
end Go.Proofs.YtbbdchlabdilcabGreat
