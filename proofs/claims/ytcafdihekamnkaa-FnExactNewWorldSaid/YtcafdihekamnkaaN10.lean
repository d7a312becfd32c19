/- Chapter 10's data in memory: what the laws' helpers do on a thread. (printed by tools/mk_thread.py) -/
import Derived.Test.YtcafdihekamnkaaN10o
import Derived.Test.YtcafdihekamnkaaEnc5
import Derived.Test.YtcafdihekamnkaaHop
import Derived.Deep.Cut
namespace Go.Proofs.Ytcafdihekamnkaa
set_option maxRecDepth 100000
open Go.RowKit Go.Proofs Go.Own
set_option linter.unusedVariables false
set_option linter.unusedSimpArgs false
-- a list of entries
def EntrySB (xs : List Entry) : Prop := xs.length ≤ 1048576
def szEntrySD (xs : List Entry) : Nat := xs.length
def cntEntryS (xs : List Entry) : Nat := 5 * xs.length
def markEntrySD (xs : List Entry) (k : Int) : List Entry := markEs k xs.length
theorem cntEntryS_le {xs : List Entry} (h : EntrySB xs) : cntEntryS xs ≤ 100000000 := by unfold EntrySB at h; unfold cntEntryS; omega
theorem ownEntry_of {w w' : World} {u : Value} {xs : List Entry} (o : w'.ownsRow w.heap.size 102 5 u xs.length (xs.flatMap Entry.enc)) : ownL (Rg w.heap.size w'.heap.size) w' u xs := ownEntrys.2 ⟨owns_base o (fun _ _ => Nat.zero_le _), fun k hk => owns_in o k hk⟩
theorem eqEntryS_o (xs : List Entry) (v u : Value) (w : World) (r : rdsL w v xs) (g : rdsL w u xs) :
    Calls Try.prog 64 #[v, u] w fun e w' => e = .returned (.bool true) ∧ Below w.heap.size w w' := eqEntryS_c v u xs w (rdsEntrys.1 r) (rdsEntrys.1 g)
theorem markEntryS_o (S : Nat → Prop) (xs : List Entry) (v : Value) (k : Int) (w : World) (hS : ∀ b, S b → b < w.heap.size) (hb : EntrySB xs) (h0 : 0 ≤ k) (h1 : k ≤ 1000000000000000) (o : ownL S w v xs) :
    Calls Try.prog 50 #[v, .int .i64 k] w fun r w' => r = .returned (.int .i64 (k + cntEntryS xs)) ∧ ownL S w' v (markEntrySD xs k) ∧ ChgS S w w' := by
  obtain ⟨r, hbk⟩ := ownEntrys.1 o
  unfold EntrySB at hb
  refine (markEntryS_c 0 102 v xs.length _ k w (by omega) h0 (by omega) r).mono ?_
  rintro e w' ⟨rfl, r2, g2⟩
  refine ⟨by unfold cntEntryS; exact ret_int (by omega), ownEntrys.2 ⟨?_, hbk⟩, ChgS.of_grown g2 fun b e => hbk b e⟩
  show w'.ownsRow 0 _ 5 v (markEs k xs.length).length ((markEs k xs.length).flatMap Entry.enc)
  rw [markEs_len, markEs_enc]; exact r2
theorem heldEntryS_o (xs : List Entry) (v : Value) (k : Int) (w : World) (hb : EntrySB xs) (h0 : 0 ≤ k) (h1 : k ≤ 1000000000000000) (r : rdsL w v (markEntrySD xs k)) :
    Calls Try.prog 55 #[v, .int .i64 k] w fun r w' => r = .returned (.int .i64 (k + cntEntryS xs)) ∧ Below w.heap.size w w' := by
  unfold EntrySB at hb
  have h := rdsEntrys.1 r
  unfold Entrys at h
  have e1 : markEntrySD xs k = markEs k xs.length := rfl
  rw [e1, markEs_len, markEs_enc] at h
  refine (heldEntryS_c v xs.length k w (by omega) h0 (by omega) h).mono ?_
  rintro e w' ⟨rfl, b⟩
  exact ⟨by unfold cntEntryS; exact ret_int (by omega), b⟩
-- a thread
structure ThreadD where
  id_ : Int
  prog_ : List Instr
  at_ : Int
  reg0_ : Int
  reg1_ : Int
  reg2_ : Int
  reg3_ : Int
  open_ : List Entry
  check_ : Int
  stack_ : List Frame
  mine_ : Int
  state_ : Int
  commits_ : Int
  fails_ : Int
def ThreadB (t : ThreadD) : Prop := t.prog_.length + t.open_.length + t.stack_.length ≤ 1048576
def szThreadD (t : ThreadD) : Nat := t.prog_.length + t.open_.length + t.stack_.length
def cntThread (t : ThreadD) : Nat := cntInstrS t.prog_ + cntEntryS t.open_ + cntFrameS t.stack_
def markThreadD (t : ThreadD) (k : Int) : ThreadD := { t with prog_ := markInstrSD t.prog_ k, open_ := markEntrySD t.open_ (k + cntInstrS t.prog_), stack_ := markFrameSD t.stack_ (k + cntInstrS t.prog_ + cntEntryS t.open_) }
theorem threadB_parts {t : ThreadD} (h : ThreadB t) : InstrSB t.prog_ ∧ EntrySB t.open_ ∧ FrameSB t.stack_ := by unfold ThreadB at h; unfold InstrSB EntrySB FrameSB; omega
theorem cntThread_le {t : ThreadD} (h : ThreadB t) : cntThread t ≤ 100000000 := by unfold ThreadB at h; unfold cntThread cntInstrS cntEntryS cntFrameS; omega
theorem eqThread_o (t : ThreadD) (v0 v1 v2 u0 u1 u2 : Value) (w : World) (r0 : rdsL w v0 t.prog_) (r1 : rdsL w v1 t.open_) (r2 : rdsL w v2 t.stack_) (g0 : rdsL w u0 t.prog_) (g1 : rdsL w u1 t.open_) (g2 : rdsL w u2 t.stack_) :
    Calls Try.prog 45 #[.agg #[.int .i64 t.id_, v0, .int .i64 t.at_, .int .i64 t.reg0_, .int .i64 t.reg1_, .int .i64 t.reg2_, .int .i64 t.reg3_, v1, .int .i64 t.check_, v2, .int .i64 t.mine_, .int .i64 t.state_, .int .i64 t.commits_, .int .i64 t.fails_], .agg #[.int .i64 t.id_, u0, .int .i64 t.at_, .int .i64 t.reg0_, .int .i64 t.reg1_, .int .i64 t.reg2_, .int .i64 t.reg3_, u1, .int .i64 t.check_, u2, .int .i64 t.mine_, .int .i64 t.state_, .int .i64 t.commits_, .int .i64 t.fails_]] w fun e w' => e = .returned (.bool true) ∧ Below w.heap.size w w' := by
  obtain ⟨W1, hW1⟩ : ∃ X, (w.alloc (.cells #[.int .i64 t.id_, v0, .int .i64 t.at_, .int .i64 t.reg0_, .int .i64 t.reg1_, .int .i64 t.reg2_, .int .i64 t.reg3_, v1, .int .i64 t.check_, v2, .int .i64 t.mine_, .int .i64 t.state_, .int .i64 t.commits_, .int .i64 t.fails_] 55)).alloc (.cells #[.int .i64 t.id_, u0, .int .i64 t.at_, .int .i64 t.reg0_, .int .i64 t.reg1_, .int .i64 t.reg2_, .int .i64 t.reg3_, u1, .int .i64 t.check_, u2, .int .i64 t.mine_, .int .i64 t.state_, .int .i64 t.commits_, .int .i64 t.fails_] 55) = X := ⟨_, rfl⟩
  have hB1 : Below w.heap.size w W1 := by rw [← hW1]; exact ((Below.refl _ _).alloc (Nat.le_refl _) _).alloc (by simp) _
  have bx : Box W1 w.heap.size [.int .i64 t.id_, v0, .int .i64 t.at_, .int .i64 t.reg0_, .int .i64 t.reg1_, .int .i64 t.reg2_, .int .i64 t.reg3_, v1, .int .i64 t.check_, v2, .int .i64 t.mine_, .int .i64 t.state_, .int .i64 t.commits_, .int .i64 t.fails_] := by
    rw [← hW1]; exact (Box.alloc w #[.int .i64 t.id_, v0, .int .i64 t.at_, .int .i64 t.reg0_, .int .i64 t.reg1_, .int .i64 t.reg2_, .int .i64 t.reg3_, v1, .int .i64 t.check_, v2, .int .i64 t.mine_, .int .i64 t.state_, .int .i64 t.commits_, .int .i64 t.fails_] 55).below ((Below.refl _ _).alloc (Nat.le_refl _) _)
  have by1 : Box W1 (w.heap.size + 1) [.int .i64 t.id_, u0, .int .i64 t.at_, .int .i64 t.reg0_, .int .i64 t.reg1_, .int .i64 t.reg2_, .int .i64 t.reg3_, u1, .int .i64 t.check_, u2, .int .i64 t.mine_, .int .i64 t.state_, .int .i64 t.commits_, .int .i64 t.fails_] := by
    rw [← hW1]
    have h9 := Box.alloc (w.alloc (.cells #[.int .i64 t.id_, v0, .int .i64 t.at_, .int .i64 t.reg0_, .int .i64 t.reg1_, .int .i64 t.reg2_, .int .i64 t.reg3_, v1, .int .i64 t.check_, v2, .int .i64 t.mine_, .int .i64 t.state_, .int .i64 t.commits_, .int .i64 t.fails_] 55)) #[.int .i64 t.id_, u0, .int .i64 t.at_, .int .i64 t.reg0_, .int .i64 t.reg1_, .int .i64 t.reg2_, .int .i64 t.reg3_, u1, .int .i64 t.check_, u2, .int .i64 t.mine_, .int .i64 t.state_, .int .i64 t.commits_, .int .i64 t.fails_] 55
    rw [show (w.alloc (.cells #[.int .i64 t.id_, v0, .int .i64 t.at_, .int .i64 t.reg0_, .int .i64 t.reg1_, .int .i64 t.reg2_, .int .i64 t.reg3_, v1, .int .i64 t.check_, v2, .int .i64 t.mine_, .int .i64 t.state_, .int .i64 t.commits_, .int .i64 t.fails_] 55)).heap.size = w.heap.size + 1 by simp] at h9
    exact h9
  have q0 := hid (rdsL.below r0 hB1)
  have q1 := hid (rdsL.below r1 hB1)
  have q2 := hid (rdsL.below r2 hB1)
  have p0 := hid (rdsL.below g0 hB1)
  have p1 := hid (rdsL.below g1 hB1)
  have p2 := hid (rdsL.below g2 hB1)
  have HW1 := hid hW1
  clear hW1 r0 r1 r2 g0 g1 g2
  go_enter Try.func45, Try.ntmps45
  go_wp2_with fail
  rw [HW1.out]
  refine (eqInstrS_o t.prog_ v0 u0 _ q0.out p0.out).mono ?_
  rintro e w2 ⟨rfl, b2⟩
  have B2 := hid (hB1.trans (b2.mono hB1.size))
  have bx_2 := bx.below b2
  have by_2 := by1.below b2
  have x2 : w2.cell? ⟨w.heap.size, 2, none⟩ = some (.int .i64 t.at_) := bx_2.2 2 (by simp)
  have y2 : w2.cell? ⟨w.heap.size + 1, 2, none⟩ = some (.int .i64 t.at_) := by_2.2 2 (by simp)
  have x3 : w2.cell? ⟨w.heap.size, 3, none⟩ = some (.int .i64 t.reg0_) := bx_2.2 3 (by simp)
  have y3 : w2.cell? ⟨w.heap.size + 1, 3, none⟩ = some (.int .i64 t.reg0_) := by_2.2 3 (by simp)
  have x4 : w2.cell? ⟨w.heap.size, 4, none⟩ = some (.int .i64 t.reg1_) := bx_2.2 4 (by simp)
  have y4 : w2.cell? ⟨w.heap.size + 1, 4, none⟩ = some (.int .i64 t.reg1_) := by_2.2 4 (by simp)
  have x5 : w2.cell? ⟨w.heap.size, 5, none⟩ = some (.int .i64 t.reg2_) := bx_2.2 5 (by simp)
  have y5 : w2.cell? ⟨w.heap.size + 1, 5, none⟩ = some (.int .i64 t.reg2_) := by_2.2 5 (by simp)
  have x6 : w2.cell? ⟨w.heap.size, 6, none⟩ = some (.int .i64 t.reg3_) := bx_2.2 6 (by simp)
  have y6 : w2.cell? ⟨w.heap.size + 1, 6, none⟩ = some (.int .i64 t.reg3_) := by_2.2 6 (by simp)
  go_wp2_with fail
  refine (eqIntA4_c _ _ _ _ _).mono ?_
  rintro e w3 ⟨rfl, b3⟩
  have B3 := hid (B2.out.trans (b3.mono B2.out.size))
  have s1 := hid (rdsL.below q1.out (b2.trans (b3.mono b2.size)))
  have s2 := hid (rdsL.below q2.out (b2.trans (b3.mono b2.size)))
  have t1 := hid (rdsL.below p1.out (b2.trans (b3.mono b2.size)))
  have t2 := hid (rdsL.below p2.out (b2.trans (b3.mono b2.size)))
  have bx_3 := bx_2.below b3
  have by_3 := by_2.below b3
  have x7 : w3.cell? ⟨w.heap.size, 7, none⟩ = some (v1) := bx_3.2 7 (by simp)
  have y7 : w3.cell? ⟨w.heap.size + 1, 7, none⟩ = some (u1) := by_3.2 7 (by simp)
  go_wp2_with fail
  refine (eqEntryS_o t.open_ v1 u1 _ s1.out t1.out).mono ?_
  rintro e w4 ⟨rfl, b4⟩
  have B4 := hid (B3.out.trans (b4.mono B3.out.size))
  have s3 := hid (rdsL.below s2.out b4)
  have t3 := hid (rdsL.below t2.out b4)
  have bx_4 := bx_3.below b4
  have by_4 := by_3.below b4
  have x8 : w4.cell? ⟨w.heap.size, 8, none⟩ = some (.int .i64 t.check_) := bx_4.2 8 (by simp)
  have y8 : w4.cell? ⟨w.heap.size + 1, 8, none⟩ = some (.int .i64 t.check_) := by_4.2 8 (by simp)
  have x9 : w4.cell? ⟨w.heap.size, 9, none⟩ = some (v2) := bx_4.2 9 (by simp)
  have y9 : w4.cell? ⟨w.heap.size + 1, 9, none⟩ = some (u2) := by_4.2 9 (by simp)
  go_wp2_with fail
  refine (eqFrameS_o t.stack_ v2 u2 _ s3.out t3.out).mono ?_
  rintro e w5 ⟨rfl, b5⟩
  have B5 := hid (B4.out.trans (b5.mono B4.out.size))
  have bx_5 := bx_4.below b5
  have by_5 := by_4.below b5
  have x10 : w5.cell? ⟨w.heap.size, 10, none⟩ = some (.int .i64 t.mine_) := bx_5.2 10 (by simp)
  have y10 : w5.cell? ⟨w.heap.size + 1, 10, none⟩ = some (.int .i64 t.mine_) := by_5.2 10 (by simp)
  have x11 : w5.cell? ⟨w.heap.size, 11, none⟩ = some (.int .i64 t.state_) := bx_5.2 11 (by simp)
  have y11 : w5.cell? ⟨w.heap.size + 1, 11, none⟩ = some (.int .i64 t.state_) := by_5.2 11 (by simp)
  have x12 : w5.cell? ⟨w.heap.size, 12, none⟩ = some (.int .i64 t.commits_) := bx_5.2 12 (by simp)
  have y12 : w5.cell? ⟨w.heap.size + 1, 12, none⟩ = some (.int .i64 t.commits_) := by_5.2 12 (by simp)
  have x13 : w5.cell? ⟨w.heap.size, 13, none⟩ = some (.int .i64 t.fails_) := bx_5.2 13 (by simp)
  have y13 : w5.cell? ⟨w.heap.size + 1, 13, none⟩ = some (.int .i64 t.fails_) := by_5.2 13 (by simp)
  go_wp2
  go_ret
  exact ⟨rfl, B5.out⟩
end Go.Proofs.Ytcafdihekamnkaa
